/-
  The contract of the document's own Commit of a change.
-/
import Derived.Test.YtcpplldfmmpaoaaGreatDoorTxnPure2
namespace Go.Proofs.YtcpplldfmmpaoaaGreatDoor
open Go.RowKit Go.Extern.Stop Go.Stop Go.Extern Go.Sort Go.Shelf Go.Lib

def RComP (w : World) (E : Nat × Option Nat) (S : Sn) (e : Ending) (w' : World) : Prop :=
  ∃ vf, e = .returned (.tuple #[snV S vf, .agg #[.int .i64 E.1, .int .i64 (atZ E.2)]]) ∧ FlsAt w' vf S.2.2.2.2.2.2 ∧ Below w.heap.size w w'
theorem rcom_zero {w w' : World} {E : Nat × Option Nat} {S : Sn} {n : Nat} (hS : S = zeroS) (hE : E = (n, none)) (hb : Below w.heap.size w w') : RComP w E S (.returned (.tuple #[.agg #[.int .i64 0, .int .i64 0, .int .i64 0, .int .i64 0, .int .i64 0, .string ⟨#[]⟩, .slice none 0 0], .agg #[.int .i64 n, .int .i64 (-1)]])) w' := by
  subst hS hE
  exact ⟨.slice none 0 0, rfl, Or.inl ⟨none, 0, rfl, fun _ => rfl, rfl⟩, hb⟩
theorem rcom_bad {w w' : World} {E : Nat × Option Nat} {S : Sn} (hS : S = zeroS) (hb : Below w.heap.size w w') : RComP w E S (.returned (.tuple #[.agg #[.int .i64 0, .int .i64 0, .int .i64 0, .int .i64 0, .int .i64 0, .string ⟨#[]⟩, .slice none 0 0], .agg #[.int .i64 E.1, .int .i64 (atZ E.2)]])) w' := by
  subst hS
  exact ⟨.slice none 0 0, rfl, Or.inl ⟨none, 0, rfl, fun _ => rfl, rfl⟩, hb⟩

structure RCI (w W : World) (fb : Nat) (s : Sn) (vf : Value) (c d : Int) : Prop where
  low : Below w.heap.size w W
  now : SnAt W w.heap.size s vf
  zero : SnAt W (w.heap.size + 1) zeroS (.slice none 0 0)
  res : FC W (w.heap.size + 2) 0 0
  flt : FC W fb c d
theorem RCI.below {w W W' : World} {fb : Nat} {s : Sn} {vf : Value} {c d : Int} (h : RCI w W fb s vf c d) (hb : Below W.heap.size W W') : RCI w W' fb s vf c d :=
  ⟨h.low.trans (hb.mono h.low.size), h.now.below hb, h.zero.below hb, h.res.below hb, h.flt.below hb⟩

set_option maxRecDepth 100000 in
set_option maxHeartbeats 8000000 in
theorem rcommit_any (B : Nat) (v : Value) (FP : Nat → Prop) (t : Tx) (now : Sn) (vf : Value) (id day idx : Int) (w : World) (ht : TxHas 54 B w v FP t) (hok : TxOk t) (hx : FlsAt w vf now.2.2.2.2.2.2) (hl : now.2.2.2.2.2.2.length ≤ 100) (hsz : Short now.2.2.2.2.2.2) (hla : t.2.1.length ≤ 40) (hlr : t.2.2.length ≤ 1000) :
    Calls Tryz.prog 21 #[v, snV now vf, .int .i64 id, .int .i64 day, .int .i64 idx] w fun e w' => RComP w (tComE t now id day idx) (tCom t now id day idx) e w' := by
  obtain ⟨tb, vb, va, vr, rfl, hin, -, -, -⟩ := ht
  have HTC : Hid (∀ W, Below w.heap.size w W → TxC 54 W tb t.1 vb va vr) := fun W hb => (hin.below hb).cells
  have HAD : Hid (∀ W, Below w.heap.size w W → FlsAt W va t.2.1) := fun W hb => (flsAt_of_own hin.adds).1.below hb
  have HRM : Hid (∀ W, Below w.heap.size w W → TsAt W vr t.2.2) := fun W hb => (tsAt_own hin.rems).below hb
  have HX : Hid (∀ W, Below w.heap.size w W → FlsAt W vf now.2.2.2.2.2.2) := fun W hb => hx.below hb
  have HSF : Hid (∀ W, Below w.heap.size w W → Calls Tryz.prog 16 #[snV now vf] W fun e w' => e = .returned (.agg #[.int .i64 (snapE now).1, .int .i64 (atZ (snapE now).2)]) ∧ Below W.heap.size W w') := fun W hb => snapFault_any now vf W (HX.out W hb) (by omega) (fun f hf => ⟨by have := (hsz f hf).1; omega, by have := (hsz f hf).2; omega⟩)
  have HS2 : Hid ((snapE now).1 = 0 → ∀ (W : World) (v2 : Value), FlsAt W v2 (tFiles t now) → Calls Tryz.prog 16 #[snV (tSnap t now id day idx) v2] W fun e w' => e = .returned (.agg #[.int .i64 (snapE (tSnap t now id day idx)).1, .int .i64 (atZ (snapE (tSnap t now id day idx)).2)]) ∧ Below W.heap.size W w') := fun h0 W v2 h2 => snapFault_any (tSnap t now id day idx) v2 W h2 (by have := (tFiles_short hok h0 hla).1; show (tFiles t now).length ≤ _; omega) (fun f hf => ⟨by have := ((tFiles_short hok h0 hla).2 f hf).1; omega, by have := ((tFiles_short hok h0 hla).2 f hf).2; omega⟩)
  have HFD : Hid (∀ W p, Below w.heap.size w W → Calls Tryz.prog 14 #[vf, .string p] W fun e w' => e = .returned (.int .i64 (findF now.2.2.2.2.2.2 p)) ∧ Below W.heap.size W w') := fun W p hb => (findOf_any vf now.2.2.2.2.2.2 p W (HX.out W hb) (by omega)).mono fun e w' ⟨he, hw⟩ => ⟨he, by subst hw; exact Below.refl _ _⟩
  have HWO : Hid (∀ (W : World) (u : Value) (n : Nat) (h : n < t.2.2.length), FlsAt W u (lftN now.2.2.2.2.2.2 t.2.2 n) → Calls Tryz.prog 43 #[u, .string t.2.2[n]] W fun e w' => ∃ v', e = .returned v' ∧ FlsAt w' v' (lftN now.2.2.2.2.2.2 t.2.2 (n + 1)) ∧ Below W.heap.size W w') := fun W u n h hu => by
    rw [lftN_succ _ h]
    exact without_any u _ _ W hu (by have := lftN_len now.2.2.2.2.2.2 t.2.2 n; omega)
  have HPL : Hid (∀ (W : World) (u : Value) (n : Nat) (h : n < t.2.1.length), FlsAt W u (plcN (tLeft t now) (tNew t now) n) → Calls Tryz.prog 44 #[u, flV (atSeq t.2.1[n] (tSeq t now t.2.1[n]))] W fun e w' => ∃ v', e = .returned v' ∧ FlsAt w' v' (plcN (tLeft t now) (tNew t now) (n + 1)) ∧ Below W.heap.size W w') := fun W u n h hu => by
    have h' : n < (tNew t now).length := by rw [tNew_len]; exact h
    have hsh : ∀ f ∈ t.2.1, f.1.size ≤ 100000 := fun f hf => by
      have := (file_30 (f := f) (hok.adds f hf)).1
      omega
    rw [plcN_succ _ h', ← tNew_get t now h]
    refine placed_any u _ _ W hu ?_ ?_ ?_
    · have h1 := plcN_len (tLeft t now) (tNew t now) n
      have h2 : (tLeft t now).length ≤ now.2.2.2.2.2.2.length := List.length_filter_le _ _
      rw [tNew_len] at h1
      omega
    · intro g hg
      rcases plcN_mem hg with h1 | h1
      · have := (hsz g (List.mem_filter.1 h1).1).1
        omega
      · obtain ⟨f, hf, rfl⟩ := List.mem_map.1 h1
        exact hsh f hf
    · rw [tNew_get t now h]
      exact hsh t.2.1[n] (List.getElem_mem h)
  have HBD : Hid ((snapE now).1 = 0 → -1 ≤ now.2.2.1 ∧ now.2.2.1 ≤ 1073741824) := fun h0 => by
    have := (sbnd_all.1 (snap_good h0).1).2.1.1
    exact ⟨by omega, this.2⟩
  have HE1 : Hid ((snapE now).1 ≠ 0 → tComE t now id day idx = snapE now) := fun h => by unfold tComE; rw [if_pos h]
  have HEs : Hid ((snapE now).1 = 0 → tStale t now = true → tComE t now id day idx = (11, none)) := fun h h1 => by unfold tComE; rw [if_neg (by simpa using h), if_pos h1]
  have HEt : Hid ((snapE now).1 = 0 → tStale t now = false → tThere t now = true → tComE t now id day idx = (7, none)) := fun h h1 h2 => by unfold tComE; rw [if_neg (by simpa using h), if_neg (by rw [h1]; simp), if_pos h2]
  have HEo : Hid ((snapE now).1 = 0 → tStale t now = false → tThere t now = false → tComE t now id day idx = ((snapE (tSnap t now id day idx)).1, none)) := fun h h1 h2 => by unfold tComE; rw [if_neg (by simpa using h), if_neg (by rw [h1]; simp), if_neg (by rw [h2]; simp)]
  have HSb : Hid ((tComE t now id day idx).1 ≠ 0 → tCom t now id day idx = zeroS) := fun h => tCom_bad h
  have HSo : Hid ((tComE t now id day idx).1 = 0 → tCom t now id day idx = tSnap t now id day idx) := fun h => (tCom_zero h).2.2.2.2
  have HTS : Hid (tSnap t now id day idx = (id, now.1, now.2.2.1 + 1, day, idx, tOp t, tFiles t now)) := rfl
  have HOP : Hid (tOp t = if 0 < t.2.2.length then bytesOf kRewrite else opN t.2.1 t.2.1.length) := op_all t
  have HLA : Hid (lftN now.2.2.2.2.2.2 t.2.2 t.2.2.length = tLeft t now) := lftN_all t now
  have HPA : Hid (plcN (tLeft t now) (tNew t now) t.2.1.length = tFiles t now) := by
    have h := plcN_all t now
    rw [tNew_len] at h
    exact h
  rw [HTS.out] at HS2 HEo HSo
  clear HTS
  generalize hCE : tComE t now id day idx = CE at *
  generalize hCS : tCom t now id day idx = CS at *
  generalize hSE : snapE now = SE at *
  generalize tOp t = OP at *
  generalize tFiles t now = TS at *
  clear hin hx hok hl hsz hCE hCS hSE
  obtain ⟨qf, cf, hvf⟩ := (HX.out w (Below.refl _ _)).form
  obtain ⟨qr, cr, hvr⟩ := (HRM.out w (Below.refl _ _)).form
  obtain ⟨qa, ca, hva⟩ := (HAD.out w (Below.refl _ _)).form
  have HSN : Hid (SnAt (w.alloc (.cells #[.int .i64 now.1, .int .i64 now.2.1, .int .i64 now.2.2.1, .int .i64 now.2.2.2.1, .int .i64 now.2.2.2.2.1, .string now.2.2.2.2.2.1, vf] 24)) w.heap.size now vf) := SnAt.new w now vf
  obtain ⟨L, hL⟩ : ∃ L, now.2.2.2.2.2.2.length = L := ⟨_, rfl⟩
  obtain ⟨R, hR⟩ : ∃ R, t.2.2.length = R := ⟨_, rfl⟩
  obtain ⟨Q, hQ⟩ : ∃ Q, t.2.1.length = Q := ⟨_, rfl⟩
  have HR : Hid (t.2.2.length = R) := hR
  have HQ : Hid (t.2.1.length = Q) := hQ
  have hRl0 : R ≤ 1000 := by omega
  have hQl0 : Q ≤ 40 := by omega
  rw [hL] at hvf
  rw [hR] at hvr
  rw [hQ] at hva
  subst hvf hvr hva
  clear hL hR hQ hlr hla
  unfold snV at HSF HS2 ⊢
  have HNW : Hid (∀ x, now = x → now = x) := fun _ h => h
  obtain ⟨nid, npar, nseq, nday, nidx, nop, nfs⟩ := now
  dsimp only at *
  clear HNW
  have hA1 : Below w.heap.size w (w.alloc (.cells #[.int .i64 nid, .int .i64 npar, .int .i64 nseq, .int .i64 nday, .int .i64 nidx, .string nop, .slice qf L cf] 24)) := (Below.refl _ _).alloc (Nat.le_refl _) _
  have hz1 : SnAt ((w.alloc (.cells #[.int .i64 nid, .int .i64 npar, .int .i64 nseq, .int .i64 nday, .int .i64 nidx, .string nop, .slice qf L cf] 24)).alloc (.cells #[.int .i64 0, .int .i64 0, .int .i64 0, .int .i64 0, .int .i64 0, .string ⟨#[]⟩, .slice none 0 0] 24)) (w.heap.size + 1) zeroS (.slice none 0 0) := by
    have h := zero_new (w.alloc (.cells #[.int .i64 nid, .int .i64 npar, .int .i64 nseq, .int .i64 nday, .int .i64 nidx, .string nop, .slice qf L cf] 24))
    have e : (w.alloc (.cells #[.int .i64 nid, .int .i64 npar, .int .i64 nseq, .int .i64 nday, .int .i64 nidx, .string nop, .slice qf L cf] 24)).heap.size = w.heap.size + 1 := by simp
    rw [e] at h
    exact h
  have hf1 : FC (((w.alloc (.cells #[.int .i64 nid, .int .i64 npar, .int .i64 nseq, .int .i64 nday, .int .i64 nidx, .string nop, .slice qf L cf] 24)).alloc (.cells #[.int .i64 0, .int .i64 0, .int .i64 0, .int .i64 0, .int .i64 0, .string ⟨#[]⟩, .slice none 0 0] 24)).alloc (.cells #[.int .i64 0, .int .i64 0] 49)) (w.heap.size + 2) 0 0 := by
    have h := FC.new ((w.alloc (.cells #[.int .i64 nid, .int .i64 npar, .int .i64 nseq, .int .i64 nday, .int .i64 nidx, .string nop, .slice qf L cf] 24)).alloc (.cells #[.int .i64 0, .int .i64 0, .int .i64 0, .int .i64 0, .int .i64 0, .string ⟨#[]⟩, .slice none 0 0] 24))
    have e : ((w.alloc (.cells #[.int .i64 nid, .int .i64 npar, .int .i64 nseq, .int .i64 nday, .int .i64 nidx, .string nop, .slice qf L cf] 24)).alloc (.cells #[.int .i64 0, .int .i64 0, .int .i64 0, .int .i64 0, .int .i64 0, .string ⟨#[]⟩, .slice none 0 0] 24)).heap.size = w.heap.size + 2 := by simp
    rw [e] at h
    exact h
  have hA2 : Below (w.alloc (.cells #[.int .i64 nid, .int .i64 npar, .int .i64 nseq, .int .i64 nday, .int .i64 nidx, .string nop, .slice qf L cf] 24)).heap.size (w.alloc (.cells #[.int .i64 nid, .int .i64 npar, .int .i64 nseq, .int .i64 nday, .int .i64 nidx, .string nop, .slice qf L cf] 24)) ((w.alloc (.cells #[.int .i64 nid, .int .i64 npar, .int .i64 nseq, .int .i64 nday, .int .i64 nidx, .string nop, .slice qf L cf] 24)).alloc (.cells #[.int .i64 0, .int .i64 0, .int .i64 0, .int .i64 0, .int .i64 0, .string ⟨#[]⟩, .slice none 0 0] 24)) := (Below.refl _ _).alloc (Nat.le_refl _) _
  have hA3 : Below ((w.alloc (.cells #[.int .i64 nid, .int .i64 npar, .int .i64 nseq, .int .i64 nday, .int .i64 nidx, .string nop, .slice qf L cf] 24)).alloc (.cells #[.int .i64 0, .int .i64 0, .int .i64 0, .int .i64 0, .int .i64 0, .string ⟨#[]⟩, .slice none 0 0] 24)).heap.size ((w.alloc (.cells #[.int .i64 nid, .int .i64 npar, .int .i64 nseq, .int .i64 nday, .int .i64 nidx, .string nop, .slice qf L cf] 24)).alloc (.cells #[.int .i64 0, .int .i64 0, .int .i64 0, .int .i64 0, .int .i64 0, .string ⟨#[]⟩, .slice none 0 0] 24)) (((w.alloc (.cells #[.int .i64 nid, .int .i64 npar, .int .i64 nseq, .int .i64 nday, .int .i64 nidx, .string nop, .slice qf L cf] 24)).alloc (.cells #[.int .i64 0, .int .i64 0, .int .i64 0, .int .i64 0, .int .i64 0, .string ⟨#[]⟩, .slice none 0 0] 24)).alloc (.cells #[.int .i64 0, .int .i64 0] 49)) := (Below.refl _ _).alloc (Nat.le_refl _) _
  have hs3 := (HSN.out.below hA2).below hA3
  have hz3 := hz1.below hA3
  have hB3 : Below w.heap.size w (((w.alloc (.cells #[.int .i64 nid, .int .i64 npar, .int .i64 nseq, .int .i64 nday, .int .i64 nidx, .string nop, .slice qf L cf] 24)).alloc (.cells #[.int .i64 0, .int .i64 0, .int .i64 0, .int .i64 0, .int .i64 0, .string ⟨#[]⟩, .slice none 0 0] 24)).alloc (.cells #[.int .i64 0, .int .i64 0] 49)) := (hA1.trans (hA2.mono hA1.size)).trans (hA3.mono (hA1.trans (hA2.mono hA1.size)).size)
  have hle0 : w.heap.size ≤ w.heap.size := Nat.le_refl _
  have hle1 : w.heap.size ≤ w.heap.size + 1 := Nat.le_succ _
  have hle2 : w.heap.size ≤ w.heap.size + 2 := by omega
  clear hA1 hz1 hA2 hA3 HSN
  go_enter Tryz.func21, Tryz.ntmps21
  go_upto_region 1 with fail
  generalize ((w.alloc (.cells #[.int .i64 nid, .int .i64 npar, .int .i64 nseq, .int .i64 nday, .int .i64 nidx, .string nop, .slice qf L cf] 24)).alloc (.cells #[.int .i64 0, .int .i64 0, .int .i64 0, .int .i64 0, .int .i64 0, .string ⟨#[]⟩, .slice none 0 0] 24)).alloc (.cells #[.int .i64 0, .int .i64 0] 49) = W3 at *
  obtain ⟨x0, x1, x2, x3, x4, x5, x6⟩ := hs3.cells
  dsimp only at x0 x1 x2 x3 x4 x5
  go_wp2_with fail
  refine (HSF.out W3 hB3).mono ?_
  rintro e w4 ⟨rfl, hb4⟩
  clear x0 x1 x2 x3 x4 x5 x6 HSF
  have hal5 : Below w4.heap.size w4 (w4.alloc (.cells #[.int .i64 SE.1, .int .i64 (atZ SE.2)] 49)) := (Below.refl _ _).alloc (Nat.le_refl _) _
  have hb5 : Below W3.heap.size W3 (w4.alloc (.cells #[.int .i64 SE.1, .int .i64 (atZ SE.2)] 49)) := hb4.trans (hal5.mono hb4.size)
  have hnew : FC (w4.alloc (.cells #[.int .i64 SE.1, .int .i64 (atZ SE.2)] 49)) w4.heap.size SE.1 (atZ SE.2) := heap_alloc_new _ _
  have hI : RCI w (w4.alloc (.cells #[.int .i64 SE.1, .int .i64 (atZ SE.2)] 49)) w4.heap.size (nid, npar, nseq, nday, nidx, nop, nfs) (.slice qf L cf) SE.1 (atZ SE.2) := ⟨hB3.trans (hb5.mono hB3.size), hs3.below hb5, hz3.below hb5, hf1.below hb5, hnew⟩
  have HFB : Hid (w.heap.size + 2 < w4.heap.size) := (hf1.below hb4).lt
  clear hb4 hal5 hb5 hnew hs3 hz3 hf1 hB3
  go_upto_region 2 with fail
  generalize w4.alloc (.cells #[.int .i64 SE.1, .int .i64 (atZ SE.2)] 49) = W5 at *
  generalize w4.heap.size = fb at *
  by_cases hE : SE.1 = 0
  case neg =>
    obtain rfl := HE1.out hE
    have HZ : Hid (CS = zeroS) := HSb.out hE
    have hpos : (0 : Int) < (CE.1 : Int) := by omega
    have hdr : Below W5.heap.size W5 W5.drew := (Below.refl _ _).drew
    have hId := hI.below hdr
    have hB5 := hI.low
    have hBd := hId.low
    obtain ⟨y0, y1, y2, y3, y4, y5, y6, yf⟩ := hI.zero.zeros
    have s0 := setCell_self y0
    have s1 := setCell_self y1
    have s2 := setCell_self y2
    have s3 := setCell_self y3
    have s4 := setCell_self y4
    have s5 := setCell_self y5
    have s6 := setCell_self y6
    obtain ⟨v0, v1, v2, v3, v4, v5, v6, vf⟩ := hId.zero.zeros
    have r0 := setCell_self v0
    have r1 := setCell_self v1
    have r2 := setCell_self v2
    have r3 := setCell_self v3
    have r4 := setCell_self v4
    have r5 := setCell_self v5
    have r6 := setCell_self v6
    have j0 := hI.res.c0
    have j1 := hI.res.c1
    have jz := hI.res.fz
    have m0 := hId.res.c0
    have m1 := hId.res.c1
    have mz := hId.res.fz
    have n0 := hI.flt.c0
    have n1 := hI.flt.c1
    have q0 := hId.flt.c0
    have q1 := hId.flt.c1
    clear hdr hI hId hE
    go_wp2_with fail
    go_region
    all_goals go_wp2
    all_goals refine bodyPost_ret (v := .tuple #[.agg #[.int .i64 0, .int .i64 0, .int .i64 0, .int .i64 0, .int .i64 0, .string ⟨#[]⟩, .slice none 0 0], .agg #[.int .i64 CE.1, .int .i64 (atZ CE.2)]]) (by simp [results, Tryz.results21, go_sem, y0, y1, y2, y3, y4, y5, y6, j0, j1]) rfl ?_
    all_goals refine rcom_bad HZ.out ?_
    all_goals first
      | exact (hB5.setCell hle2 _).setCell hle2 _
      | exact (hBd.setCell hle2 _).setCell hle2 _
      | exact ((hB5.setCell hle2 _).setCell hle2 _).drew
  case pos =>
  have HSE : Hid (SE.1 = 0) := hE
  have hbd := HBD.out hE
  rw [hE] at hI
  have n0 := hI.flt.c0
  rw [show ((0 : Nat) : Int) = 0 from rfl] at n0 hI
  generalize atZ SE.2 = dz at *
  clear hE HE1 HBD
  go_wp2_with fail
  clear n0
  go_loopw [13] (fun k wr => ∃ n : Nat, n ≤ R ∧ k = .int .i64 n ∧ (∀ j (h : j < t.2.2.length), j < n → ¬ findF nfs t.2.2[j] < 0) ∧ RCI w wr fb (nid, npar, nseq, nday, nidx, nop, nfs) (.slice qf L cf) 0 dz) (fun k _ => R - (intOf k).toNat)
  case atStart => exact ⟨0, by omega, rfl, fun j _ h => absurd h (Nat.not_lt_zero _), hI⟩
  case round =>
  clear hI
  obtain ⟨n, hn, rfl, hno, hI⟩ := hrel
  have HNO : Hid (∀ j (h : j < t.2.2.length), j < n → ¬ findF nfs t.2.2[j] < 0) := hno
  clear hno
  have hB := hI.low
  have c8 := (HTC.out wr hB).cells.2.2.2
  by_cases hlt : n < R
  case pos =>
    have hltx : n < t.2.2.length := by rw [HR.out]; exact hlt
    obtain ⟨rb, hq, hc⟩ := (HRM.out wr hB).cells (fun e => by rw [e] at hltx; simp at hltx)
    subst hq
    have cn := hc n hltx
    have x6 := hI.now.cells.2.2.2.2.2.2
    have hfd := fun W hb => HFD.out W t.2.2[n] hb
    have HY : Hid (findF nfs t.2.2[n] < 0 → CE = (11, none)) := fun h => HEs.out HSE.out (stale_yes hltx h)
    have HN : Hid (¬ findF nfs t.2.2[n] < 0 → ∀ j (h : j < t.2.2.length), j < n + 1 → ¬ findF nfs t.2.2[j] < 0) := fun h j hj hjn => by
      by_cases e : j = n
      · subst e; exact h
      · exact HNO.out j hj (by omega)
    generalize findF nfs t.2.2[n] = FI at hfd HY HN
    generalize t.2.2[n] = p at cn hfd
    have hi : (n : Int) < (R : Int) := by omega
    have hi0 : (0 : Int) ≤ (n : Int) := by omega
    clear hc hltx HNO HRM HAD HWO HPL HEo HEt HEs HS2 HSo
    have hbs : Below wr.heap.size wr wr := Below.refl _ _
    go_upto_region 7 with fail
    go_region_held3 (fun w' => w'.cell? ⟨w.heap.size, 6, none⟩ = some (.slice qf L cf) ∧ w'.cell? ⟨tb, 8, none⟩ = some (.slice (some ⟨rb, 0, none⟩) R cr) ∧ w'.cell? ⟨rb, n, none⟩ = some (.string p) ∧ Below wr.heap.size wr w')
      (first
        | (go_split_ands; with_reducible exact ⟨below_keep hbX (by assumption), below_keep hbX (by assumption), below_keep hbX (by assumption), Below.trans (by assumption) (hbX.mono (Below.size (by assumption)))⟩)
        | (go_split_ands; exact ⟨by go_keep, by go_keep, by go_keep, by assumption⟩)
        | (go_split_ands; exact ⟨by go_keep, by go_keep, by go_keep, Below.drew (by assumption)⟩))
      (first
        | (go_at_call 14; (with_reducible refine (hfd _ (by go_split_ands; exact hB.trans (Below.mono (by assumption) hB.size))).mono ?_); rintro e wX ⟨rfl, hbX⟩))
    all_goals go_split_ands
    have hbX2 : Below wr.heap.size wr wX := by assumption
    have hIX := hI.below hbX2
    clear hfd hbs c8 cn x6 hI hB
    by_cases hF : FI < 0
    · have hbr := bare_of 11 wX
      have HCE : Hid (CE = (11, none)) := HY.out hF
      have HZ : Hid (CS = zeroS) := HSb.out (by rw [HCE.out]; simp)
      clear HY HN HTC HFD
      go_wp2_with fail
      refine hbr.mono ?_
      rintro e wb ⟨rfl, hbb⟩
      clear hbr
      have hIb := hIX.below hbb
      obtain ⟨y0, y1, y2, y3, y4, y5, y6, yf⟩ := hIb.zero.zeros
      have s0 := setCell_self y0
      have s1 := setCell_self y1
      have s2 := setCell_self y2
      have s3 := setCell_self y3
      have s4 := setCell_self y4
      have s5 := setCell_self y5
      have s6 := setCell_self y6
  
      have j0 := hIb.res.c0
      have j1 := hIb.res.c1
      have jz := hIb.res.fz
      have hBb := hIb.low
      clear hIX hIb hbb
      go_wp2
      refine bodyPost_ret (v := .tuple #[.agg #[.int .i64 0, .int .i64 0, .int .i64 0, .int .i64 0, .int .i64 0, .string ⟨#[]⟩, .slice none 0 0], .agg #[.int .i64 11, .int .i64 (-1)]]) (by simp [results, Tryz.results21, go_sem, y0, y1, y2, y3, y4, y5, y6, j0, j1]) rfl ?_
      exact rcom_zero HZ.out HCE.out ((hBb.setCell hle2 _).setCell hle2 _)
    · have HN2 : Hid (∀ j (h : j < t.2.2.length), j < n + 1 → ¬ findF nfs t.2.2[j] < 0) := fun j hj hjn => by
        have h := HN.out (by omega) j hj hjn
        omega
      have HIX : Hid (RCI w wX fb (nid, npar, nseq, nday, nidx, nop, nfs) (.slice qf L cf) 0 dz) := hIX
      clear HY HN hIX HTC HFD
      go_wp2
      go_roundw
      case rel => exact ⟨n + 1, by omega, by go_num, HN2.out, HIX.out⟩
      case measure => simp [intOf]; omega
  case neg =>
  obtain rfl : n = R := by omega
  have HST : Hid (tStale t (nid, npar, nseq, nday, nidx, nop, nfs) = false) := stale_no (t := t) (now := (nid, npar, nseq, nday, nidx, nop, nfs)) (fun j hj => HNO.out j hj (by rw [← HR.out]; exact hj))
  have hin : ¬ (n : Int) < (n : Int) := by omega
  clear HNO hlt
  clear HEs
  go_wp2_with fail
  clear c8 hB
  go_loopw [14, 15] (fun o k wr => ∃ m : Nat, m ≤ Q ∧ o = .string (opN t.2.1 m) ∧ k = .int .i64 m ∧ (∀ j (h : j < t.2.1.length), j < m → ¬ 0 ≤ findF nfs t.2.1[j].1) ∧ RCI w wr fb (nid, npar, nseq, nday, nidx, nop, nfs) (.slice qf L cf) 0 dz) (fun _ k _ => Q - (intOf k).toNat)
  case atStart => exact ⟨0, by omega, by rw [opN_zero]; rfl, rfl, fun j _ h => absurd h (Nat.not_lt_zero _), hI⟩
  case round =>
  clear hI hin
  obtain ⟨m, hm, rfl, rfl, hno, hI⟩ := hrel
  have HNO : Hid (∀ j (h : j < t.2.1.length), j < m → ¬ 0 ≤ findF nfs t.2.1[j].1) := hno
  clear hno
  have hB := hI.low
  have c7 := (HTC.out wr hB).cells.2.2.1
  by_cases hlt : m < Q
  case pos =>
    have hltx : m < t.2.1.length := by rw [HQ.out]; exact hlt
    obtain ⟨ab, ao, hq, hc⟩ := (HAD.out wr hB).cells (fun e => by rw [e] at hltx; simp at hltx)
    subst hq
    have cn := (hc m hltx).1
    have cp := (hc m hltx).2.1
    have x6 := hI.now.cells.2.2.2.2.2.2
    have hfd := fun W hb => HFD.out W t.2.1[m].1 hb
    have HY : Hid (0 ≤ findF nfs t.2.1[m].1 → CE = (7, none)) := fun h => HEt.out HSE.out HST.out (there_yes (t := t) (now := (nid, npar, nseq, nday, nidx, nop, nfs)) hltx h)
    have HN : Hid (¬ 0 ≤ findF nfs t.2.1[m].1 → ∀ j (h : j < t.2.1.length), j < m + 1 → ¬ 0 ≤ findF nfs t.2.1[j].1) := fun h j hj hjn => by
      by_cases e : j = m
      · subst e; exact h
      · exact HNO.out j hj (by omega)
    have HO1 : Hid (t.2.1[m].2.1.data.toList = [45] → opN t.2.1 (m + 1) = bytesOf kDelete) := fun h => opN_yes hltx h
    have HO2 : Hid (t.2.1[m].2.1.data.toList ≠ [45] → opN t.2.1 (m + 1) = opN t.2.1 m) := fun h => opN_no hltx h
    generalize findF nfs t.2.1[m].1 = FI at hfd HY HN
    generalize t.2.1[m].1 = p at cn hfd
    generalize t.2.1[m].2.1 = pa at cp HO1 HO2
    have hi : (m : Int) < (Q : Int) := by omega
    have hi0 : (0 : Int) ≤ (m : Int) := by omega
    clear hc hltx HNO HRM HAD HWO HPL HEo HEt HS2 HSo HLA HPA HOP
    have hbs : Below wr.heap.size wr wr := Below.refl _ _
    go_upto_region 13 with fail
    go_region_held3 (fun w' => w'.cell? ⟨w.heap.size, 6, none⟩ = some (.slice qf L cf) ∧ w'.cell? ⟨tb, 7, none⟩ = some (.slice (some ⟨ab, ao, none⟩) Q ca) ∧ w'.cell? ⟨ab, ao + m * 6, none⟩ = some (.string p) ∧ Below wr.heap.size wr w')
      (first
        | (go_split_ands; with_reducible exact ⟨below_keep hbX (by assumption), below_keep hbX (by assumption), below_keep hbX (by assumption), Below.trans (by assumption) (hbX.mono (Below.size (by assumption)))⟩)
        | (go_split_ands; exact ⟨by go_keep, by go_keep, by go_keep, by assumption⟩)
        | (go_split_ands; exact ⟨by go_keep, by go_keep, by go_keep, Below.drew (by assumption)⟩))
      (first
        | (go_at_call 14; (with_reducible refine (hfd _ (by go_split_ands; exact hB.trans (Below.mono (by assumption) hB.size))).mono ?_); rintro e wX ⟨rfl, hbX⟩))
    all_goals go_split_ands
    have hbX2 : Below wr.heap.size wr wX := by assumption
    have hIX := hI.below hbX2
    have cp2 := below_keep hbX2 cp
    have c72 := below_keep hbX2 c7
    clear hfd hbs c7 cn x6 hI hB cp
    by_cases hF : 0 ≤ FI
    · have hbr := bare_of 7 wX
      have HCE : Hid (CE = (7, none)) := HY.out hF
      have HZ : Hid (CS = zeroS) := HSb.out (by rw [HCE.out]; simp)
      clear HY HN HTC HFD HO1 HO2 cp2 c72
      go_wp2_with fail
      refine hbr.mono ?_
      rintro e wb ⟨rfl, hbb⟩
      clear hbr
      have hIb := hIX.below hbb
      obtain ⟨y0, y1, y2, y3, y4, y5, y6, yf⟩ := hIb.zero.zeros
      have s0 := setCell_self y0
      have s1 := setCell_self y1
      have s2 := setCell_self y2
      have s3 := setCell_self y3
      have s4 := setCell_self y4
      have s5 := setCell_self y5
      have s6 := setCell_self y6
  
      have j0 := hIb.res.c0
      have j1 := hIb.res.c1
      have jz := hIb.res.fz
      have hBb := hIb.low
      clear hIX hIb hbb
      go_wp2
      refine bodyPost_ret (v := .tuple #[.agg #[.int .i64 0, .int .i64 0, .int .i64 0, .int .i64 0, .int .i64 0, .string ⟨#[]⟩, .slice none 0 0], .agg #[.int .i64 7, .int .i64 (-1)]]) (by simp [results, Tryz.results21, go_sem, y0, y1, y2, y3, y4, y5, y6, j0, j1]) rfl ?_
      exact rcom_zero HZ.out HCE.out ((hBb.setCell hle2 _).setCell hle2 _)
    · have HN2 : Hid (∀ j (h : j < t.2.1.length), j < m + 1 → ¬ 0 ≤ findF nfs t.2.1[j].1) := fun j hj hjn => by
        have h := HN.out (by omega) j hj hjn
        omega
      have HIX : Hid (RCI w wX fb (nid, npar, nseq, nday, nidx, nop, nfs) (.slice qf L cf) 0 dz) := hIX
      clear HY HN hIX HTC HFD
      by_cases hp : pa.data.toList = [45]
      · have hd := eqB_of hp
        have HO : Hid (opN t.2.1 (m + 1) = bytesOf kDelete) := HO1.out hp
        clear hp HO1 HO2
        go_wp2
        go_roundw
        case rel => exact ⟨m + 1, by omega, by rw [HO.out]; rfl, by go_num, HN2.out, HIX.out⟩
        case measure => simp [intOf]; omega
      · have hd := neB_of hp
        have HO : Hid (opN t.2.1 (m + 1) = opN t.2.1 m) := HO2.out hp
        clear hp HO1 HO2
        generalize opN t.2.1 m = ov at HO ⊢
        go_wp2
        go_roundw
        case rel => exact ⟨m + 1, by omega, by rw [HO.out], by go_num, HN2.out, HIX.out⟩
        case measure => simp [intOf]; omega
  case neg =>
  obtain rfl : m = Q := by omega
  have HTH : Hid (tThere t (nid, npar, nseq, nday, nidx, nop, nfs) = false) := there_no (t := t) (now := (nid, npar, nseq, nday, nidx, nop, nfs)) (fun j hj => HNO.out j hj (by rw [← HQ.out]; exact hj))
  have HEN : Hid (CE = ((snapE (id, nid, nseq + 1, day, idx, OP, TS)).1, none)) := HEo.out HSE.out HST.out HTH.out
  have hin : ¬ (m : Int) < (m : Int) := by omega
  have HOP2 : Hid (OP = if 0 < n then bytesOf kRewrite else opN t.2.1 m) := by
    have h := HOP.out
    rw [HR.out, HQ.out] at h
    exact h
  clear HNO hlt HEt HEo HOP HST HTH
  have c8 := (HTC.out wr hB).cells.2.2.2
  go_upto_if 87 with fail
  go_cut [14] from 87 to 87 (fun o wx => o = .string OP ∧ wx = wr)
  case first =>
    by_cases hn0 : 0 < n
    · have HO : Hid (OP = bytesOf kRewrite) := by show _ = _; rw [HOP2.out, if_pos hn0]
      have hpb : decide (0 < n) = true := by simp; omega
      first | rw [hpb] | skip
      clear HOP2
      go_wp2
      go_meet
      case rel => rw [HO.out]; exact ⟨rfl, rfl⟩
    · have HO : Hid (OP = opN t.2.1 m) := by show _ = _; rw [HOP2.out, if_neg hn0]
      have hpb : decide (0 < n) = false := by simp; omega
      first | rw [hpb] | skip
      clear HOP2
      generalize opN t.2.1 m = ov at HO ⊢
      go_wp2
      go_meet
      case rel => rw [HO.out]; exact ⟨rfl, rfl⟩
  case rest =>
  obtain ⟨rfl, rfl⟩ := hcut
  have x6 := hI.now.cells.2.2.2.2.2.2
  have HL0 : Hid (FlsAt wc (.slice qf L cf) (lftN nfs t.2.2 0)) := by
    show FlsAt _ _ _
    rw [lftN_zero]
    exact HX.out wc hB
  clear hin c7
  go_wp2_with fail
  clear c8 x6 hB
  go_loopw [16, 17] (fun u k wr => ∃ i : Nat, i ≤ n ∧ k = .int .i64 i ∧ FlsAt wr u (lftN nfs t.2.2 i) ∧ RCI w wr fb (nid, npar, nseq, nday, nidx, nop, nfs) (.slice qf L cf) 0 dz) (fun _ k _ => n - (intOf k).toNat)
  case atStart => exact ⟨0, by omega, rfl, HL0.out, hI⟩
  case round =>
  clear hI HL0
  obtain ⟨i, hi, rfl, hu, hI⟩ := hrel
  have hB := hI.low
  have c8 := (HTC.out wr hB).cells.2.2.2
  by_cases hlt : i < n
  case pos =>
    have hltx : i < t.2.2.length := by rw [HR.out]; exact hlt
    obtain ⟨rb, hq, hc⟩ := (HRM.out wr hB).cells (fun e => by rw [e] at hltx; simp at hltx)
    subst hq
    have cn := hc i hltx
    have hwo := HWO.out wr u16 i hltx hu
    generalize t.2.2[i] = p at cn hwo
    have hii : (i : Int) < (n : Int) := by omega
    have hi0 : (0 : Int) ≤ (i : Int) := by omega
    clear hc hltx HRM HAD HWO HPL HEN HS2 HSo HLA HPA hu
    go_wp2_with fail
    refine hwo.mono ?_
    rintro e wX ⟨u2, rfl, hu2, hbX⟩
    clear hwo c8 cn
    have HU : Hid (FlsAt wX u2 (lftN nfs t.2.2 (i + 1))) := hu2
    have HIX : Hid (RCI w wX fb (nid, npar, nseq, nday, nidx, nop, nfs) (.slice qf L cf) 0 dz) := hI.below hbX
    clear hu2 hI hB hbX HTC HFD
    go_wp2
    go_roundw
    case rel => exact ⟨i + 1, by omega, by go_num, HU.out, HIX.out⟩
    case measure => simp [intOf]; omega
  case neg =>
  obtain rfl : i = n := by omega
  have hii : ¬ (i : Int) < (i : Int) := by omega
  have HL1 : Hid (FlsAt wr u16 (plcN (tLeft t (nid, npar, nseq, nday, nidx, nop, nfs)) (tNew t (nid, npar, nseq, nday, nidx, nop, nfs)) 0)) := by
    show FlsAt _ _ _
    have h := HLA.out
    rw [HR.out] at h
    rw [plcN_zero, ← h]
    exact hu
  clear hu hlt HWO HLA HRM HX HFD
  go_wp2_with fail
  clear c8 hB hii
  go_loopw [16, 18] (fun u k wr => ∃ j : Nat, j ≤ m ∧ k = .int .i64 j ∧ FlsAt wr u (plcN (tLeft t (nid, npar, nseq, nday, nidx, nop, nfs)) (tNew t (nid, npar, nseq, nday, nidx, nop, nfs)) j) ∧ RCI w wr fb (nid, npar, nseq, nday, nidx, nop, nfs) (.slice qf L cf) 0 dz) (fun _ k _ => m - (intOf k).toNat)
  case atStart => exact ⟨0, by omega, rfl, HL1.out, hI⟩
  case round =>
  clear hI HL1
  obtain ⟨j, hj, rfl, hu, hI⟩ := hrel
  have hB := hI.low
  have c7 := (HTC.out wr hB).cells.2.2.1
  have hwr : IntKind.i64.wrap (nseq + 1) = nseq + 1 := IntWalk.i64_in _ (by omega)
  by_cases hlt : j < m
  case pos =>
    have hltx : j < t.2.1.length := by rw [HQ.out]; exact hlt
    obtain ⟨ab, ao, hq, hc⟩ := (HAD.out wr hB).cells (fun e => by rw [e] at hltx; simp at hltx)
    subst hq
    obtain ⟨e0, e1, e2, e3, e4, e5⟩ := hc j hltx
    have HPJ : Hid (∀ (W : World) (u : Value), FlsAt W u (plcN (tLeft t (nid, npar, nseq, nday, nidx, nop, nfs)) (tNew t (nid, npar, nseq, nday, nidx, nop, nfs)) j) → Calls Tryz.prog 44 #[u, flV (atSeq t.2.1[j] (tSeq t (nid, npar, nseq, nday, nidx, nop, nfs) t.2.1[j]))] W fun e w' => ∃ v', e = .returned v' ∧ FlsAt w' v' (plcN (tLeft t (nid, npar, nseq, nday, nidx, nop, nfs)) (tNew t (nid, npar, nseq, nday, nidx, nop, nfs)) (j + 1)) ∧ Below W.heap.size W w') := fun W u h => HPL.out W u j hltx h
    have HTQ : Hid (tSeq t (nid, npar, nseq, nday, nidx, nop, nfs) t.2.1[j] = if 0 < i ∧ t.2.1[j].2.1.data.toList ≠ [45] then t.1.2.2.1 else nseq + 1) := by
      show _ = _
      unfold tSeq
      rw [HR.out]
    generalize t.2.1[j] = f at e0 e1 e2 e3 e4 e5 HPJ HTQ
    obtain ⟨fp, fq, fn, flo, fhi, fseq⟩ := f
    unfold flV atSeq at HPJ
    dsimp only at e0 e1 e2 e3 e4 e5 HPJ HTQ
    have hii : (j : Int) < (m : Int) := by omega
    have hi0 : (0 : Int) ≤ (j : Int) := by omega
    have hbA : Below wr.heap.size wr (wr.alloc (.cells #[.string fp, .string fq, .int .i64 fn, .int .i64 flo, .int .i64 fhi, .int .i64 fseq] 37)) := (Below.refl _ _).alloc (Nat.le_refl _) _
    have hxA : FlAt (wr.alloc (.cells #[.string fp, .string fq, .int .i64 fn, .int .i64 flo, .int .i64 fhi, .int .i64 fseq] 37)) wr.heap.size (fp, fq, fn, flo, fhi, fseq) := FlAt.new wr (fp, fq, fn, flo, fhi, fseq)
    clear hc hltx HAD HPL HEN HS2 HSo HPA
    go_upto_region 28 with fail
    generalize wr.alloc (.cells #[.string fp, .string fq, .int .i64 fn, .int .i64 flo, .int .i64 fhi, .int .i64 fseq] 37) = WA at *
    clear e0 e1 e2 e3 e4 e5 c7
    have x2 := (hI.below hbA).now.cells.2.2.1
    dsimp only at x2
    have fz := (hxA.cells).2.2.2.2.2.2
    have q5 := (hxA.cells).2.2.2.2.2.1
    dsimp only at q5
    have hxB := hxA.toSeq (x := nseq + 1)
    have hbB : Below wr.heap.size wr (WA.setCell ⟨wr.heap.size, 5, none⟩ (.int .i64 (nseq + 1))) := hbA.setCell (Nat.le_refl _) _
    clear hxA hbA
    go_upto_region 29 with fail
    clear x2 fz q5
    generalize WA.setCell ⟨wr.heap.size, 5, none⟩ (.int .i64 (nseq + 1)) = WB at *
    have k1 := (hxB.cells).2.1
    dsimp only at k1
    by_cases hn0 : 0 < i
    · have hd := eqB_of (s := OP) (l := [114, 101, 119, 114, 105, 116, 101]) (by rw [HOP2.out, if_pos hn0]; rfl)
      by_cases hp : fq.data.toList = [45]
      · have hd2 := eqB_of hp
        clear HOP2
        have hpl := HPJ.out WB u16 (hu.below hbB)
        rw [HTQ.out, if_neg (fun e => e.2 hp)] at hpl
        obtain ⟨r0, r1, r2, r3, r4, r5, -⟩ := hxB.cells
        dsimp only at r0 r1 r2 r3 r4 r5
        have hIF := hI.below hbB
        clear hI hu HPJ HTQ hxB hbB hB hn0
        go_wp2_with fail
        refine hpl.mono ?_
        rintro e wX ⟨u2, rfl, hu2, hbX⟩
        have HU : Hid (FlsAt wX u2 (plcN (tLeft t (nid, npar, nseq, nday, nidx, nop, nfs)) (tNew t (nid, npar, nseq, nday, nidx, nop, nfs)) (j + 1))) := hu2
        have HIX : Hid (RCI w wX fb (nid, npar, nseq, nday, nidx, nop, nfs) (.slice qf L cf) 0 dz) := hIF.below hbX
        clear hpl hu2 hbX hIF r0 r1 r2 r3 r4 r5 HTC
        go_wp2
        go_roundw
        case rel => exact ⟨j + 1, by omega, by go_num, HU.out, HIX.out⟩
        case measure => simp [intOf]; omega
      · have hd2 := neB_of hp
        clear HOP2
        have hBB : Below w.heap.size w WB := hB.trans (hbB.mono hB.size)
        have c2 := (HTC.out WB hBB).cells.1
        have fz := (hxB.cells).2.2.2.2.2.2
        have q5 := (hxB.cells).2.2.2.2.2.1
        dsimp only at q5
        have hxC := hxB.toSeq (x := t.1.2.2.1)
        have hbC : Below wr.heap.size wr (WB.setCell ⟨wr.heap.size, 5, none⟩ (.int .i64 t.1.2.2.1)) := hbB.setCell (Nat.le_refl _) _
        go_upto_region 31 with fail
        clear c2 fz q5 hBB hxB hbB k1
        generalize WB.setCell ⟨wr.heap.size, 5, none⟩ (.int .i64 t.1.2.2.1) = WC at *
        have hpl := HPJ.out WC u16 (hu.below hbC)
        rw [HTQ.out, if_pos ⟨hn0, hp⟩] at hpl
        obtain ⟨r0, r1, r2, r3, r4, r5, -⟩ := hxC.cells
        dsimp only at r0 r1 r2 r3 r4 r5
        have hIF := hI.below hbC
        clear hI hu HPJ HTQ hxC hbC hB hn0
        go_wp2_with fail
        refine hpl.mono ?_
        rintro e wX ⟨u2, rfl, hu2, hbX⟩
        have HU : Hid (FlsAt wX u2 (plcN (tLeft t (nid, npar, nseq, nday, nidx, nop, nfs)) (tNew t (nid, npar, nseq, nday, nidx, nop, nfs)) (j + 1))) := hu2
        have HIX : Hid (RCI w wX fb (nid, npar, nseq, nday, nidx, nop, nfs) (.slice qf L cf) 0 dz) := hIF.below hbX
        clear hpl hu2 hbX hIF r0 r1 r2 r3 r4 r5 HTC
        go_wp2
        go_roundw
        case rel => exact ⟨j + 1, by omega, by go_num, HU.out, HIX.out⟩
        case measure => simp [intOf]; omega
    · have hd := neB_of (s := OP) (l := [114, 101, 119, 114, 105, 116, 101]) (by rw [HOP2.out, if_neg hn0]; unfold opN; split <;> decide)
      clear HOP2
      have hpl := HPJ.out WB u16 (hu.below hbB)
      rw [HTQ.out, if_neg (fun e => hn0 e.1)] at hpl
      obtain ⟨r0, r1, r2, r3, r4, r5, -⟩ := hxB.cells
      dsimp only at r0 r1 r2 r3 r4 r5
      have hIF := hI.below hbB
      clear hI hu HPJ HTQ hxB hbB hB hn0
      go_wp2_with fail
      refine hpl.mono ?_
      rintro e wX ⟨u2, rfl, hu2, hbX⟩
      have HU : Hid (FlsAt wX u2 (plcN (tLeft t (nid, npar, nseq, nday, nidx, nop, nfs)) (tNew t (nid, npar, nseq, nday, nidx, nop, nfs)) (j + 1))) := hu2
      have HIX : Hid (RCI w wX fb (nid, npar, nseq, nday, nidx, nop, nfs) (.slice qf L cf) 0 dz) := hIF.below hbX
      clear hpl hu2 hbX hIF r0 r1 r2 r3 r4 r5 HTC
      go_wp2
      go_roundw
      case rel => exact ⟨j + 1, by omega, by go_num, HU.out, HIX.out⟩
      case measure => simp [intOf]; omega
  case neg =>
  obtain rfl : j = m := by omega
  have HT1 : Hid (FlsAt wr u16 TS) := by
    show FlsAt _ _ _
    have h := HPA.out
    rw [HQ.out] at h
    rw [← h]
    exact hu
  have hjj : ¬ (j : Int) < (j : Int) := by omega
  obtain ⟨qu, cu, hue⟩ := HT1.out.form
  obtain ⟨LT, hLT⟩ : ∃ LT, TS.length = LT := ⟨_, rfl⟩
  rw [hLT] at hue
  subst hue
  have x0 := hI.now.cells.1
  have x2 := hI.now.cells.2.2.1
  dsimp only at x0 x2
  have hbA : Below wr.heap.size wr (wr.alloc (.cells #[.int .i64 id, .int .i64 nid, .int .i64 (nseq + 1), .int .i64 day, .int .i64 idx, .string OP, .slice qu LT cu] 24)) := (Below.refl _ _).alloc (Nat.le_refl _) _
  have hsA : SnAt (wr.alloc (.cells #[.int .i64 id, .int .i64 nid, .int .i64 (nseq + 1), .int .i64 day, .int .i64 idx, .string OP, .slice qu LT cu] 24)) wr.heap.size (id, nid, nseq + 1, day, idx, OP, TS) (.slice qu LT cu) := sn_new _ _ _ _ _ _ _ _ _
  have hIA := hI.below hbA
  have HTA : Hid (FlsAt (wr.alloc (.cells #[.int .i64 id, .int .i64 nid, .int .i64 (nseq + 1), .int .i64 day, .int .i64 idx, .string OP, .slice qu LT cu] 24)) (.slice qu LT cu) TS) := HT1.out.below hbA
  have HSB : Hid (fb < wr.heap.size) := hI.flt.lt
  clear hu hlt hI hB hbA HT1 HPA HAD HPL HTC HOP2 hLT
  go_upto_region 33 with fail
  clear x0 x2 c7 hjj
  generalize wr.alloc (.cells #[.int .i64 id, .int .i64 nid, .int .i64 (nseq + 1), .int .i64 day, .int .i64 idx, .string OP, .slice qu LT cu] 24) = WA at *
  generalize wr.heap.size = sb at *
  have hs2 := HS2.out HSE.out WA (.slice qu LT cu) HTA.out
  generalize snapE (id, nid, nseq + 1, day, idx, OP, TS) = NE at *
  obtain ⟨p0, p1, p2, p3, p4, p5, p6⟩ := hsA.cells
  dsimp only at p0 p1 p2 p3 p4 p5 hs2
  go_wp2_with fail
  refine hs2.mono ?_
  rintro e wX ⟨rfl, hbX⟩
  clear p0 p1 p2 p3 p4 p5 p6 hs2 HS2
  have hIX := hIA.below hbX
  have hsX := hsA.below hbX
  have hvX := HTA.out.below hbX
  clear hIA hsA HTA hbX
  have hlef : w.heap.size ≤ fb := by have := HFB.out; omega
  have hI2 : RCI w ((wX.setCell ⟨fb, 0, none⟩ (.int .i64 NE.1)).setCell ⟨fb, 1, none⟩ (.int .i64 (atZ NE.2))) fb (nid, npar, nseq, nday, nidx, nop, nfs) (.slice qf L cf) NE.1 (atZ NE.2) := ⟨(hIX.low.setCell hlef _).setCell hlef _, sn_other (sn_other hIX.now (by have := HFB.out; omega) _ _) (by have := HFB.out; omega) _ _, sn_other (sn_other hIX.zero (by have := HFB.out; omega) _ _) (by have := HFB.out; omega) _ _, fc_other (fc_other hIX.res (by have := HFB.out; omega) _ _) (by have := HFB.out; omega) _ _, hIX.flt.set _ _⟩
  have hs3 : SnAt ((wX.setCell ⟨fb, 0, none⟩ (.int .i64 NE.1)).setCell ⟨fb, 1, none⟩ (.int .i64 (atZ NE.2))) sb (id, nid, nseq + 1, day, idx, OP, TS) (.slice qu LT cu) := sn_other (sn_other hsX (by have := HSB.out; omega) _ _) (by have := HSB.out; omega) _ _
  have hv3 : FlsAt ((wX.setCell ⟨fb, 0, none⟩ (.int .i64 NE.1)).setCell ⟨fb, 1, none⟩ (.int .i64 (atZ NE.2))) (.slice qu LT cu) TS := hIX.flt.ne_fls hvX 0 _ 1 _
  have fz := hIX.flt.fz
  have f0 := hIX.flt.c0
  have f1 := hIX.flt.c1
  clear hIX hsX hvX
  go_upto_region 34 with fail
  clear fz f0 f1
  generalize (wX.setCell ⟨fb, 0, none⟩ (.int .i64 NE.1)).setCell ⟨fb, 1, none⟩ (.int .i64 (atZ NE.2)) = WF at *
  by_cases hX : NE.1 = 0
  case neg =>
    have hXp : (0 : Int) < (NE.1 : Int) := by omega
    have HCE : Hid (CE = (NE.1, none)) := HEN.out
    have HZ : Hid (CS = zeroS) := HSb.out (by rw [HCE.out]; exact hX)
    obtain ⟨z, hz⟩ : ∃ z : Int, (NE.1 : Int) = z := ⟨_, rfl⟩
    have HZC : Hid ((NE.1 : Int) = z) := hz
    rw [hz] at hXp hI2
    generalize atZ NE.2 = zz at hI2
    have n0 := hI2.flt.c0
    have hbr := bare_of z WF
    clear hz HEN HSb HSo hs3 hv3 hX
    go_wp2_with fail
    refine hbr.mono ?_
    rintro e wb ⟨rfl, hbb⟩
    clear hbr n0
    have hIb := hI2.below hbb
    obtain ⟨y0, y1, y2, y3, y4, y5, y6, yf⟩ := hIb.zero.zeros
    have s0 := setCell_self y0
    have s1 := setCell_self y1
    have s2 := setCell_self y2
    have s3 := setCell_self y3
    have s4 := setCell_self y4
    have s5 := setCell_self y5
    have s6 := setCell_self y6
    have j0 := hIb.res.c0
    have j1 := hIb.res.c1
    have jz := hIb.res.fz
    have hBb := hIb.low
    clear hI2 hIb hbb
    go_wp2
    refine bodyPost_ret (v := .tuple #[.agg #[.int .i64 0, .int .i64 0, .int .i64 0, .int .i64 0, .int .i64 0, .string ⟨#[]⟩, .slice none 0 0], .agg #[.int .i64 z, .int .i64 (-1)]]) (by simp [results, Tryz.results21, go_sem, y0, y1, y2, y3, y4, y5, y6, j0, j1]) rfl ?_
    rw [← HZC.out]
    exact rcom_zero (n := NE.1) HZ.out HCE.out ((hBb.setCell hle2 _).setCell hle2 _)
  case pos =>
  have HCE : Hid (CE = (0, none)) := by show _ = _; rw [HEN.out, hX]
  have HCS : Hid (CS = (id, nid, nseq + 1, day, idx, OP, TS)) := HSo.out (by rw [HCE.out])
  have n0 := hI2.flt.c0
  rw [hX] at n0
  have hdr : Below WF.heap.size WF WF.drew := (Below.refl _ _).drew
  have hId := hI2.below hdr
  have hsd := hs3.below hdr
  have hvd := hv3.below hdr
  have hBd := hId.low
  have hzd := hId.zero
  have hfd := hId.res
  obtain ⟨p0, p1, p2, p3, p4, p5, p6⟩ := hsd.cells
  dsimp only at p0 p1 p2 p3 p4 p5
  clear hs3 hv3 hI2 hdr HEN HSb HSo hId hX
  go_wp2_with fail
  clear n0
  go_region_with (go_at_call 40; refine (fine_of _).mono ?_; rintro e wX ⟨rfl, hbX⟩; have hzX := hzd.below hbX; have hfX := hfd.below hbX; have xz := hzX.fz; have fz := hfX.fz; have gx0 := hfX.c0; have gx1 := hfX.c1; obtain ⟨ox0, ox1, ox2, ox3, ox4, ox5, ox6⟩ := hzX.cells; have t0 := below_keep hbX p0; have t1 := below_keep hbX p1; have t2 := below_keep hbX p2; have t3 := below_keep hbX p3; have t4 := below_keep hbX p4; have t5 := below_keep hbX p5; have t6 := below_keep hbX p6)
  all_goals
    have hBX : Below w.heap.size w wX := hBd.trans (hbX.mono hBd.size)
    have hvX := hvd.below hbX
    have hoff := off_of hzX hvX
    have hz1 := hzX.set (id, nid, nseq + 1, day, idx, OP, TS) (.slice qu LT cu)
    unfold snSet at hz1
    dsimp only at hz1
    have hne : w.heap.size + 1 ≠ w.heap.size + 2 := by omega
    have hzF : SnAt ((((((((((wX).setCell ⟨w.heap.size + 1, 0, none⟩ (.int .i64 id)).setCell ⟨w.heap.size + 1, 1, none⟩ (.int .i64 nid)).setCell ⟨w.heap.size + 1, 2, none⟩ (.int .i64 (nseq + 1))).setCell ⟨w.heap.size + 1, 3, none⟩ (.int .i64 day)).setCell ⟨w.heap.size + 1, 4, none⟩ (.int .i64 idx)).setCell ⟨w.heap.size + 1, 5, none⟩ (.string OP)).setCell ⟨w.heap.size + 1, 6, none⟩ (.slice qu LT cu)).setCell ⟨w.heap.size + 2, 0, none⟩ (.int .i64 0)).setCell ⟨w.heap.size + 2, 1, none⟩ (.int .i64 (-1))) (w.heap.size + 1) (id, nid, nseq + 1, day, idx, OP, TS) (.slice qu LT cu) := sn_other (sn_other hz1 (by omega) _ _) (by omega) _ _
    have hf1 := (fc_other (fc_other (fc_other (fc_other (fc_other (fc_other (fc_other hfX hne 0 (.int .i64 id)) hne 1 (.int .i64 nid)) hne 2 (.int .i64 (nseq + 1))) hne 3 (.int .i64 day)) hne 4 (.int .i64 idx)) hne 5 (.string OP)) hne 6 (.slice qu LT cu))
    have hfF : FC ((((((((((wX).setCell ⟨w.heap.size + 1, 0, none⟩ (.int .i64 id)).setCell ⟨w.heap.size + 1, 1, none⟩ (.int .i64 nid)).setCell ⟨w.heap.size + 1, 2, none⟩ (.int .i64 (nseq + 1))).setCell ⟨w.heap.size + 1, 3, none⟩ (.int .i64 day)).setCell ⟨w.heap.size + 1, 4, none⟩ (.int .i64 idx)).setCell ⟨w.heap.size + 1, 5, none⟩ (.string OP)).setCell ⟨w.heap.size + 1, 6, none⟩ (.slice qu LT cu)).setCell ⟨w.heap.size + 2, 0, none⟩ (.int .i64 0)).setCell ⟨w.heap.size + 2, 1, none⟩ (.int .i64 (-1))) (w.heap.size + 2) 0 (-1) := hf1.set 0 (-1)
    have hvF : Hid (FlsAt ((((((((((wX).setCell ⟨w.heap.size + 1, 0, none⟩ (.int .i64 id)).setCell ⟨w.heap.size + 1, 1, none⟩ (.int .i64 nid)).setCell ⟨w.heap.size + 1, 2, none⟩ (.int .i64 (nseq + 1))).setCell ⟨w.heap.size + 1, 3, none⟩ (.int .i64 day)).setCell ⟨w.heap.size + 1, 4, none⟩ (.int .i64 idx)).setCell ⟨w.heap.size + 1, 5, none⟩ (.string OP)).setCell ⟨w.heap.size + 1, 6, none⟩ (.slice qu LT cu)).setCell ⟨w.heap.size + 2, 0, none⟩ (.int .i64 0)).setCell ⟨w.heap.size + 2, 1, none⟩ (.int .i64 (-1))) (.slice qu LT cu) TS) := hf1.ne_fls (((((((hvX.set_off hoff 0 _).set_off hoff 1 _).set_off hoff 2 _).set_off hoff 3 _).set_off hoff 4 _).set_off hoff 5 _).set_off hoff 6 _) 0 _ 1 _
    have hBF : Below w.heap.size w ((((((((((wX).setCell ⟨w.heap.size + 1, 0, none⟩ (.int .i64 id)).setCell ⟨w.heap.size + 1, 1, none⟩ (.int .i64 nid)).setCell ⟨w.heap.size + 1, 2, none⟩ (.int .i64 (nseq + 1))).setCell ⟨w.heap.size + 1, 3, none⟩ (.int .i64 day)).setCell ⟨w.heap.size + 1, 4, none⟩ (.int .i64 idx)).setCell ⟨w.heap.size + 1, 5, none⟩ (.string OP)).setCell ⟨w.heap.size + 1, 6, none⟩ (.slice qu LT cu)).setCell ⟨w.heap.size + 2, 0, none⟩ (.int .i64 0)).setCell ⟨w.heap.size + 2, 1, none⟩ (.int .i64 (-1))) := ((((((((hBX.setCell hle1 _).setCell hle1 _).setCell hle1 _).setCell hle1 _).setCell hle1 _).setCell hle1 _).setCell hle1 _).setCell hle2 _).setCell hle2 _
    obtain ⟨u0, u1, u2, u3, u4', u5, u6⟩ := hzF.cells
    dsimp only at u0 u1 u2 u3 u4' u5
    have f0 := hfF.c0
    have f1 := hfF.c1
    clear hz1 hf1 hzF hfF hzX hfX hvX hoff
    go_wp2
    refine bodyPost_ret (v := .tuple #[.agg #[.int .i64 id, .int .i64 nid, .int .i64 (nseq + 1), .int .i64 day, .int .i64 idx, .string OP, .slice qu LT cu], .agg #[.int .i64 0, .int .i64 (-1)]]) (by simp [results, Tryz.results21, go_sem, u0, u1, u2, u3, u4', u5, u6, f0, f1]) rfl ?_
    show RComP _ CE CS _ _
    rw [HCE.out, HCS.out]
    exact ⟨.slice qu LT cu, rfl, hvF.out, hBF⟩
end Go.Proofs.YtcpplldfmmpaoaaGreatDoor
