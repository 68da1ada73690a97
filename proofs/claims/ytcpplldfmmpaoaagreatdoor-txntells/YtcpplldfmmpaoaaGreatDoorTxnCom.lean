/-
  The contract of (*Txn).Commit.
-/
import Derived.Test.YtcpplldfmmpaoaaGreatDoorTxnFl2
namespace Go.Proofs.YtcpplldfmmpaoaaGreatDoor
open Go.RowKit Go.Extern.Stop Go.Stop Go.Extern Go.Sort Go.Shelf Go.Lib

theorem SnAt.zeros {W : World} {b : Nat} (h : SnAt W b zeroS (.slice none 0 0)) : W.cell? ⟨b, 0, none⟩ = some (.int .i64 0) ∧ W.cell? ⟨b, 1, none⟩ = some (.int .i64 0) ∧ W.cell? ⟨b, 2, none⟩ = some (.int .i64 0) ∧ W.cell? ⟨b, 3, none⟩ = some (.int .i64 0) ∧ W.cell? ⟨b, 4, none⟩ = some (.int .i64 0) ∧ W.cell? ⟨b, 5, none⟩ = some (.string ⟨#[]⟩) ∧ W.cell? ⟨b, 6, none⟩ = some (.slice none 0 0) ∧ ∀ o, W.frozen? ⟨b, o, none⟩ = false := by
  obtain ⟨h0, h1, h2, h3, h4, h5, h6⟩ := h.cells
  exact ⟨h0, h1, h2, h3, h4, h5, h6, h.fz⟩

theorem keep7e {X : World} {b p o : Nat} {v u0 u1 u2 u3 u4 u5 u6 : Value} (hc : X.cell? ⟨b, o, none⟩ = some v) (hne : b ≠ p) : (((((((X.setCell ⟨p, 0, none⟩ u0).setCell ⟨p, 1, none⟩ u1).setCell ⟨p, 2, none⟩ u2).setCell ⟨p, 3, none⟩ u3).setCell ⟨p, 4, none⟩ u4).setCell ⟨p, 5, none⟩ u5).setCell ⟨p, 6, none⟩ u6).cell? ⟨b, o, none⟩ = some v := by
  have k : ∀ (Y : World) (j : Nat) (u : Value), Y.cell? ⟨b, o, none⟩ = some v → (Y.setCell ⟨p, j, none⟩ u).cell? ⟨b, o, none⟩ = some v := fun Y j u h => by
    rw [World.cell?_setCell_other _ _ _ _ (by intro e; injection e with e; exact hne e.symm)]
    exact h
  exact k _ _ _ (k _ _ _ (k _ _ _ (k _ _ _ (k _ _ _ (k _ _ _ (k _ _ _ hc))))))
theorem below7e {W0 X : World} {B p : Nat} {u0 u1 u2 u3 u4 u5 u6 : Value} (h : Below B W0 X) (hb : B ≤ p) : Below B W0 (((((((X.setCell ⟨p, 0, none⟩ u0).setCell ⟨p, 1, none⟩ u1).setCell ⟨p, 2, none⟩ u2).setCell ⟨p, 3, none⟩ u3).setCell ⟨p, 4, none⟩ u4).setCell ⟨p, 5, none⟩ u5).setCell ⟨p, 6, none⟩ u6) := ((((((h.setCell hb _).setCell hb _).setCell hb _).setCell hb _).setCell hb _).setCell hb _).setCell hb _

theorem alloc_swap {B : Nat} {a w : World} {o o' : Obj} (h : Below B a (w.alloc o)) (hB : B ≤ w.heap.size) (hs : a.heap.size ≤ w.heap.size) : Below B a (w.alloc o') := by
  refine ⟨h.os, h.tape, h.output, by simp; omega, fun k hk => ?_⟩
  rw [← h.block k hk]
  simp only [World.alloc, Array.getElem?_push]
  rw [if_neg (by omega), if_neg (by omega)]

theorem alloc_cell {w : World} {o o' : Obj} {b p : Nat} {v : Value} (h : (w.alloc o).cell? ⟨b, p, none⟩ = some v) (hb : b < w.heap.size) : (w.alloc o').cell? ⟨b, p, none⟩ = some v := by
  rw [← h]
  simp only [World.cell?, World.alloc, Array.getElem?_push, Nat.ne_of_lt hb, if_false]

theorem fls7 {X : World} {p : Nat} {s0 : Sn} {q : Option Addr} {n c : Nat} {v : Value} {fs : List Fl} (h : SnAt X p s0 (.slice q n c)) (hf : FlsAt X v fs) (s : Sn) (vf : Value) : FlsAt (snSet X p s vf) v fs := by
  have ho := off_of h hf
  exact (((((((hf.set_off ho 0 _).set_off ho 1 _).set_off ho 2 _).set_off ho 3 _).set_off ho 4 _).set_off ho 5 _).set_off ho 6 _)

theorem zero_new (w : World) : SnAt (w.alloc (.cells #[.int .i64 0, .int .i64 0, .int .i64 0, .int .i64 0, .int .i64 0, .string ⟨#[]⟩, .slice none 0 0] 24)) w.heap.size zeroS (.slice none 0 0) := heap_alloc_new _ _

theorem zero_drew (w : World) : SnAt (w.alloc (.cells #[.int .i64 0, .int .i64 0, .int .i64 0, .int .i64 0, .int .i64 0, .string ⟨#[]⟩, .slice none 0 0] 24)).drew w.heap.size zeroS (.slice none 0 0) := heap_alloc_new w _

theorem sn_new (w : World) (i0 i1 i2 i3 i4 : Int) (o : ByteArray) (v : Value) (fs : List Fl) : SnAt (w.alloc (.cells #[.int .i64 i0, .int .i64 i1, .int .i64 i2, .int .i64 i3, .int .i64 i4, .string o, v] 24)) w.heap.size (i0, i1, i2, i3, i4, o, fs) v := heap_alloc_new _ _
theorem sn_set7 {X : World} {p : Nat} {s : Sn} {vf : Value} (h : SnAt X p s vf) (i0 i1 i2 i3 i4 : Int) (o : ByteArray) (v : Value) (fs : List Fl) : SnAt (((((((X.setCell ⟨p, 0, none⟩ (.int .i64 i0)).setCell ⟨p, 1, none⟩ (.int .i64 i1)).setCell ⟨p, 2, none⟩ (.int .i64 i2)).setCell ⟨p, 3, none⟩ (.int .i64 i3)).setCell ⟨p, 4, none⟩ (.int .i64 i4)).setCell ⟨p, 5, none⟩ (.string o)).setCell ⟨p, 6, none⟩ v) p (i0, i1, i2, i3, i4, o, fs) v := h.set (i0, i1, i2, i3, i4, o, fs) v
theorem fls_set7 {X : World} {p : Nat} {s : Sn} {q : Option Addr} {n c : Nat} (h : SnAt X p s (.slice q n c)) (i0 i1 i2 i3 i4 : Int) (o : ByteArray) (v : Value) {v2 : Value} {fs : List Fl} (hf : FlsAt X v2 fs) : FlsAt (((((((X.setCell ⟨p, 0, none⟩ (.int .i64 i0)).setCell ⟨p, 1, none⟩ (.int .i64 i1)).setCell ⟨p, 2, none⟩ (.int .i64 i2)).setCell ⟨p, 3, none⟩ (.int .i64 i3)).setCell ⟨p, 4, none⟩ (.int .i64 i4)).setCell ⟨p, 5, none⟩ (.string o)).setCell ⟨p, 6, none⟩ v) v2 fs := fls7 h hf (i0, i1, i2, i3, i4, o, fs) v

def ComP (w : World) (a : Nat → Addr) (E : Nat × Option Nat) (S : Sn) (e : Ending) (w' : World) : Prop :=
  ∃ vf ev, e = .returned (.tuple #[snV S vf, ev]) ∧ FlsAt w' vf S.2.2.2.2.2.2 ∧ ToldE w' a ev E ∧ Below w.heap.size w w'

theorem com_zero {w w' : World} {a : Nat → Addr} {E : Nat × Option Nat} {S : Sn} {ev : Value} (hS : S = zeroS) (ht : ToldE w' a ev E) (hb : Below w.heap.size w w') : ComP w a E S (.returned (.tuple #[.agg #[.int .i64 0, .int .i64 0, .int .i64 0, .int .i64 0, .int .i64 0, .string ⟨#[]⟩, .slice none 0 0], ev])) w' := by
  subst hS
  exact ⟨.slice none 0 0, ev, rfl, Or.inl ⟨none, 0, rfl, fun _ => rfl, rfl⟩, ht, hb⟩

theorem tFit_com (t : Tx) (now : Sn) (id day idx : Int) (h : (snapE now).1 = 0) : tComE t now id day idx = if tFit t now.2.2.2.2.2.2 ≠ 0 then (tFit t now.2.2.2.2.2.2, none) else ((snapE (tSnap t now id day idx)).1, none) := by
  unfold tComE tFit tStale tThere
  rw [if_neg (by simpa using h)]
  split
  · simp
  · split
    · simp
    · simp

theorem tFit_zero {t : Tx} {now : Sn} (h : tFit t now.2.2.2.2.2.2 = 0) : tThere t now = false := by
  unfold tFit at h
  split at h
  · cases h
  · split at h
    · cases h
    · rename_i h2
      unfold tThere
      simpa using h2

theorem file_30 {f : Fl} (h : fileE f = 0) : f.1.size ≤ 30 ∧ f.2.1.size ≤ 30 := by
  obtain ⟨g, n, hp, hq, hb⟩ := file_good h
  have h1 : f.1.data.toList.length ≤ 16 := by
    rw [(path_some hp).1]
    have := (numO_spelt (path_some hp).2.1).2
    cases g <;> simp [kindL, kData, kGone] <;> omega
  have h2 : f.2.1.data.toList.length ≤ 12 := by
    unfold partB at hq
    cases g
    · simp only [Bool.false_eq_true, if_false, wordB, Bool.and_eq_true, decide_eq_true_eq] at hq
      omega
    · simp only [if_true, decide_eq_true_eq] at hq
      rw [hq]; decide
  rw [size_list] at h1 h2
  omega

theorem tFiles_short {t : Tx} {now : Sn} (ht : TxOk t) (hn : (snapE now).1 = 0) (hla : t.2.1.length ≤ 40) : (tFiles t now).length ≤ 100 ∧ Short (tFiles t now) := by
  obtain ⟨h60, hr, _⟩ := snap_rises hn
  refine ⟨?_, fun g hg => ?_⟩
  · unfold tFiles
    rw [(fold_perm _ _).length_eq, List.length_append]
    have h1 : (tLeft t now).length ≤ now.2.2.2.2.2.2.length := List.length_filter_le _ _
    have h2 : (tNew t now).length = t.2.1.length := by simp [tNew]
    omega
  · rcases tFiles_mem.1 hg with ⟨h, _⟩ | h
    · exact file_30 (hr g h).1
    · obtain ⟨f, hf, rfl⟩ := List.mem_map.1 h
      exact file_30 (f := f) (ht.adds f hf)

set_option maxRecDepth 100000 in
set_option maxHeartbeats 8000000 in
theorem commit_any (B : Nat) (v : Value) (FP : Nat → Prop) (t : Tx) (now : Sn) (vf : Value) (id day idx : Int) (w : World) (a : Nat → Addr) (h : EnvX w a) (ht : TxHas 66 B w v FP t) (hok : TxOk t) (hx : FlsAt w vf now.2.2.2.2.2.2) (hl : now.2.2.2.2.2.2.length ≤ 100) (hsz : Short now.2.2.2.2.2.2) (hla : t.2.1.length ≤ 40) (hlr : t.2.2.length ≤ 1000) :
    Calls Tryz.prog 12 #[v, snV now vf, .int .i64 id, .int .i64 day, .int .i64 idx] w fun e w' => ComP w a (tComE t now id day idx) (tCom t now id day idx) e w' := by
  obtain ⟨tb, vb, va, vr, rfl, hin, -, -, -⟩ := ht
  have HENV : Hid (∀ W, Below w.heap.size w W → EnvX W a) := fun W hb => h.below hb
  have HIN : Hid (∀ W, Below w.heap.size w W → TxIn 66 B W tb vb va vr t) := fun W hb => hin.below hb
  have HX : Hid (∀ W, Below w.heap.size w W → FlsAt W vf now.2.2.2.2.2.2) := fun W hb => hx.below hb
  have HCK : Hid (∀ W, Below w.heap.size w W → Calls Tryz.prog 13 #[snV now vf] W fun e w' => ∃ ev, e = .returned ev ∧ ToldE w' a ev (snapE now) ∧ Below W.heap.size W w') := fun W hb => scheck_any now vf W a (HENV.out W hb).list (HX.out W hb) hl hsz
  have HFT : Hid (∀ W, Below w.heap.size w W → Calls Tryz.prog 31 #[.pointer (some ⟨tb, 0, none⟩), vf] W fun e w' => e = .returned (errV a (tFit t now.2.2.2.2.2.2)) ∧ Below W.heap.size W w') := fun W hb => fits_any B tb vb va vr vf t now.2.2.2.2.2.2 W a (HENV.out W hb) (HIN.out W hb) (HX.out W hb) (by omega) (by omega) hlr
  have HOP : Hid (∀ W, Below w.heap.size w W → Calls Tryz.prog 32 #[.pointer (some ⟨tb, 0, none⟩)] W fun e w' => e = .returned (.string (tOp t)) ∧ Below W.heap.size W w') := fun W hb => op_any B tb vb va vr t W a (HENV.out W hb).list.file.env (HIN.out W hb) hok.adds (by omega)
  have HFL : Hid ((snapE now).1 = 0 → tFit t now.2.2.2.2.2.2 = 0 → ∀ W, Below w.heap.size w W → Calls Tryz.prog 33 #[.pointer (some ⟨tb, 0, none⟩), vf, .int .i64 (now.2.2.1 + 1)] W fun e w' => ∃ v', e = .returned v' ∧ FlsAt w' v' (tFiles t now) ∧ Below W.heap.size W w') := fun h0 hf W hb => files_any B tb vb va vr vf t now W a (HENV.out W hb) (HIN.out W hb) (HX.out W hb) hok h0 (tFit_zero hf) (by omega) hlr
  have HC2 : Hid ((snapE now).1 = 0 → ∀ (W : World) (v2 : Value), Below w.heap.size w W → FlsAt W v2 (tFiles t now) → Calls Tryz.prog 13 #[snV (tSnap t now id day idx) v2] W fun e w' => ∃ ev, e = .returned ev ∧ ToldE w' a ev (snapE (tSnap t now id day idx)) ∧ Below W.heap.size W w') := fun h0 W v2 hb h2 => scheck_any (tSnap t now id day idx) v2 W a (HENV.out W hb).list h2 (tFiles_short hok h0 hla).1 (tFiles_short hok h0 hla).2
  have HBD : Hid ((snapE now).1 = 0 → -1 ≤ now.2.2.1 ∧ now.2.2.1 ≤ 1073741824) := fun h0 => by
    have := (sbnd_all.1 (snap_good h0).1).2.1.1
    exact ⟨by omega, this.2⟩
  have HE1 : Hid ((snapE now).1 ≠ 0 → tComE t now id day idx = snapE now) := fun h => by unfold tComE; rw [if_pos h]
  have HE2 : Hid ((snapE now).1 = 0 → tComE t now id day idx = if tFit t now.2.2.2.2.2.2 ≠ 0 then (tFit t now.2.2.2.2.2.2, none) else ((snapE (tSnap t now id day idx)).1, none)) := fun h => tFit_com t now id day idx h
  have HS1 : Hid ((tComE t now id day idx).1 ≠ 0 → tCom t now id day idx = zeroS) := fun h => tCom_bad h
  have HS2 : Hid ((tComE t now id day idx).1 = 0 → tCom t now id day idx = (id, now.1, now.2.2.1 + 1, day, idx, tOp t, tFiles t now)) := fun h => (tCom_zero h).2.2.2.2
  have hal : Below w.heap.size w (w.alloc (.cells #[.int .i64 now.1, .int .i64 now.2.1, .int .i64 now.2.2.1, .int .i64 now.2.2.2.1, .int .i64 now.2.2.2.2.1, .string now.2.2.2.2.2.1, vf] 24)) := (Below.refl _ _).alloc (Nat.le_refl _) _
  have hsn := SnAt.new w now vf
  obtain ⟨qf, cf, hvf⟩ := hx.form
  have HLf : Hid (tSnap t now id day idx = (id, now.1, now.2.2.1 + 1, day, idx, tOp t, tFiles t now)) := rfl
  rw [HLf.out] at HC2 HE2
  generalize hCE : tComE t now id day idx = CE at *
  generalize hCS : tCom t now id day idx = CS at *
  generalize hSE : snapE now = SE at *
  generalize hTF : tFit t now.2.2.2.2.2.2 = TF at *
  generalize tOp t = OP at *
  clear h hin hx hok hl hsz hla hlr hCE hCS hSE hTF HLf
  have HFLL : Hid (now.2.2.2.2.2.2.length ≤ now.2.2.2.2.2.2.length) := Nat.le_refl _
  generalize now.2.2.2.2.2.2.length = L at hvf
  subst hvf
  unfold snV at HCK HC2 ⊢
  clear HX HIN HFLL
  generalize tFiles t now = TS at *
  generalize snapE (id, now.1, now.2.2.1 + 1, day, idx, OP, TS) = NE at *
  obtain ⟨nid, npar, nseq, nday, nidx, nop, nfs⟩ := now
  dsimp only at *
  go_enter Tryz.func12, Tryz.ntmps12
  go_upto_region 1 with fail
  have hzr := heap_alloc_new (w.alloc (.cells #[.int .i64 nid, .int .i64 npar, .int .i64 nseq, .int .i64 nday, .int .i64 nidx, .string nop, .slice qf L cf] 24)) (.cells #[.int .i64 0, .int .i64 0, .int .i64 0, .int .i64 0, .int .i64 0, .string ⟨#[]⟩, .slice none 0 0] 24)
  have hal2 : Below (w.alloc (.cells #[.int .i64 nid, .int .i64 npar, .int .i64 nseq, .int .i64 nday, .int .i64 nidx, .string nop, .slice qf L cf] 24)).heap.size (w.alloc (.cells #[.int .i64 nid, .int .i64 npar, .int .i64 nseq, .int .i64 nday, .int .i64 nidx, .string nop, .slice qf L cf] 24)) ((w.alloc (.cells #[.int .i64 nid, .int .i64 npar, .int .i64 nseq, .int .i64 nday, .int .i64 nidx, .string nop, .slice qf L cf] 24)).alloc (.cells #[.int .i64 0, .int .i64 0, .int .i64 0, .int .i64 0, .int .i64 0, .string ⟨#[]⟩, .slice none 0 0] 24)) := (Below.refl _ _).alloc (Nat.le_refl _) _
  have hsz1 : (w.alloc (.cells #[.int .i64 nid, .int .i64 npar, .int .i64 nseq, .int .i64 nday, .int .i64 nidx, .string nop, .slice qf L cf] 24)).heap.size = w.heap.size + 1 := by simp
  have hsn2 := hsn.below hal2
  have hB2 := hal.trans (hal2.mono hal.size)
  rw [hsz1] at hzr
  have hz2 : SnAt ((w.alloc (.cells #[.int .i64 nid, .int .i64 npar, .int .i64 nseq, .int .i64 nday, .int .i64 nidx, .string nop, .slice qf L cf] 24)).alloc (.cells #[.int .i64 0, .int .i64 0, .int .i64 0, .int .i64 0, .int .i64 0, .string ⟨#[]⟩, .slice none 0 0] 24)) (w.heap.size + 1) zeroS (.slice none 0 0) := hzr
  have hlt : w.heap.size ≤ w.heap.size + 1 := Nat.le_succ _
  clear hal hal2 hsn hzr hsz1
  generalize (w.alloc (.cells #[.int .i64 nid, .int .i64 npar, .int .i64 nseq, .int .i64 nday, .int .i64 nidx, .string nop, .slice qf L cf] 24)).alloc (.cells #[.int .i64 0, .int .i64 0, .int .i64 0, .int .i64 0, .int .i64 0, .string ⟨#[]⟩, .slice none 0 0] 24) = W2 at *
  have HNE : Hid (w.heap.size ≠ w.heap.size + 1) := by show _ ≠ _; omega
  generalize w.heap.size + 1 = zb at *
  obtain ⟨x0, x1, x2, x3, x4, x5, x6⟩ := hsn2.cells
  dsimp only at x0 x1 x2 x3 x4 x5
  go_wp2_with fail
  refine (HCK.out W2 hB2).mono ?_
  rintro e w3 ⟨ev, rfl, ht, hb3⟩
  clear x0 x1 x2 x3 x4 x5 x6 HCK
  have hB3 : Below w.heap.size w w3 := hB2.trans (hb3.mono hB2.size)
  have hsn3 := hsn2.below hb3
  have hz3 := hz2.below hb3
  clear hb3 hB2 hsn2 hz2
  by_cases hE : SE.1 = 0
  case neg =>
    obtain rfl := HE1.out hE
    have HZ : Hid (CS = zeroS) := HS1.out hE
    obtain ⟨tt, uu, rfl⟩ := ht.bad hE
    have HT : Hid (ToldE w3 a (.iface tt uu) CE) := ht
    obtain ⟨y0, y1, y2, y3, y4, y5, y6, yf⟩ := hz3.zeros
    have s0 := setCell_self y0
    have s1 := setCell_self y1
    have s2 := setCell_self y2
    have s3 := setCell_self y3
    have s4 := setCell_self y4
    have s5 := setCell_self y5
    have s6 := setCell_self y6
    clear ht hsn3 hz3
    go_wp2
    exact bodyPost_ret (v := .tuple #[(.agg #[.int .i64 0, .int .i64 0, .int .i64 0, .int .i64 0, .int .i64 0, .string ⟨#[]⟩, .slice none 0 0]), .iface tt uu]) (by simp [results, Tryz.results12, go_sem, y0, y1, y2, y3, y4, y5, y6]) rfl (com_zero HZ.out HT.out hB3)
  case pos =>
  obtain rfl := ht.ok hE
  have HSE : Hid (SE.1 = 0) := hE
  have hbd := HBD.out hE
  have HE3 : Hid (CE = if TF ≠ 0 then (TF, none) else (NE.fst, none)) := HE2.out hE
  clear ht hE HE1 HE2 HBD
  have x6 := hsn3.cells.2.2.2.2.2.2
  go_wp2_with fail
  refine (HFT.out w3 hB3).mono ?_
  rintro e w4 ⟨rfl, hb4⟩
  clear x6 HFT
  have hB4 : Below w.heap.size w w4 := hB3.trans (hb4.mono hB3.size)
  have hsn4 := hsn3.below hb4
  have hz4 := hz3.below hb4
  clear hb4 hB3 hsn3 hz3
  by_cases hT0 : TF = 0
  case neg =>
    have hCE : CE = (TF, none) := by rw [HE3.out, if_pos hT0]
    subst hCE
    have HZ : Hid (CS = zeroS) := HS1.out hT0
    obtain ⟨n, rfl⟩ : ∃ n, TF = n + 1 := ⟨TF - 1, by omega⟩
    have HT : Hid (ToldE w4 a (errV a (n + 1)) (n + 1, none)) := rfl
    simp only [errV] at HT ⊢
    obtain ⟨y0, y1, y2, y3, y4, y5, y6, yf⟩ := hz4.zeros
    have s0 := setCell_self y0
    have s1 := setCell_self y1
    have s2 := setCell_self y2
    have s3 := setCell_self y3
    have s4 := setCell_self y4
    have s5 := setCell_self y5
    have s6 := setCell_self y6
    clear hsn4 hz4 hT0
    go_wp2
    exact bodyPost_ret (v := .tuple #[(.agg #[.int .i64 0, .int .i64 0, .int .i64 0, .int .i64 0, .int .i64 0, .string ⟨#[]⟩, .slice none 0 0]), .iface 195 (.pointer (some (a n)))]) (by simp [results, Tryz.results12, go_sem, y0, y1, y2, y3, y4, y5, y6]) rfl (com_zero HZ.out HT.out hB4)
  case pos =>
  subst hT0
  have HE4 : Hid (CE = (NE.1, none)) := by show _ = _; rw [HE3.out, if_neg (by simp)]
  simp only [errV]
  have x2 := hsn4.cells.2.2.1
  dsimp only at x2
  have hwr : IntKind.i64.wrap (nseq + 1) = nseq + 1 := IntWalk.i64_in _ (by omega)
  clear HE3
  go_upto_region 10 with fail
  clear x2 hwr
  have x0 := hsn4.cells.1
  have x6 := hsn4.cells.2.2.2.2.2.2
  dsimp only at x0
  have HFL2 : Hid (∀ W, Below w.heap.size w W → Calls Tryz.prog 33 #[.pointer (some ⟨tb, 0, none⟩), .slice qf L cf, .int .i64 (nseq + 1)] W fun e w' => ∃ v', e = .returned v' ∧ FlsAt w' v' TS ∧ Below W.heap.size W w') := HFL.out HSE.out rfl
  clear HFL
  go_cut [15] from 38 to 51 (fun s15 wx => ∃ sb v2, s15 = .pointer (some ⟨sb, 0, none⟩) ∧ SnAt wx sb (id, nid, nseq + 1, day, idx, OP, TS) v2 ∧ FlsAt wx v2 TS ∧ Below w4.heap.size w4 wx)
  case first =>
    have hbs : Below w4.heap.size w4 w4 := Below.refl _ _
    clear hsn4 hz4 HS1 HS2 HC2 HE4 HSE
    have hlt4 : w.heap.size < w4.heap.size := cell_lt x0
    go_region_held3 (fun w' => Below w4.heap.size w4 w' ∧ w'.cell? ⟨w.heap.size, 0, none⟩ = some (.int .i64 nid) ∧ w'.cell? ⟨w.heap.size, 6, none⟩ = some (.slice qf L cf))
      (first
        | (go_split_ands; with_reducible exact ⟨Below.trans (by with_reducible assumption) (hbX.mono (Below.size (by with_reducible assumption))), below_keep hbX (by with_reducible assumption), below_keep hbX (by with_reducible assumption)⟩)
        | (go_split_ands; with_reducible exact ⟨alloc_swap (by with_reducible assumption) hle4 hle4, alloc_cell (by with_reducible assumption) (Nat.lt_of_lt_of_le hlt4 hle4), alloc_cell (by with_reducible assumption) (Nat.lt_of_lt_of_le hlt4 hle4)⟩)
        | (go_split_ands; with_reducible refine ⟨below7e (by with_reducible assumption) ?_, keep7e (by with_reducible assumption) ?_, keep7e (by with_reducible assumption) ?_⟩; all_goals first | exact hleX | exact Nat.le_refl _ | exact Nat.ne_of_lt hlt4 | exact Nat.ne_of_lt (Nat.lt_of_lt_of_le hlt4 hleX))
        | (go_split_ands; with_reducible refine ⟨Below.drew (by with_reducible assumption), ?_, ?_⟩; all_goals go_keep)
        | (go_split_ands; with_reducible refine ⟨Below.alloc (by with_reducible assumption) (Below.size (by with_reducible assumption)) _, ?_, ?_⟩; all_goals go_keep)
        | (go_split_ands; with_reducible refine ⟨Below.drew (Below.alloc (by with_reducible assumption) (Below.size (by with_reducible assumption)) _), ?_, ?_⟩; all_goals go_keep)
        | (go_split_ands; with_reducible exact ⟨by assumption, by assumption, by assumption⟩))
      (first
        | (go_at_call 32; with_reducible refine (HOP.out _ (by go_split_ands; exact hB4.trans (Below.mono (by with_reducible assumption) hB4.size))).mono ?_; rintro e wX ⟨rfl, hbX⟩; have hleX : w4.heap.size ≤ wX.heap.size := (by go_split_ands; exact Nat.le_trans (Below.size (by with_reducible assumption)) hbX.size); first | (with_reducible have hzX := SnAt.below (zero_drew _) hbX) | (with_reducible have hzX := SnAt.below (zero_new _) hbX) | skip)
        | (go_at_call 33; with_reducible refine (HFL2.out _ (by go_split_ands; exact hB4.trans (Below.mono (by with_reducible assumption) hB4.size))).mono ?_; rintro e wY ⟨v2, rfl, hf2, hbX⟩; have hle4 : w4.heap.size ≤ wY.heap.size := (by go_split_ands; exact Nat.le_trans (Below.size (by with_reducible assumption)) hbX.size); obtain ⟨q2, c2, rfl⟩ := hf2.form; first | (with_reducible have hzY := SnAt.below (zero_new _) hbX; obtain ⟨y0, y1, y2, y3, y4, y5, y6, yf⟩ := hzY.zeros) | (with_reducible have hzY := SnAt.below hzX hbX; obtain ⟨y0, y1, y2, y3, y4, y5, y6, yf⟩ := hzY.zeros) | skip))
    all_goals go_split_ands
    all_goals go_wp2
    all_goals go_meet
    all_goals first
      | (with_reducible exact ⟨_, _, rfl, sn_new _ _ _ _ _ _ _ _ _, FlsAt.below hf2 ((Below.refl _ _).alloc (Nat.le_refl _) _), by assumption⟩)
      | (with_reducible exact ⟨_, _, rfl, sn_set7 hzY _ _ _ _ _ _ _ _, fls_set7 hzY _ _ _ _ _ _ _ hf2, by assumption⟩)
  case rest =>
    obtain ⟨sb, v2, rfl, hsS, hfS, hb5⟩ := hcut
    have hB5 : Below w.heap.size w wc := hB4.trans (hb5.mono hB4.size)
    have hz5 := hz4.below hb5
    clear hz4 hsn4 x0 x6 HFL2 HOP hb5 hB4
    obtain ⟨q2, c2, hv2⟩ := hfS.form
    subst hv2
    have hck := HC2.out HSE.out wc _ hB5 hfS
    obtain ⟨LT, hLT⟩ : ∃ n, TS.length = n := ⟨_, rfl⟩
    rw [hLT] at hsS hfS hck
    clear hLT HC2
    obtain ⟨p0, p1, p2, p3, p4, p5, p6⟩ := hsS.cells
    dsimp only at p0 p1 p2 p3 p4 p5
    go_wp2_with fail
    refine hck.mono ?_
    rintro e w6 ⟨ev, rfl, ht, hb6⟩
    clear hck p0 p1 p2 p3 p4 p5 p6
    have hB6 : Below w.heap.size w w6 := hB5.trans (hb6.mono hB5.size)
    have hz6 := hz5.below hb6
    have hs6 := hsS.below hb6
    have hf6 := hfS.below hb6
    clear hsS hfS hz5 hb6 hB5
    by_cases hN : NE.1 = 0
    case neg =>
      obtain ⟨n, hn⟩ : ∃ n, NE.1 = n + 1 := ⟨NE.1 - 1, by omega⟩
      have hCE : CE = (n + 1, none) := by rw [HE4.out, hn]
      have HZ : Hid (CS = zeroS) := HS1.out (by rw [hCE]; simp)
      subst hCE
      have hbr := bare_any n ev w6 a (HENV.out w6 hB6).hand (by
        obtain ⟨k, o⟩ := NE
        dsimp only at hn
        subst hn
        cases o with
        | none => exact Or.inl ht
        | some j =>
          obtain ⟨_, fb, h1, _, h2⟩ := ht
          exact Or.inr ⟨fb, h1, h2⟩)
      obtain ⟨tt, uu, rfl⟩ := ht.bad hN
      have HT : Hid (∀ W, ToldE W a (errV a (n + 1)) (n + 1, none)) := fun W => rfl
      simp only [errV] at hbr HT
      clear ht hN hn hs6 hf6 HE4 HS1 HS2
      go_wp2_with fail
      refine hbr.mono ?_
      rintro e w7 ⟨rfl, hb7⟩
      clear hbr
      have hB7 : Below w.heap.size w w7 := hB6.trans (hb7.mono hB6.size)
      obtain ⟨y0, y1, y2, y3, y4, y5, y6, yf⟩ := (hz6.below hb7).zeros
      have s0 := setCell_self y0
      have s1 := setCell_self y1
      have s2 := setCell_self y2
      have s3 := setCell_self y3
      have s4 := setCell_self y4
      have s5 := setCell_self y5
      have s6 := setCell_self y6
      clear hz6 hb7 hB6
      go_wp2
      exact bodyPost_ret (v := .tuple #[(.agg #[.int .i64 0, .int .i64 0, .int .i64 0, .int .i64 0, .int .i64 0, .string ⟨#[]⟩, .slice none 0 0]), .iface 195 (.pointer (some (a n)))]) (by simp [results, Tryz.results12, go_sem, y0, y1, y2, y3, y4, y5, y6]) rfl (com_zero HZ.out (HT.out _) hB7)
    case pos =>
      obtain rfl := ht.ok hN
      have hCE : CE = (0, none) := by rw [HE4.out, hN]
      have HCS : Hid (CS = (id, nid, nseq + 1, day, idx, OP, TS)) := HS2.out (by rw [hCE])
      subst hCE
      clear ht hN HE4 HS1 HS2
      obtain ⟨p0, p1, p2, p3, p4, p5, p6⟩ := hs6.cells
      dsimp only at p0 p1 p2 p3 p4 p5
      obtain ⟨y0, y1, y2, y3, y4, y5, y6, yf⟩ := hz6.zeros
      have HF : Hid (FlsAt (snSet w6 zb (id, nid, nseq + 1, day, idx, OP, TS) (.slice q2 LT c2)) (.slice q2 LT c2) TS) := fls7 hz6 hf6 (id, nid, nseq + 1, day, idx, OP, TS) (.slice q2 LT c2)
      obtain ⟨u0, u1, u2, u3, u4, u5, u6⟩ := (hz6.set (id, nid, nseq + 1, day, idx, OP, TS) (.slice q2 LT c2)).cells
      have hB8 := snSet_below (s := (id, nid, nseq + 1, day, idx, OP, TS)) (vf := .slice q2 LT c2) hB6 hlt
      unfold snSet at u0 u1 u2 u3 u4 u5 u6 hB8 HF
      dsimp only at u0 u1 u2 u3 u4 u5 hB8 HF
      clear hz6 hs6 hf6
      go_wp2
      refine bodyPost_ret (v := .tuple #[.agg #[.int .i64 id, .int .i64 nid, .int .i64 (nseq + 1), .int .i64 day, .int .i64 idx, .string OP, .slice q2 LT c2], .nilIface]) (by simp [results, Tryz.results12, go_sem, u0, u1, u2, u3, u4, u5, u6]) rfl ?_
      show ComP _ _ _ CS _ _
      rw [HCS.out]
      exact ⟨.slice q2 LT c2, .nilIface, rfl, HF.out, rfl, hB8⟩
end Go.Proofs.YtcpplldfmmpaoaaGreatDoor
