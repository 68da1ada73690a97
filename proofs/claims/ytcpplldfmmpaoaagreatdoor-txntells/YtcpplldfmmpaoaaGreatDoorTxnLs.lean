/-
  One change of a table, done by one of two.
-/
import Derived.Test.YtcpplldfmmpaoaaGreatDoorTxnOne
namespace Go.Proofs.YtcpplldfmmpaoaaGreatDoor
open Go.RowKit Go.Extern.Stop Go.Stop Go.Extern Go.Sort Go.Shelf Go.Lib

abbrev Ch := Bool × Fl × ByteArray

def ChCells (w : World) (b o : Nat) (l : List Ch) : Prop :=
  ∀ j (h : j < l.length), w.cell? ⟨b, o + j * 8, none⟩ = some (.bool l[j].1) ∧ w.cell? ⟨b, o + j * 8 + 1, none⟩ = some (.string l[j].2.1.1) ∧ w.cell? ⟨b, o + j * 8 + 2, none⟩ = some (.string l[j].2.1.2.1) ∧ w.cell? ⟨b, o + j * 8 + 3, none⟩ = some (.int .i64 l[j].2.1.2.2.1) ∧ w.cell? ⟨b, o + j * 8 + 4, none⟩ = some (.int .i64 l[j].2.1.2.2.2.1) ∧ w.cell? ⟨b, o + j * 8 + 5, none⟩ = some (.int .i64 l[j].2.1.2.2.2.2.1) ∧ w.cell? ⟨b, o + j * 8 + 6, none⟩ = some (.int .i64 l[j].2.1.2.2.2.2.2) ∧ w.cell? ⟨b, o + j * 8 + 7, none⟩ = some (.string l[j].2.2)
theorem ChCells.below {w w' : World} {B b o : Nat} {l : List Ch} (h : ChCells w b o l) (hb : Below B w w') (hlt : b < B) : ChCells w' b o l := fun j hj => by
  have hk : ∀ p, w'.cell? ⟨b, p, none⟩ = w.cell? ⟨b, p, none⟩ := fun p => by
    have e := hb.block b hlt
    unfold World.cell?
    rw [e]
  obtain ⟨h0, h1, h2, h3, h4, h5, h6, h7⟩ := h j hj
  exact ⟨(hk _).trans h0, (hk _).trans h1, (hk _).trans h2, (hk _).trans h3, (hk _).trans h4, (hk _).trans h5, (hk _).trans h6, (hk _).trans h7⟩
def ChsAt (w : World) (v : Value) (l : List Ch) : Prop :=
  (∃ p c, v = .slice p 0 c ∧ l = []) ∨ ∃ b o cap, v = .slice (some ⟨b, o, none⟩) l.length cap ∧ b < w.heap.size ∧ ChCells w b o l
theorem ChsAt.below {w w' : World} {B : Nat} {v : Value} {l : List Ch} (h : ChsAt w v l) (hb : Below B w w') (hB : w.heap.size ≤ B) : ChsAt w' v l := by
  rcases h with h | ⟨b, o, cap, hv, hl, hc⟩
  · exact Or.inl h
  · exact Or.inr ⟨b, o, cap, hv, Nat.lt_of_lt_of_le hl hb.size, hc.below hb (Nat.lt_of_lt_of_le hl hB)⟩
theorem ChsAt.form {w : World} {v : Value} {l : List Ch} (h : ChsAt w v l) : ∃ p c, v = .slice p l.length c := by
  rcases h with ⟨p, c, rfl, rfl⟩ | ⟨b, o, cap, rfl, _⟩
  · exact ⟨_, _, rfl⟩
  · exact ⟨_, _, rfl⟩
theorem ChsAt.cells {w : World} {q : Option Addr} {n c : Nat} {l : List Ch} (h : ChsAt w (.slice q n c) l) (hne : l ≠ []) : ∃ b o, q = some ⟨b, o, none⟩ ∧ b < w.heap.size ∧ ChCells w b o l := by
  rcases h with ⟨_, _, _, e⟩ | ⟨b, o, cap, e, hl, hc⟩
  · exact absurd e hne
  · simp only [Value.slice.injEq] at e
    exact ⟨b, o, e.1, hl, hc⟩

def chLong (x : Ch) : Bool := decide (30 < x.2.2.size) || longFB x.2.1
def chsLong (l : List Ch) : Bool := decide (30 < l.length) || l.any chLong
theorem chs_short {l : List Ch} (h : chsLong l = false) : l.length ≤ 30 ∧ ∀ x ∈ l, x.2.2.size ≤ 30 ∧ x.2.1.1.size ≤ 30 ∧ x.2.1.2.1.size ≤ 30 := by
  unfold chsLong at h
  rw [Bool.or_eq_false_iff] at h
  obtain ⟨h1, h2⟩ := h
  refine ⟨by simpa using h1, fun x hx => ?_⟩
  have h3 : chLong x = false := by
    have := List.any_eq_false.1 h2 x hx
    simpa using this
  unfold chLong longFB at h3
  simp only [Bool.or_eq_false_iff, decide_eq_false_iff_not] at h3
  obtain ⟨h4, h5, h6⟩ := h3
  exact ⟨by omega, by omega, by omega⟩

theorem noLong_succ {l : List Ch} {n : Nat} (h : ∀ j (h : j < l.length), j < n → chLong l[j] = false) (hn : n < l.length) (e : chLong l[n] = false) : ∀ j (h : j < l.length), j < n + 1 → chLong l[j] = false := fun j hj hjn => by
  by_cases e' : j = n
  · subst e'; exact e
  · exact h j hj (by omega)

set_option maxRecDepth 100000 in
set_option maxHeartbeats 4000000 in
theorem longChanges_any (v : Value) (l : List Ch) (w : World) (h : ChsAt w v l) (hl : l.length ≤ maxLen) (hz : ∀ x ∈ l, x.2.2.size ≤ maxLen ∧ x.2.1.1.size ≤ maxLen ∧ x.2.1.2.1.size ≤ maxLen) :
    Calls Tryz.prog 7 #[v] w fun e w' => e = .returned (.bool (chsLong l)) ∧ Below w.heap.size w w' := by
  unfold maxLen at hl
  obtain ⟨q, cap, rfl⟩ := h.form
  have HA : Hid (ChsAt w (.slice q l.length cap) l) := h
  have HZ : Hid (∀ x ∈ l, x.2.2.size ≤ maxLen ∧ x.2.1.1.size ≤ maxLen ∧ x.2.1.2.1.size ≤ maxLen) := hz
  obtain ⟨L, hL⟩ : ∃ L, l.length = L := ⟨_, rfl⟩
  have HL : Hid (l.length = L) := hL
  obtain ⟨R, hR⟩ : ∃ R, chsLong l = R := ⟨_, rfl⟩
  have HR : Hid ((decide (30 < L) || l.any chLong) = R) := by
    show _ = _
    rw [← hR, ← hL]; rfl
  rw [hR, hL]
  rw [hL] at hl
  clear h hz hR hL
  by_cases h30 : 30 < L
  · have hRR : R = true := by rw [← HR.out, decide_eq_true h30]; rfl
    subst hRR
    have hi : (30 : Int) < (L : Int) := by omega
    clear HR
    go_enter Tryz.func7, Tryz.ntmps7
    go_wp2
    go_ret
    exact ⟨rfl, Below.refl _ _⟩
  have hi : ¬ (30 : Int) < (L : Int) := by omega
  have HR2 : Hid (l.any chLong = R) := by show _ = _; rw [← HR.out, decide_eq_false h30]; rfl
  clear HR
  go_enter Tryz.func7, Tryz.ntmps7
  go_wp2
  go_loopw [3] (fun k wr => ∃ n : Nat, n ≤ L ∧ k = .int .i64 n ∧ (∀ j (h : j < l.length), j < n → chLong l[j] = false) ∧ Below w.heap.size w wr) (fun k _ => L - (intOf k).toNat)
  case atStart => exact ⟨0, by omega, rfl, fun j h h' => absurd h' (Nat.not_lt_zero _), Below.refl _ _⟩
  case round =>
    obtain ⟨n, hn, rfl, hno, hb⟩ := hrel
    have HNO : Hid (∀ j (h : j < l.length), j < n → chLong l[j] = false) := hno
    clear hno
    by_cases hlt : n < L
    · have hltx : n < l.length := by rw [HL.out]; exact hlt
      obtain ⟨b, o, hq, hbl, hc⟩ := (HA.out.below hb (Nat.le_refl _)).cells (fun e => by rw [e] at hltx; simp at hltx)
      subst hq
      obtain ⟨c0, c1, c2, c3, c4, c5, c6, c7⟩ := hc n hltx
      obtain ⟨z1, z2, z3⟩ := HZ.out l[n] (List.getElem_mem _)
      have hlf := longFile_any l[n].2.1 wr z2 z3
      have hi' : (n : Int) < (L : Int) := by omega
      have hi0' : (0 : Int) ≤ (n : Int) := by omega
      have HY : Hid (chLong l[n] = true → R = true) := fun e => by rw [← HR2.out]; exact List.any_eq_true.2 ⟨_, List.getElem_mem hltx, e⟩
      have HN1 : Hid (chLong l[n] = false → ∀ j (h : j < l.length), j < n + 1 → chLong l[j] = false) := fun e => noLong_succ HNO.out hltx e
      have HCL : Hid (chLong l[n] = (decide (30 < l[n].2.2.size) || longFB l[n].2.1)) := rfl
      unfold flV at hlf
      clear hc
      generalize chLong l[n] = CL at HY HN1 HCL
      generalize longFB l[n].2.1 = LB at hlf HCL
      generalize l[n] = x at c0 c1 c2 c3 c4 c5 c6 c7 z1 hlf HCL
      clear hltx z2 z3
      obtain ⟨ad, ⟨fp, fq, fn, flo, fhi, fseq⟩, p⟩ := x
      dsimp only at c0 c1 c2 c3 c4 c5 c6 c7 z1 hlf HCL
      unfold maxLen at z1
      by_cases hp : 30 < p.size
      · have hRR : R = true := HY.out (by rw [HCL.out, decide_eq_true hp]; rfl)
        subst hRR
        have hip : (30 : Int) < (p.size : Int) := by omega
        clear hlf HY HN1 HCL
        go_wp2
        go_ret
        exact ⟨rfl, hb⟩
      · have hip : ¬ (30 : Int) < (p.size : Int) := by omega
        cases LB with
        | true =>
          have hRR : R = true := HY.out (by rw [HCL.out]; simp)
          subst hRR
          rw [if_pos rfl] at hlf
          clear HY HN1 HCL
          go_wp2_with (go_at_call 25; with_reducible refine hlf.mono ?_; rintro e w2 ⟨rfl, hb2⟩)
          go_ret
          exact ⟨rfl, hb.trans (hb2.mono hb.size)⟩
        | false =>
          have HN2 : Hid (∀ j (h : j < l.length), j < n + 1 → chLong l[j] = false) := HN1.out (by rw [HCL.out, decide_eq_false hp]; rfl)
          rw [if_neg (by simp)] at hlf
          clear HY HN1 HCL
          go_wp2_with (go_at_call 25; with_reducible refine hlf.mono ?_; rintro e w2 ⟨rfl, hb2⟩)
          have hb3 : Below w.heap.size w w2 := hb.trans (hb2.mono hb.size)
          go_roundw
          case rel => exact ⟨n + 1, by omega, by go_num, HN2.out, hb3⟩
          case measure => simp [intOf]; omega
    · obtain rfl : n = L := by omega
      have hRR : R = false := by
        rw [← HR2.out]
        refine List.any_eq_false.2 fun x hx => ?_
        obtain ⟨j, hj, rfl⟩ := List.mem_iff_getElem.1 hx
        rw [HNO.out j hj (by rw [← HL.out]; exact hj)]
        simp
      subst hRR
      go_wp2
      go_ret
      exact ⟨rfl, hb⟩
end Go.Proofs.YtcpplldfmmpaoaaGreatDoor
namespace Go.Proofs.YtcpplldfmmpaoaaGreatDoor
open Go.RowKit Go.Extern.Stop Go.Stop Go.Extern Go.Sort Go.Shelf Go.Lib

set_option maxRecDepth 100000 in
set_option maxHeartbeats 4000000 in
theorem remove_any (B : Nat) (v : Value) (FP : Nat → Prop) (t : Tx) (p : ByteArray) (w : World) (a : Nat → Addr) (h : EnvX w a) (ht : TxHas 66 B w v FP t) (hB : B ≤ w.heap.size) (hlen : t.2.2.length ≤ 1000) (hbl : t.1.2.2.2.2.2.2.length ≤ 1000) :
    Calls Tryz.prog 11 #[v, .string p] w fun e w' => e = .returned (errV a (tRemE t p)) ∧ TxPost 66 B w v FP (tRem t p) w' := by
  have HSAME : Hid (∀ w', Below w.heap.size w w' → TxPost 66 B w v FP t w') := fun w' hb => tx_same ht hb
  obtain ⟨tb, vb, va, vr, rfl, hin, hfp, hvb, hFP⟩ := ht
  have hfd := find_any vb t.1.2.2.2.2.2.2 p w hin.base (by omega)
  have hct := fun W (hb : Below w.heap.size w W) => containsT_any vr t.2.2 p W ((tsAt_own hin.rems).below hb) (by omega)
  have HRUN : Hid (∀ (W W9 : World), Below w.heap.size w W9 → W9 = W.alloc (.cells #[.string p] 9) → ∃ vr' W2, (Builtin.append_ #[35, 35] 35 #[vr, .slice (some ⟨W.heap.size, 0, none⟩) 1 1]).run Tryz.prog W9 = .ok vr' W2 ∧ (∃ q n c, vr' = .slice q n c) ∧ TxC 66 W2 tb t.1 vb va vr ∧ TxPost 66 B w (.pointer (some ⟨tb, 0, none⟩)) FP (t.1, t.2.1, t.2.2 ++ [p]) (W2.setCell ⟨tb, 8, none⟩ vr')) :=
    fun W W9 hW9 e => rem_run (by decide) (by decide) hin hfp hvb hFP hB hW9 p e hlen
  have HTC : Hid (∀ W, Below w.heap.size w W → TxC 66 W tb t.1 vb va vr) := fun W hb => (hin.below hb).cells
  obtain ⟨qr, cr, hvr⟩ := own_form hin.rems
  obtain ⟨qb, cb, hvb2⟩ := hin.base.form
  have HENV : Hid (∀ W, Below w.heap.size w W → EnvX W a) := fun W hb => h.below hb
  have HFH : Hid (decide (0 ≤ findF t.1.2.2.2.2.2.2 p) = hasP t.1.2.2.2.2.2.2 p) := findF_has _ _
  have HTA : Hid (tRemE t p = if hasP t.1.2.2.2.2.2.2 p = false then 6 else if inT t.2.2 p = true then 7 else 0) := rfl
  have HTB : Hid (tRem t p = if tRemE t p = 0 then (t.1, t.2.1, t.2.2 ++ [p]) else t) := rfl
  generalize tRem t p = TA at HTB ⊢
  generalize tRemE t p = TE at HTA HTB ⊢
  clear hin hfp hvb hFP h hlen hbl
  generalize hfi : findF t.1.2.2.2.2.2.2 p = FI at hfd HFH
  generalize hhp : hasP t.1.2.2.2.2.2.2 p = HP at HFH HTA
  generalize hit : inT t.2.2 p = IT at hct HTA
  clear hfi hhp hit
  generalize t.2.2.length = LR at hvr
  generalize t.1.2.2.2.2.2.2.length = LB at hvb2
  subst hvr hvb2
  have htc := (HTC.out w (Below.refl _ _)).cells.2.1
  go_enter Tryz.func11, Tryz.ntmps11
  go_wp2_with fail
  refine hfd.mono ?_
  rintro e w1 ⟨rfl, hb1⟩
  clear hfd htc
  cases HP with
  | false =>
    have HTE : Hid (TE = 6) := by show _ = _; rw [HTA.out, if_pos rfl]
    have HT2 : Hid (TA = t) := by show _ = _; rw [HTB.out, HTE.out, if_neg (by omega)]
    have hge : FI < 0 := by have := of_decide_eq_false HFH.out; omega
    have et := (HENV.out w1 hb1).list.miss
    go_wp2
    go_ret
    refine ⟨by rw [HTE.out]; rfl, ?_⟩
    rw [HT2.out]
    exact HSAME.out _ hb1
  | true =>
  have HTA2 : Hid (TE = if IT = true then 7 else 0) := by show _ = _; rw [HTA.out, if_neg (by simp)]
  have hge : ¬ FI < 0 := by have := of_decide_eq_true HFH.out; omega
  have htc := (HTC.out w1 hb1).cells.2.2.2
  have hct1 := hct w1 hb1
  clear hct HTA
  go_wp2_with fail
  refine hct1.mono ?_
  rintro e w2 ⟨rfl, rfl⟩
  clear hct1
  cases IT with
  | true =>
    have HTE : Hid (TE = 7) := by show _ = _; rw [HTA2.out, if_pos rfl]
    have HT2 : Hid (TA = t) := by show _ = _; rw [HTB.out, HTE.out, if_neg (by omega)]
    have et := (HENV.out w2 hb1).list.exist
    go_wp2
    go_ret
    refine ⟨by rw [HTE.out]; rfl, ?_⟩
    rw [HT2.out]
    exact HSAME.out _ hb1
  | false =>
    have HTE : Hid (TE = 0) := by show _ = _; rw [HTA2.out, if_neg (by simp)]
    have HT2 : Hid (TA = (t.1, t.2.1, t.2.2 ++ [p])) := by show _ = _; rw [HTB.out, HTE.out, if_pos rfl]
    obtain ⟨vr', W2, hr, ⟨q', n', c', rfl⟩, htc2, hpost⟩ := HRUN.out w2 (w2.alloc (.cells #[.string p] 9)) (hb1.alloc hb1.size _) rfl
    have HPOST : Hid (TxPost 66 B w (.pointer (some ⟨tb, 0, none⟩)) FP (t.1, t.2.1, t.2.2 ++ [p]) (W2.setCell ⟨tb, 8, none⟩ (.slice q' n' c'))) := hpost
    have hba : Below w2.heap.size w2 (w2.alloc (.cells #[.string p] 9)) := (Below.refl _ _).alloc (Nat.le_refl _) _
    have k2 := below_keep hba htc
    have y0 := htc2.cells.2.2.2
    have y1 := htc2.fz
    clear hpost htc2 hba HRUN HSAME HTB
    go_wp2_with (at_builtin; refine wpList_append_ran (by rfl) _ _ _ (by rfl) _ _ _ (by rfl) (by rfl) hr ?_)
    all_goals go_ret
    all_goals
      refine ⟨by rw [HTE.out]; rfl, ?_⟩
      rw [HT2.out]
      exact HPOST.out

end Go.Proofs.YtcpplldfmmpaoaaGreatDoor
namespace Go.Proofs.YtcpplldfmmpaoaaGreatDoor
open Go.RowKit Go.Extern.Stop Go.Stop Go.Extern Go.Sort Go.Shelf Go.Lib

theorem tAdd_no {t : Tx} {f : Fl} (h : tAddE t f ≠ 0) : tAdd t f = t := by unfold tAdd; rw [if_neg h]
theorem tAdd_yes {t : Tx} {f : Fl} (h : tAddE t f = 0) : tAdd t f = (t.1, t.2.1 ++ [atSeq f 1], t.2.2) := by unfold tAdd; rw [if_pos h]
theorem tRem_no {t : Tx} {p : ByteArray} (h : tRemE t p ≠ 0) : tRem t p = t := by unfold tRem; rw [if_neg h]
theorem tRem_yes {t : Tx} {p : ByteArray} (h : tRemE t p = 0) : tRem t p = (t.1, t.2.1, t.2.2 ++ [p]) := by unfold tRem; rw [if_pos h]

end Go.Proofs.YtcpplldfmmpaoaaGreatDoor
namespace Go.Proofs.YtcpplldfmmpaoaaGreatDoor
open Go.RowKit Go.Extern.Stop Go.Stop Go.Extern Go.Sort Go.Shelf Go.Lib

theorem inTs_any (s : ByteArray) (v : Value) (ts : List ByteArray) (w : World) (h : TsAt w v ts) (hl : ts.length ≤ 20000) :
    Calls Tryz.prog 15 #[.string s, v] w fun e w' => e = .returned (.bool (inT ts s)) ∧ w' = w := by
  rcases h with ⟨rfl, rfl⟩ | ⟨b, cap, rfl, _, hc⟩
  · go_enter Tryz.func15, Tryz.ntmps15
    go_wp2
    go_loop [5] (fun k => k = .int .i64 0) (fun _ => 0)
    case atStart => rfl
    case round =>
      obtain rfl := hrel
      go_wp2
      go_ret
      exact ⟨rfl, rfl⟩
  · exact inTexts_any s b cap ts w hc hl

set_option maxRecDepth 100000 in
set_option maxHeartbeats 8000000 in
theorem radd_any (B : Nat) (v : Value) (FP : Nat → Prop) (t : Tx) (f : Fl) (w : World) (ht : TxHas 54 B w v FP t) (hB : B ≤ w.heap.size) (hlen : t.2.1.length ≤ 1000) (h1 : f.1.size ≤ 100000) (h2 : f.2.1.size ≤ 100000) :
    Calls Tryz.prog 19 #[v, flV f] w fun e w' => e = .returned (.int .i64 (tAddE t f)) ∧ TxPost 54 B w v FP (tAdd t f) w' := by
  have HSAME : Hid (∀ w', Below w.heap.size w w' → TxPost 54 B w v FP t w') := fun w' hb => tx_same ht hb
  obtain ⟨tb, vb, va, vr, rfl, hin, hfp, hvb, hFP⟩ := ht
  have hal : Below w.heap.size w (w.alloc (.cells #[.string f.1, .string f.2.1, .int .i64 f.2.2.1, .int .i64 f.2.2.2.1, .int .i64 f.2.2.2.2.1, .int .i64 f.2.2.2.2.2] 37)) := (Below.refl _ _).alloc (Nat.le_refl _) _
  have hfl := FlAt.new w f
  have hck := fun W => fileError_any (atSeq f 1) W h1 h2
  have hfd := fun W (hb : Below w.heap.size w W) => (findOf_any va t.2.1 f.1 W ((flsAt_of_own hin.adds).1.below hb) (by omega)).mono (R' := fun e w' => e = .returned (.int .i64 (findF t.2.1 f.1)) ∧ Below W.heap.size W w') fun e w' ⟨he, hw⟩ => ⟨he, by subst hw; exact Below.refl _ _⟩
  have HRUN : Hid (∀ (W W9 : World), Below w.heap.size w W9 → W9 = W.alloc (.cells #[.string (atSeq f 1).1, .string (atSeq f 1).2.1, .int .i64 (atSeq f 1).2.2.1, .int .i64 (atSeq f 1).2.2.2.1, .int .i64 (atSeq f 1).2.2.2.2.1, .int .i64 (atSeq f 1).2.2.2.2.2] 37) → ∃ va' W2, (Builtin.append_ #[22, 22] 22 #[va, .slice (some ⟨W.heap.size, 0, none⟩) 1 1]).run Tryz.prog W9 = .ok va' W2 ∧ (∃ q n c, va' = .slice q n c) ∧ TxC 54 W2 tb t.1 vb va vr ∧ TxPost 54 B w (.pointer (some ⟨tb, 0, none⟩)) FP (t.1, t.2.1 ++ [atSeq f 1], t.2.2) (W2.setCell ⟨tb, 7, none⟩ va')) :=
    fun W W9 hW9 e => add_run (by decide) (by decide) hin hfp hvb hFP hB hW9 (atSeq f 1) e hlen
  have HTC : Hid (∀ W, Below w.heap.size w W → TxC 54 W tb t.1 vb va vr) := fun W hb => (hin.below hb).cells
  obtain ⟨qa, ca, hva⟩ := own_form hin.adds
  have HFH : Hid (decide (0 ≤ findF t.2.1 f.1) = hasP t.2.1 f.1) := findF_has _ _
  have HTA : Hid (tAddE t f = if fileE (atSeq f 1) ≠ 0 then fileE (atSeq f 1) else if hasP t.2.1 f.1 = true then 7 else 0) := rfl
  have HTB : Hid (tAdd t f = if tAddE t f = 0 then (t.1, t.2.1 ++ [atSeq f 1], t.2.2) else t) := rfl
  generalize tAdd t f = TA at HTB ⊢
  generalize tAddE t f = TE at HTA HTB ⊢
  clear hin hfp hvb hFP hlen
  unfold flV at hck ⊢
  unfold atSeq at hck HRUN HTA HTB
  obtain ⟨fp, fq, fn, flo, fhi, fseq⟩ := f
  dsimp only at hck hfd HRUN hal hfl h1 h2 HFH HTA HTB ⊢
  generalize hFE : fileE (fp, fq, fn, flo, fhi, 1) = FE at hck HTA
  generalize hfi : findF t.2.1 fp = FI at hfd HFH
  generalize hhp : hasP t.2.1 fp = HP at HFH HTA
  clear hFE hfi hhp
  generalize t.2.1.length = LA at hva
  subst hva
  go_enter Tryz.func19, Tryz.ntmps19
  have fz := (hfl.cells).2.2.2.2.2.2
  have q5 := (hfl.cells).2.2.2.2.2.1
  dsimp only at q5
  have hf1 := hfl.toSeq (x := 1)
  have hB1 : Below w.heap.size w ((w.alloc (.cells #[.string fp, .string fq, .int .i64 fn, .int .i64 flo, .int .i64 fhi, .int .i64 fseq] 37)).setCell ⟨w.heap.size, 5, none⟩ (.int .i64 1)) := hal.setCell (Nat.le_refl _) _
  clear hfl
  go_upto_region 1 with fail
  generalize w.alloc (.cells #[.string fp, .string fq, .int .i64 fn, .int .i64 flo, .int .i64 fhi, .int .i64 fseq] 37) = WA at *
  go_upto_region 2 with fail
  clear fz q5 hal
  generalize WA.setCell ⟨w.heap.size, 5, none⟩ (.int .i64 1) = W1 at *
  have hck1 := hck W1
  clear hck
  obtain ⟨r0, r1, r2, r3, r4, r5, -⟩ := hf1.cells
  dsimp only at r0 r1 r2 r3 r4 r5
  go_wp2_with fail
  refine hck1.mono ?_
  rintro e w2 ⟨rfl, hb2⟩
  clear hck1 r0 r1 r2 r3 r4 r5
  have hB2 : Below w.heap.size w w2 := hB1.trans (hb2.mono hB1.size)
  have hf2 := hf1.below hb2
  clear hf1 hb2 hB1
  by_cases hE : FE = 0
  case neg =>
    have HTE : Hid (TE = FE) := by show _ = _; rw [HTA.out, if_pos hE]
    obtain ⟨n, rfl⟩ : ∃ n, FE = n + 1 := ⟨FE - 1, by omega⟩
    have HT2 : Hid (TA = t) := by show _ = _; rw [HTB.out, HTE.out, if_neg (by omega)]
    have hpos : (0 : Int) < ((n + 1 : Nat) : Int) := by omega
    clear hE
    go_wp2
    go_ret
    refine ⟨by rw [HTE.out]; rfl, ?_⟩
    rw [HT2.out]
    exact HSAME.out _ hB2
  case pos =>
  subst hE
  have HTA2 : Hid (TE = if HP = true then 7 else 0) := by show _ = _; rw [HTA.out, if_neg (by simp)]
  clear HTA
  have htc := (HTC.out w2 hB2).cells.2.2.1
  have r0 := hf2.cells.1
  dsimp only at r0
  have hbs : Below w2.heap.size w2 w2 := Below.refl _ _
  go_upto_region 5 with fail
  go_region_held3 (fun w' => w'.cell? ⟨tb, 7, none⟩ = some (.slice qa LA ca) ∧ w'.cell? ⟨w.heap.size, 0, none⟩ = some (.string fp) ∧ Below w2.heap.size w2 w')
    (first
      | (go_split_ands; with_reducible exact ⟨below_keep hbX (by assumption), below_keep hbX (by assumption), Below.trans (by assumption) (hbX.mono (Below.size (by assumption)))⟩)
      | (go_split_ands; exact ⟨by go_keep, by go_keep, by assumption⟩)
      | (go_split_ands; exact ⟨by go_keep, by go_keep, Below.drew (by assumption)⟩))
    (first
      | (go_at_call 14; with_reducible refine (hfd _ (by go_split_ands; exact hB2.trans (Below.mono (by assumption) hB2.size))).mono ?_; rintro e wX ⟨rfl, hbX⟩))
  go_split_ands
  have hbX2 : Below w2.heap.size w2 wX := by assumption
  have hBX : Below w.heap.size w wX := hB2.trans (hbX2.mono hB2.size)
  have hfX := hf2.below hbX2
  clear hfd hbs htc r0
  cases HP with
  | true =>
    have HTE : Hid (TE = 7) := by show _ = _; rw [HTA2.out, if_pos rfl]
    have HT2 : Hid (TA = t) := by show _ = _; rw [HTB.out, HTE.out, if_neg (by omega)]
    have hge : (0 : Int) ≤ FI := of_decide_eq_true HFH.out
    clear hf2 hfX
    go_wp2
    go_ret
    refine ⟨by rw [HTE.out]; rfl, ?_⟩
    rw [HT2.out]
    exact HSAME.out _ hBX
  | false =>
    have HTE : Hid (TE = 0) := by show _ = _; rw [HTA2.out, if_neg (by simp)]
    have HT2 : Hid (TA = (t.1, t.2.1 ++ [(fp, fq, fn, flo, fhi, 1)], t.2.2)) := by show _ = _; rw [HTB.out, HTE.out, if_pos rfl]
    have hge : ¬ (0 : Int) ≤ FI := of_decide_eq_false HFH.out
    go_upto_region 7 with fail
    obtain ⟨va', W2, hr, ⟨q', n', c', rfl⟩, htc2, hpost⟩ := HRUN.out wX.drew (wX.drew.alloc (.cells #[.string fp, .string fq, .int .i64 fn, .int .i64 flo, .int .i64 fhi, .int .i64 1] 37)) (hBX.drew.alloc hBX.drew.size _) rfl
    have HPOST : Hid (TxPost 54 B w (.pointer (some ⟨tb, 0, none⟩)) FP (t.1, t.2.1 ++ [(fp, fq, fn, flo, fhi, 1)], t.2.2) (W2.setCell ⟨tb, 7, none⟩ (.slice q' n' c'))) := hpost
    have hbd : Below wX.heap.size wX wX.drew := (Below.refl _ _).drew
    have hba : Below wX.heap.size wX (wX.alloc (.cells #[.string fp, .string fq, .int .i64 fn, .int .i64 flo, .int .i64 fhi, .int .i64 1] 37)) := (Below.refl _ _).alloc (Nat.le_refl _) _
    have hr2 : (Builtin.append_ #[22, 22] 22 #[.slice qa LA ca, .slice (some ⟨wX.heap.size, 0, none⟩) 1 1]).run Tryz.prog (wX.alloc (.cells #[.string fp, .string fq, .int .i64 fn, .int .i64 flo, .int .i64 fhi, .int .i64 1] 37)).drew = .ok (.slice q' n' c') W2 := hr
    have htcX := (HTC.out wX hBX).cells.2.2.1
    have k1 := below_keep hbd htcX
    have k2 := below_keep hba htcX
    obtain ⟨r0, r1, r2, r3, r4, r5, -⟩ := hfX.cells
    dsimp only at r0 r1 r2 r3 r4 r5
    have s0 := below_keep hbd r0
    have s1 := below_keep hbd r1
    have s2 := below_keep hbd r2
    have s3 := below_keep hbd r3
    have s4 := below_keep hbd r4
    have s5 := below_keep hbd r5
    have y0 := htc2.cells.2.2.1
    have y1 := htc2.fz
    clear hpost hf2 hfX htc2 hbd hba HRUN HSAME HTB hr
    go_region_law (refine step_append_ran (by rfl) _ _ _ (by rfl) _ _ _ (by rfl) (by rfl) hr2 ?_)
    all_goals go_wp2
    all_goals go_ret
    all_goals
      refine ⟨by rw [HTE.out]; rfl, ?_⟩
      rw [HT2.out]
      exact HPOST.out
set_option maxRecDepth 100000 in
set_option maxHeartbeats 4000000 in
theorem rremove_any (B : Nat) (v : Value) (FP : Nat → Prop) (t : Tx) (p : ByteArray) (w : World) (ht : TxHas 54 B w v FP t) (hB : B ≤ w.heap.size) (hlen : t.2.2.length ≤ 1000) (hbl : t.1.2.2.2.2.2.2.length ≤ 1000) :
    Calls Tryz.prog 20 #[v, .string p] w fun e w' => e = .returned (.int .i64 (tRemE t p)) ∧ TxPost 54 B w v FP (tRem t p) w' := by
  have HSAME : Hid (∀ w', Below w.heap.size w w' → TxPost 54 B w v FP t w') := fun w' hb => tx_same ht hb
  obtain ⟨tb, vb, va, vr, rfl, hin, hfp, hvb, hFP⟩ := ht
  have hfd := findOf_any vb t.1.2.2.2.2.2.2 p w hin.base (by omega)
  have hct := fun W (hb : Below w.heap.size w W) => inTs_any p vr t.2.2 W ((tsAt_own hin.rems).below hb) (by omega)
  have HRUN : Hid (∀ (W W9 : World), Below w.heap.size w W9 → W9 = W.alloc (.cells #[.string p] 9) → ∃ vr' W2, (Builtin.append_ #[35, 35] 35 #[vr, .slice (some ⟨W.heap.size, 0, none⟩) 1 1]).run Tryz.prog W9 = .ok vr' W2 ∧ (∃ q n c, vr' = .slice q n c) ∧ TxC 54 W2 tb t.1 vb va vr ∧ TxPost 54 B w (.pointer (some ⟨tb, 0, none⟩)) FP (t.1, t.2.1, t.2.2 ++ [p]) (W2.setCell ⟨tb, 8, none⟩ vr')) :=
    fun W W9 hW9 e => rem_run (by decide) (by decide) hin hfp hvb hFP hB hW9 p e hlen
  have HTC : Hid (∀ W, Below w.heap.size w W → TxC 54 W tb t.1 vb va vr) := fun W hb => (hin.below hb).cells
  obtain ⟨qr, cr, hvr⟩ := own_form hin.rems
  obtain ⟨qb, cb, hvb2⟩ := hin.base.form
  have HFH : Hid (decide (0 ≤ findF t.1.2.2.2.2.2.2 p) = hasP t.1.2.2.2.2.2.2 p) := findF_has _ _
  have HTA : Hid (tRemE t p = if hasP t.1.2.2.2.2.2.2 p = false then 6 else if inT t.2.2 p = true then 7 else 0) := rfl
  have HTB : Hid (tRem t p = if tRemE t p = 0 then (t.1, t.2.1, t.2.2 ++ [p]) else t) := rfl
  generalize tRem t p = TA at HTB ⊢
  generalize tRemE t p = TE at HTA HTB ⊢
  clear hin hfp hvb hFP hlen hbl
  generalize hfi : findF t.1.2.2.2.2.2.2 p = FI at hfd HFH
  generalize hhp : hasP t.1.2.2.2.2.2.2 p = HP at HFH HTA
  generalize hit : inT t.2.2 p = IT at hct HTA
  clear hfi hhp hit
  generalize t.2.2.length = LR at hvr
  generalize t.1.2.2.2.2.2.2.length = LB at hvb2
  subst hvr hvb2
  have htc := (HTC.out w (Below.refl _ _)).cells.2.1
  go_enter Tryz.func20, Tryz.ntmps20
  go_wp2_with fail
  refine hfd.mono ?_
  rintro e w1 ⟨rfl, hw1⟩
  have hb1 : Below w.heap.size w w1 := by rw [hw1]; exact Below.refl _ _
  clear hfd htc hw1
  cases HP with
  | false =>
    have HTE : Hid (TE = 6) := by show _ = _; rw [HTA.out, if_pos rfl]
    have HT2 : Hid (TA = t) := by show _ = _; rw [HTB.out, HTE.out, if_neg (by omega)]
    have hge : FI < 0 := by have := of_decide_eq_false HFH.out; omega
    go_wp2
    go_ret
    refine ⟨by rw [HTE.out]; rfl, ?_⟩
    rw [HT2.out]
    exact HSAME.out _ hb1
  | true =>
  have HTA2 : Hid (TE = if IT = true then 7 else 0) := by show _ = _; rw [HTA.out, if_neg (by simp)]
  have hge : ¬ FI < 0 := by have := of_decide_eq_true HFH.out; omega
  have htc := (HTC.out w1 hb1).cells.2.2.2
  have hct1 := hct w1 hb1
  clear hct HTA
  go_wp2_with fail
  refine hct1.mono ?_
  rintro e w2 ⟨rfl, rfl⟩
  clear hct1
  cases IT with
  | true =>
    have HTE : Hid (TE = 7) := by show _ = _; rw [HTA2.out, if_pos rfl]
    have HT2 : Hid (TA = t) := by show _ = _; rw [HTB.out, HTE.out, if_neg (by omega)]
    go_wp2
    go_ret
    refine ⟨by rw [HTE.out]; rfl, ?_⟩
    rw [HT2.out]
    exact HSAME.out _ hb1
  | false =>
    have HTE : Hid (TE = 0) := by show _ = _; rw [HTA2.out, if_neg (by simp)]
    have HT2 : Hid (TA = (t.1, t.2.1, t.2.2 ++ [p])) := by show _ = _; rw [HTB.out, HTE.out, if_pos rfl]
    obtain ⟨vr', W2, hr, ⟨q', n', c', rfl⟩, htc2, hpost⟩ := HRUN.out w2 (w2.alloc (.cells #[.string p] 9)) (hb1.alloc hb1.size _) rfl
    have HPOST : Hid (TxPost 54 B w (.pointer (some ⟨tb, 0, none⟩)) FP (t.1, t.2.1, t.2.2 ++ [p]) (W2.setCell ⟨tb, 8, none⟩ (.slice q' n' c'))) := hpost
    have hba : Below w2.heap.size w2 (w2.alloc (.cells #[.string p] 9)) := (Below.refl _ _).alloc (Nat.le_refl _) _
    have k2 := below_keep hba htc
    have y0 := htc2.cells.2.2.2
    have y1 := htc2.fz
    clear hpost htc2 hba HRUN HSAME HTB
    go_wp2_with (at_builtin; refine wpList_append_ran (by rfl) _ _ _ (by rfl) _ _ _ (by rfl) (by rfl) hr ?_)
    all_goals go_ret
    all_goals
      refine ⟨by rw [HTE.out]; rfl, ?_⟩
      rw [HT2.out]
      exact HPOST.out

end Go.Proofs.YtcpplldfmmpaoaaGreatDoor
namespace Go.Proofs.YtcpplldfmmpaoaaGreatDoor
open Go.RowKit Go.Extern.Stop Go.Stop Go.Extern Go.Sort Go.Shelf Go.Lib

def ChIn (w : World) (v : Value) (l : List Ch) : Prop := ChsAt w v l ∧ l.length ≤ maxLen ∧ ∀ x ∈ l, x.2.2.size ≤ maxLen ∧ x.2.1.1.size ≤ maxLen ∧ x.2.1.2.1.size ≤ maxLen

theorem has_ptr {T : TypeId} {B : Nat} {W : World} {v : Value} {FP : Nat → Prop} {t : Tx} (h : TxHas T B W v FP t) : ∃ tb, v = .pointer (some ⟨tb, 0, none⟩) := by
  obtain ⟨tb, _, _, _, hv, _⟩ := h
  exact ⟨tb, hv⟩

end Go.Proofs.YtcpplldfmmpaoaaGreatDoor
