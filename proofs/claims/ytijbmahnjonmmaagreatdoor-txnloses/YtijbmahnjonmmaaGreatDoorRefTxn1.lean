/-
  The contracts of the document's own Add and Remove of a change.
-/
import Derived.Test.YtijbmahnjonmmaaGreatDoorTxnOne
namespace Go.Proofs.YtijbmahnjonmmaaGreatDoor
open Go.RowKit Go.Extern.Stop Go.Stop Go.Extern Go.Sort Go.Shelf Go.Lib

abbrev Ch := Bool × Fl × ByteArray

def ChCells (w : World) (b o : Nat) (l : List Ch) : Prop :=
  ∀ j (h : j < l.length), w.cell? ⟨b, o + j * 8, none⟩ = some (.bool l[j].1) ∧ w.cell? ⟨b, o + j * 8 + 1, none⟩ = some (.string l[j].2.1.1) ∧ w.cell? ⟨b, o + j * 8 + 2, none⟩ = some (.string l[j].2.1.2.1) ∧ w.cell? ⟨b, o + j * 8 + 3, none⟩ = some (.int .i64 l[j].2.1.2.2.1) ∧ w.cell? ⟨b, o + j * 8 + 4, none⟩ = some (.int .i64 l[j].2.1.2.2.2.1) ∧ w.cell? ⟨b, o + j * 8 + 5, none⟩ = some (.int .i64 l[j].2.1.2.2.2.2.1) ∧ w.cell? ⟨b, o + j * 8 + 6, none⟩ = some (.int .i64 l[j].2.1.2.2.2.2.2) ∧ w.cell? ⟨b, o + j * 8 + 7, none⟩ = some (.string l[j].2.2)
theorem ChCells.below {w w' : World} {B b o : Nat} {l : List Ch} (h : ChCells w b o l) (hb : Below B w w') (hlt : b < B) : ChCells w' b o l := fun j hj => by
  have hk : ∀ p, w'.cell? ⟨b, p, none⟩ = w.cell? ⟨b, p, none⟩ := fun p => by
    have e := hb.block b hlt
    unfold World.cell?
    rw [e]
  obtain ⟨h0, h1, h2, h3, h4, h5, h6, h7⟩ := h j hj
  exact ⟨(hk _).trans h0, (hk _).trans h1, (hk _).trans h2, (hk _).trans h3, (hk _).trans h4, (hk _).trans h5, (hk _).trans h6, (hk _).trans h7⟩
def ChsAt (w : World) (v : Value) (l : List Ch) : Prop :=
  (∃ p c, v = .slice p 0 c ∧ l = []) ∨ ∃ b o cap, v = .slice (some ⟨b, o, none⟩) l.length cap ∧ b < w.heap.size ∧ ChCells w b o l
theorem ChsAt.below {w w' : World} {B : Nat} {v : Value} {l : List Ch} (h : ChsAt w v l) (hb : Below B w w') (hB : w.heap.size ≤ B) : ChsAt w' v l := by
  rcases h with h | ⟨b, o, cap, hv, hl, hc⟩
  · exact Or.inl h
  · exact Or.inr ⟨b, o, cap, hv, Nat.lt_of_lt_of_le hl hb.size, hc.below hb (Nat.lt_of_lt_of_le hl hB)⟩
theorem ChsAt.form {w : World} {v : Value} {l : List Ch} (h : ChsAt w v l) : ∃ p c, v = .slice p l.length c := by
  rcases h with ⟨p, c, rfl, rfl⟩ | ⟨b, o, cap, rfl, _⟩
  · exact ⟨_, _, rfl⟩
  · exact ⟨_, _, rfl⟩
theorem ChsAt.cells {w : World} {q : Option Addr} {n c : Nat} {l : List Ch} (h : ChsAt w (.slice q n c) l) (hne : l ≠ []) : ∃ b o, q = some ⟨b, o, none⟩ ∧ b < w.heap.size ∧ ChCells w b o l := by
  rcases h with ⟨_, _, _, e⟩ | ⟨b, o, cap, e, hl, hc⟩
  · exact absurd e hne
  · simp only [Value.slice.injEq] at e
    exact ⟨b, o, e.1, hl, hc⟩

def chLong (x : Ch) : Bool := decide (30 < x.2.2.size) || longFB x.2.1
def chsLong (l : List Ch) : Bool := decide (30 < l.length) || l.any chLong
theorem chs_short {l : List Ch} (h : chsLong l = false) : l.length ≤ 30 ∧ ∀ x ∈ l, x.2.2.size ≤ 30 ∧ x.2.1.1.size ≤ 30 ∧ x.2.1.2.1.size ≤ 30 := by
  unfold chsLong at h
  rw [Bool.or_eq_false_iff] at h
  obtain ⟨h1, h2⟩ := h
  refine ⟨by simpa using h1, fun x hx => ?_⟩
  have h3 : chLong x = false := by
    have := List.any_eq_false.1 h2 x hx
    simpa using this
  unfold chLong longFB at h3
  simp only [Bool.or_eq_false_iff, decide_eq_false_iff_not] at h3
  obtain ⟨h4, h5, h6⟩ := h3
  exact ⟨by omega, by omega, by omega⟩

theorem noLong_succ {l : List Ch} {n : Nat} (h : ∀ j (h : j < l.length), j < n → chLong l[j] = false) (hn : n < l.length) (e : chLong l[n] = false) : ∀ j (h : j < l.length), j < n + 1 → chLong l[j] = false := fun j hj hjn => by
  by_cases e' : j = n
  · subst e'; exact e
  · exact h j hj (by omega)

set_option maxRecDepth 100000 in
set_option maxHeartbeats 4000000 in
theorem longChanges_any (v : Value) (l : List Ch) (w : World) (h : ChsAt w v l) (hl : l.length ≤ maxLen) (hz : ∀ x ∈ l, x.2.2.size ≤ maxLen ∧ x.2.1.1.size ≤ maxLen ∧ x.2.1.2.1.size ≤ maxLen) :
    Calls Tryz.prog 7 #[v] w fun e w' => e = .returned (.bool (chsLong l)) ∧ Below w.heap.size w w' := by
  unfold maxLen at hl
  obtain ⟨q, cap, rfl⟩ := h.form
  have HA : Hid (ChsAt w (.slice q l.length cap) l) := h
  have HZ : Hid (∀ x ∈ l, x.2.2.size ≤ maxLen ∧ x.2.1.1.size ≤ maxLen ∧ x.2.1.2.1.size ≤ maxLen) := hz
  obtain ⟨L, hL⟩ : ∃ L, l.length = L := ⟨_, rfl⟩
  have HL : Hid (l.length = L) := hL
  obtain ⟨R, hR⟩ : ∃ R, chsLong l = R := ⟨_, rfl⟩
  have HR : Hid ((decide (30 < L) || l.any chLong) = R) := by
    show _ = _
    rw [← hR, ← hL]; rfl
  rw [hR, hL]
  rw [hL] at hl
  clear h hz hR hL
  by_cases h30 : 30 < L
  · have hRR : R = true := by rw [← HR.out, decide_eq_true h30]; rfl
    subst hRR
    have hi : (30 : Int) < (L : Int) := by omega
    clear HR
    go_enter Tryz.func7, Tryz.ntmps7
    go_wp2
    go_ret
    exact ⟨rfl, Below.refl _ _⟩
  have hi : ¬ (30 : Int) < (L : Int) := by omega
  have HR2 : Hid (l.any chLong = R) := by show _ = _; rw [← HR.out, decide_eq_false h30]; rfl
  clear HR
  go_enter Tryz.func7, Tryz.ntmps7
  go_wp2
  go_loopw [3] (fun k wr => ∃ n : Nat, n ≤ L ∧ k = .int .i64 n ∧ (∀ j (h : j < l.length), j < n → chLong l[j] = false) ∧ Below w.heap.size w wr) (fun k _ => L - (intOf k).toNat)
  case atStart => exact ⟨0, by omega, rfl, fun j h h' => absurd h' (Nat.not_lt_zero _), Below.refl _ _⟩
  case round =>
    obtain ⟨n, hn, rfl, hno, hb⟩ := hrel
    have HNO : Hid (∀ j (h : j < l.length), j < n → chLong l[j] = false) := hno
    clear hno
    by_cases hlt : n < L
    · have hltx : n < l.length := by rw [HL.out]; exact hlt
      obtain ⟨b, o, hq, hbl, hc⟩ := (HA.out.below hb (Nat.le_refl _)).cells (fun e => by rw [e] at hltx; simp at hltx)
      subst hq
      obtain ⟨c0, c1, c2, c3, c4, c5, c6, c7⟩ := hc n hltx
      obtain ⟨z1, z2, z3⟩ := HZ.out l[n] (List.getElem_mem _)
      have hlf := longFile_any l[n].2.1 wr z2 z3
      have hi' : (n : Int) < (L : Int) := by omega
      have hi0' : (0 : Int) ≤ (n : Int) := by omega
      have HY : Hid (chLong l[n] = true → R = true) := fun e => by rw [← HR2.out]; exact List.any_eq_true.2 ⟨_, List.getElem_mem hltx, e⟩
      have HN1 : Hid (chLong l[n] = false → ∀ j (h : j < l.length), j < n + 1 → chLong l[j] = false) := fun e => noLong_succ HNO.out hltx e
      have HCL : Hid (chLong l[n] = (decide (30 < l[n].2.2.size) || longFB l[n].2.1)) := rfl
      unfold flV at hlf
      clear hc
      generalize chLong l[n] = CL at HY HN1 HCL
      generalize longFB l[n].2.1 = LB at hlf HCL
      generalize l[n] = x at c0 c1 c2 c3 c4 c5 c6 c7 z1 hlf HCL
      clear hltx z2 z3
      obtain ⟨ad, ⟨fp, fq, fn, flo, fhi, fseq⟩, p⟩ := x
      dsimp only at c0 c1 c2 c3 c4 c5 c6 c7 z1 hlf HCL
      unfold maxLen at z1
      by_cases hp : 30 < p.size
      · have hRR : R = true := HY.out (by rw [HCL.out, decide_eq_true hp]; rfl)
        subst hRR
        have hip : (30 : Int) < (p.size : Int) := by omega
        clear hlf HY HN1 HCL
        go_wp2
        go_ret
        exact ⟨rfl, hb⟩
      · have hip : ¬ (30 : Int) < (p.size : Int) := by omega
        cases LB with
        | true =>
          have hRR : R = true := HY.out (by rw [HCL.out]; simp)
          subst hRR
          rw [if_pos rfl] at hlf
          clear HY HN1 HCL
          go_wp2_with (go_at_call 25; with_reducible refine hlf.mono ?_; rintro e w2 ⟨rfl, hb2⟩)
          go_ret
          exact ⟨rfl, hb.trans (hb2.mono hb.size)⟩
        | false =>
          have HN2 : Hid (∀ j (h : j < l.length), j < n + 1 → chLong l[j] = false) := HN1.out (by rw [HCL.out, decide_eq_false hp]; rfl)
          rw [if_neg (by simp)] at hlf
          clear HY HN1 HCL
          go_wp2_with (go_at_call 25; with_reducible refine hlf.mono ?_; rintro e w2 ⟨rfl, hb2⟩)
          have hb3 : Below w.heap.size w w2 := hb.trans (hb2.mono hb.size)
          go_roundw
          case rel => exact ⟨n + 1, by omega, by go_num, HN2.out, hb3⟩
          case measure => simp [intOf]; omega
    · obtain rfl : n = L := by omega
      have hRR : R = false := by
        rw [← HR2.out]
        refine List.any_eq_false.2 fun x hx => ?_
        obtain ⟨j, hj, rfl⟩ := List.mem_iff_getElem.1 hx
        rw [HNO.out j hj (by rw [← HL.out]; exact hj)]
        simp
      subst hRR
      go_wp2
      go_ret
      exact ⟨rfl, hb⟩
end Go.Proofs.YtijbmahnjonmmaaGreatDoor
namespace Go.Proofs.YtijbmahnjonmmaaGreatDoor
open Go.RowKit Go.Extern.Stop Go.Stop Go.Extern Go.Sort Go.Shelf Go.Lib

set_option maxRecDepth 100000 in
set_option maxHeartbeats 4000000 in
theorem remove_any (B : Nat) (v : Value) (FP : Nat → Prop) (t : Tx) (p : ByteArray) (w : World) (a : Nat → Addr) (h : EnvX w a) (ht : TxHas 66 B w v FP t) (hB : B ≤ w.heap.size) (hlen : t.2.2.length ≤ 1000) (hbl : t.1.2.2.2.2.2.2.length ≤ 1000) :
    Calls Tryz.prog 11 #[v, .string p] w fun e w' => e = .returned (errV a (tRemE t p)) ∧ TxPost 66 B w v FP (tRem t p) w' := by
  have HSAME : Hid (∀ w', Below w.heap.size w w' → TxPost 66 B w v FP t w') := fun w' hb => tx_same ht hb
  obtain ⟨tb, vb, va, vr, rfl, hin, hfp, hvb, hFP⟩ := ht
  have hfd := find_any vb t.1.2.2.2.2.2.2 p w hin.base (by omega)
  have hct := fun W (hb : Below w.heap.size w W) => containsT_any vr t.2.2 p W ((tsAt_own hin.rems).below hb) (by omega)
  have HRUN : Hid (∀ (W W9 : World), Below w.heap.size w W9 → W9 = W.alloc (.cells #[.string p] 9) → ∃ vr' W2, (Builtin.append_ #[35, 35] 35 #[vr, .slice (some ⟨W.heap.size, 0, none⟩) 1 1]).run Tryz.prog W9 = .ok vr' W2 ∧ (∃ q n c, vr' = .slice q n c) ∧ TxC 66 W2 tb t.1 vb va vr ∧ TxPost 66 B w (.pointer (some ⟨tb, 0, none⟩)) FP (t.1, t.2.1, t.2.2 ++ [p]) (W2.setCell ⟨tb, 8, none⟩ vr')) :=
    fun W W9 hW9 e => rem_run (by decide) (by decide) hin hfp hvb hFP hB hW9 p e hlen
  have HTC : Hid (∀ W, Below w.heap.size w W → TxC 66 W tb t.1 vb va vr) := fun W hb => (hin.below hb).cells
  obtain ⟨qr, cr, hvr⟩ := own_form hin.rems
  obtain ⟨qb, cb, hvb2⟩ := hin.base.form
  have HENV : Hid (∀ W, Below w.heap.size w W → EnvX W a) := fun W hb => h.below hb
  have HFH : Hid (decide (0 ≤ findF t.1.2.2.2.2.2.2 p) = hasP t.1.2.2.2.2.2.2 p) := findF_has _ _
  have HTA : Hid (tRemE t p = if hasP t.1.2.2.2.2.2.2 p = false then 6 else if inT t.2.2 p = true then 7 else 0) := rfl
  have HTB : Hid (tRem t p = if tRemE t p = 0 then (t.1, t.2.1, t.2.2 ++ [p]) else t) := rfl
  generalize tRem t p = TA at HTB ⊢
  generalize tRemE t p = TE at HTA HTB ⊢
  clear hin hfp hvb hFP h hlen hbl
  generalize hfi : findF t.1.2.2.2.2.2.2 p = FI at hfd HFH
  generalize hhp : hasP t.1.2.2.2.2.2.2 p = HP at HFH HTA
  generalize hit : inT t.2.2 p = IT at hct HTA
  clear hfi hhp hit
  generalize t.2.2.length = LR at hvr
  generalize t.1.2.2.2.2.2.2.length = LB at hvb2
  subst hvr hvb2
  have htc := (HTC.out w (Below.refl _ _)).cells.2.1
  go_enter Tryz.func11, Tryz.ntmps11
  go_wp2_with fail
  refine hfd.mono ?_
  rintro e w1 ⟨rfl, hb1⟩
  clear hfd htc
  cases HP with
  | false =>
    have HTE : Hid (TE = 6) := by show _ = _; rw [HTA.out, if_pos rfl]
    have HT2 : Hid (TA = t) := by show _ = _; rw [HTB.out, HTE.out, if_neg (by omega)]
    have hge : FI < 0 := by have := of_decide_eq_false HFH.out; omega
    have et := (HENV.out w1 hb1).list.miss
    go_wp2
    go_ret
    refine ⟨by rw [HTE.out]; rfl, ?_⟩
    rw [HT2.out]
    exact HSAME.out _ hb1
  | true =>
  have HTA2 : Hid (TE = if IT = true then 7 else 0) := by show _ = _; rw [HTA.out, if_neg (by simp)]
  have hge : ¬ FI < 0 := by have := of_decide_eq_true HFH.out; omega
  have htc := (HTC.out w1 hb1).cells.2.2.2
  have hct1 := hct w1 hb1
  clear hct HTA
  go_wp2_with fail
  refine hct1.mono ?_
  rintro e w2 ⟨rfl, rfl⟩
  clear hct1
  cases IT with
  | true =>
    have HTE : Hid (TE = 7) := by show _ = _; rw [HTA2.out, if_pos rfl]
    have HT2 : Hid (TA = t) := by show _ = _; rw [HTB.out, HTE.out, if_neg (by omega)]
    have et := (HENV.out w2 hb1).list.exist
    go_wp2
    go_ret
    refine ⟨by rw [HTE.out]; rfl, ?_⟩
    rw [HT2.out]
    exact HSAME.out _ hb1
  | false =>
    have HTE : Hid (TE = 0) := by show _ = _; rw [HTA2.out, if_neg (by simp)]
    have HT2 : Hid (TA = (t.1, t.2.1, t.2.2 ++ [p])) := by show _ = _; rw [HTB.out, HTE.out, if_pos rfl]
    obtain ⟨vr', W2, hr, ⟨q', n', c', rfl⟩, htc2, hpost⟩ := HRUN.out w2 (w2.alloc (.cells #[.string p] 9)) (hb1.alloc hb1.size _) rfl
    have HPOST : Hid (TxPost 66 B w (.pointer (some ⟨tb, 0, none⟩)) FP (t.1, t.2.1, t.2.2 ++ [p]) (W2.setCell ⟨tb, 8, none⟩ (.slice q' n' c'))) := hpost
    have hba : Below w2.heap.size w2 (w2.alloc (.cells #[.string p] 9)) := (Below.refl _ _).alloc (Nat.le_refl _) _
    have k2 := below_keep hba htc
    have y0 := htc2.cells.2.2.2
    have y1 := htc2.fz
    clear hpost htc2 hba HRUN HSAME HTB
    go_wp2_with (at_builtin; refine wpList_append_ran (by rfl) _ _ _ (by rfl) _ _ _ (by rfl) (by rfl) hr ?_)
    all_goals go_ret
    all_goals
      refine ⟨by rw [HTE.out]; rfl, ?_⟩
      rw [HT2.out]
      exact HPOST.out

end Go.Proofs.YtijbmahnjonmmaaGreatDoor
namespace Go.Proofs.YtijbmahnjonmmaaGreatDoor
open Go.RowKit Go.Extern.Stop Go.Stop Go.Extern Go.Sort Go.Shelf Go.Lib

def CAt (W : World) (b : Nat) (x : Ch) : Prop := W.heap[b]? = some (.cells #[.bool x.1, .string x.2.1.1, .string x.2.1.2.1, .int .i64 x.2.1.2.2.1, .int .i64 x.2.1.2.2.2.1, .int .i64 x.2.1.2.2.2.2.1, .int .i64 x.2.1.2.2.2.2.2, .string x.2.2] 39 (0, 0))
theorem CAt.lt {W : World} {b : Nat} {x : Ch} (h : CAt W b x) : b < W.heap.size := lt_of_block h
theorem CAt.but {P : Nat → Prop} {W W' : World} {b : Nat} {x : Ch} (h : CAt W b x) (hb : But P W W') (hp : ¬ P b) : CAt W' b x := (hb.block b h.lt hp).trans h
theorem CAt.cells {W : World} {b : Nat} {x : Ch} (h : CAt W b x) : W.cell? ⟨b, 0, none⟩ = some (.bool x.1) ∧ W.cell? ⟨b, 1, none⟩ = some (.string x.2.1.1) ∧ W.cell? ⟨b, 2, none⟩ = some (.string x.2.1.2.1) ∧ W.cell? ⟨b, 3, none⟩ = some (.int .i64 x.2.1.2.2.1) ∧ W.cell? ⟨b, 4, none⟩ = some (.int .i64 x.2.1.2.2.2.1) ∧ W.cell? ⟨b, 5, none⟩ = some (.int .i64 x.2.1.2.2.2.2.1) ∧ W.cell? ⟨b, 6, none⟩ = some (.int .i64 x.2.1.2.2.2.2.2) ∧ W.cell? ⟨b, 7, none⟩ = some (.string x.2.2) ∧ ∀ o, W.frozen? ⟨b, o, none⟩ = false := by
  refine ⟨?_, ?_, ?_, ?_, ?_, ?_, ?_, ?_, fun o => frozen_of_row _ _ _ _ _ h⟩ <;> rw [cell_of_row _ _ _ _ _ _ h] <;> rfl
def chSet (W : World) (b : Nat) (x : Ch) : World := (((((((W.setCell ⟨b, 0, none⟩ (.bool x.1)).setCell ⟨b, 1, none⟩ (.string x.2.1.1)).setCell ⟨b, 2, none⟩ (.string x.2.1.2.1)).setCell ⟨b, 3, none⟩ (.int .i64 x.2.1.2.2.1)).setCell ⟨b, 4, none⟩ (.int .i64 x.2.1.2.2.2.1)).setCell ⟨b, 5, none⟩ (.int .i64 x.2.1.2.2.2.2.1)).setCell ⟨b, 6, none⟩ (.int .i64 x.2.1.2.2.2.2.2)).setCell ⟨b, 7, none⟩ (.string x.2.2)
set_option maxRecDepth 100000 in
set_option maxHeartbeats 2000000 in
theorem CAt.set {W : World} {b : Nat} {x : Ch} (h : CAt W b x) (y : Ch) : CAt (chSet W b y) b y := by
  unfold CAt chSet at *
  rw [heap_setCell_same _ _ _ _ _ _ (heap_setCell_same _ _ _ _ _ _ (heap_setCell_same _ _ _ _ _ _ (heap_setCell_same _ _ _ _ _ _ (heap_setCell_same _ _ _ _ _ _ (heap_setCell_same _ _ _ _ _ _ (heap_setCell_same _ _ _ _ _ _ (heap_setCell_same _ _ _ _ _ _ h)))))))]
  rfl
theorem chSet_below {W W0 : World} {B b : Nat} {x : Ch} (h : Below B W0 W) (hb : B ≤ b) : Below B W0 (chSet W b x) := (((((((h.setCell hb _).setCell hb _).setCell hb _).setCell hb _).setCell hb _).setCell hb _).setCell hb _).setCell hb _
theorem CAt.new (W : World) (x : Ch) : CAt (W.alloc (.cells #[.bool x.1, .string x.2.1.1, .string x.2.1.2.1, .int .i64 x.2.1.2.2.1, .int .i64 x.2.1.2.2.2.1, .int .i64 x.2.1.2.2.2.2.1, .int .i64 x.2.1.2.2.2.2.2, .string x.2.2] 39)) W.heap.size x := heap_alloc_new _ _

structure LoI (B : Nat) (W : World) (N bx : Nat) (s : Sn) (vf pt pu : Value) (t u : Tx) (ad rm : List ByteArray) (sa sr : Value) : Prop where
  sn : SnAt W bx s vf
  bxB : B ≤ bx
  bxN : bx < N
  le : N ≤ W.heap.size
  has : ∃ FT FU, TxHas 66 B W pt FT t ∧ TxHas 66 B W pu FU u ∧ (∀ k, FT k → ¬ FU k ∧ k ≠ bx ∧ sa.ownBlock ≠ some k ∧ sr.ownBlock ≠ some k ∧ k < N) ∧ ∀ k, FU k → k ≠ bx ∧ sa.ownBlock ≠ some k ∧ sr.ownBlock ≠ some k ∧ k < N
  ads : W.ownsRow B 9 1 sa ad.length (ad.map Value.string)
  rms : W.ownsRow B 9 1 sr rm.length (rm.map Value.string)
  offA : ∀ k, sa.ownBlock = some k → sr.ownBlock ≠ some k ∧ k ≠ bx ∧ k < N
  offR : ∀ k, sr.ownBlock = some k → k ≠ bx ∧ k < N

theorem LoI.quiet {B : Nat} {W W' : World} {N bx : Nat} {s : Sn} {vf pt pu : Value} {t u : Tx} {ad rm : List ByteArray} {sa sr : Value} (h : LoI B W N bx s vf pt pu t u ad rm sa sr) (hb : Below W.heap.size W W') : LoI B W' N bx s vf pt pu t u ad rm sa sr := by
  obtain ⟨FT, FU, h1, h2, h3, h4⟩ := h.has
  exact ⟨h.sn.below hb, h.bxB, h.bxN, Nat.le_trans h.le hb.size, ⟨FT, FU, h1.below hb, h2.below hb, h3, h4⟩, own_but (P := fun _ => False) h.ads (But.of_below hb) (fun _ _ h => h), own_but (P := fun _ => False) h.rms (But.of_below hb) (fun _ _ h => h), h.offA, h.offR⟩
theorem LoI.swap {B : Nat} {W : World} {N bx : Nat} {s : Sn} {vf pt pu : Value} {t u : Tx} {ad rm : List ByteArray} {sa sr : Value} (h : LoI B W N bx s vf pt pu t u ad rm sa sr) : LoI B W N bx s vf pu pt u t ad rm sa sr := by
  obtain ⟨FT, FU, a1, a2, a3, a4⟩ := h.has
  exact ⟨h.sn, h.bxB, h.bxN, h.le, ⟨FU, FT, a2, a1, fun k hk => ⟨fun e => (a3 k e).1 hk, a4 k hk⟩, fun k hk => (a3 k hk).2⟩, h.ads, h.rms, h.offA, h.offR⟩

theorem LoI.turned {B : Nat} {W W' : World} {N bx : Nat} {s : Sn} {vf pt pu : Value} {t t' u : Tx} {ad rm : List ByteArray} {sa sr : Value} {FT FU : Nat → Prop} (h : LoI B W N bx s vf pt pu t u ad rm sa sr) (hT : TxHas 66 B W pt FT t) (hU : TxHas 66 B W pu FU u) (h3 : ∀ k, FT k → ¬ FU k ∧ k ≠ bx ∧ sa.ownBlock ≠ some k ∧ sr.ownBlock ≠ some k ∧ k < N) (h4 : ∀ k, FU k → k ≠ bx ∧ sa.ownBlock ≠ some k ∧ sr.ownBlock ≠ some k ∧ k < N)
    (hp : TxPost 66 B W pt FT t' W') : LoI B W' W'.heap.size bx s vf pt pu t' u ad rm sa sr ∧ But FT W W' := by
  obtain ⟨FT', h5, h6, h7⟩ := hp
  have hTb : ∀ k, FT k → B ≤ k ∧ k < W.heap.size := by
    obtain ⟨_, _, _, _, _, _, _, _, h8⟩ := hT
    exact h8
  have hUb : ∀ k, FU k → B ≤ k ∧ k < W.heap.size := by
    obtain ⟨_, _, _, _, _, _, _, _, h8⟩ := hU
    exact h8
  have hTb' : ∀ k, FT' k → B ≤ k ∧ k < W'.heap.size := by
    obtain ⟨_, _, _, _, _, _, _, _, h8⟩ := h5
    exact h8
  have hle := h.le
  have hs := h6.size
  refine ⟨⟨(h6.block bx h.sn.lt (fun e => (h3 bx e).2.1 rfl)).trans h.sn, h.bxB, by have := h.bxN; omega, Nat.le_refl _, ⟨FT', FU, h5, hU.but h6 (fun k hk => ⟨(hTb k hk).1, (h3 k hk).1⟩), fun k hk => ?_, fun k hk => ?_⟩, own_but h.ads h6 (fun k hk e => (h3 k e).2.2.1 hk), own_but h.rms h6 (fun k hk e => (h3 k e).2.2.2.1 hk), fun k hk => ?_, fun k hk => ?_⟩, h6⟩
  · rcases h7 k hk with e | e
    · obtain ⟨a1, a2, a3, a4, a5⟩ := h3 k e
      exact ⟨a1, a2, a3, a4, by omega⟩
    · refine ⟨fun e2 => ?_, fun e2 => ?_, fun e2 => ?_, fun e2 => ?_, (hTb' k hk).2⟩
      · have := (hUb k e2).2; omega
      · have := h.bxN; omega
      · have := (h.offA k e2).2.2; omega
      · have := (h.offR k e2).2; omega
  · obtain ⟨a1, a2, a3, a4⟩ := h4 k hk
    exact ⟨a1, a2, a3, by omega⟩
  · obtain ⟨a1, a2, a3⟩ := h.offA k hk
    exact ⟨a1, a2, by omega⟩
  · obtain ⟨a1, a2⟩ := h.offR k hk
    exact ⟨a1, by omega⟩

theorem str_run {B : Nat} {W W9 : World} {v : Value} {ts : List ByteArray} (ho : W.ownsRow B 9 1 v ts.length (ts.map Value.string)) (hB : B ≤ W.heap.size) (p : ByteArray) (hW9 : W9 = W.alloc (.cells #[.string p] 9)) (hlen : ts.length ≤ 1000) :
    ∃ v' W2, (Builtin.append_ #[35, 35] 35 #[v, .slice (some ⟨W.heap.size, 0, none⟩) 1 1]).run Tryz.prog W9 = .ok v' W2 ∧ W2.ownsRow B 9 1 v' (ts ++ [p]).length ((ts ++ [p]).map Value.string) ∧ But (fun k => v.ownBlock = some k) W W2 ∧ (v'.ownBlock = v.ownBlock ∨ ∃ k, v'.ownBlock = some k ∧ W.heap.size ≤ k ∧ k < W2.heap.size) := by
  obtain ⟨i0, hi, hz, hs, hby⟩ := Tryz.strInfo
  have hal : Below W.heap.size W W9 := by rw [hW9]; exact (Below.refl _ _).alloc (Nat.le_refl _) _
  have hsrc : Src W9 (some ⟨W.heap.size, 0, none⟩) 1 1 [.string p] := by
    rw [hW9]
    exact src_new W [.string p] 9 1 1
  obtain ⟨v', W2, hr, h1, hg, hv⟩ := run_append_src (P := Tryz.prog) W9 B 35 35 9 i0 (.string ⟨#[]⟩) 1 16 Tryz.underlying35 hi hz hs hby rfl (by decide) v ts.length (ts.map Value.string) (own_but (P := fun _ => False) ho (But.of_below hal) (fun _ _ h => h)) (some ⟨W.heap.size, 0, none⟩) 1 1 [.string p] rfl hsrc (by intro u hu; rw [List.mem_singleton] at hu; subst hu; rfl) (by unfold maxLen; omega) (by omega) (Nat.le_trans hB hal.size)
  have h1' : W2.ownsRow B 9 1 v' (ts ++ [p]).length ((ts ++ [p]).map Value.string) := by
    rw [List.length_append, List.map_append]
    simpa using h1
  refine ⟨v', W2, hr, h1', (But.of_below hal).trans (But.grown hg) (fun _ h _ => h), ?_⟩
  rcases hv with hv | hv
  · exact Or.inl hv
  · exact Or.inr ⟨_, hv, hal.size, (own_blk h1' hv).2.1⟩

theorem LoI.appA {B : Nat} {W W9 : World} {N bx : Nat} {s : Sn} {vf pt pu : Value} {t u : Tx} {ad rm : List ByteArray} {sa sr : Value} (h : LoI B W N bx s vf pt pu t u ad rm sa sr) (p : ByteArray) (hW9 : W9 = W.alloc (.cells #[.string p] 9)) (hlen : ad.length ≤ 1000) :
    ∃ sa' W2, (Builtin.append_ #[35, 35] 35 #[sa, .slice (some ⟨W.heap.size, 0, none⟩) 1 1]).run Tryz.prog W9 = .ok sa' W2 ∧ LoI B W2 W2.heap.size bx s vf pt pu t u (ad ++ [p]) rm sa' sr ∧ Below B W W2 := by
  have hB : B ≤ W.heap.size := by have := h.bxB; have := h.bxN; have := h.le; omega
  obtain ⟨v', W2, hr, ho, hbut, hv⟩ := str_run h.ads hB p hW9 hlen
  have hs := hbut.size
  have hle := h.le
  obtain ⟨FT, FU, a1, a2, a3, a4⟩ := h.has
  have hPB : ∀ k, sa.ownBlock = some k → B ≤ k := fun k hk => (own_blk h.ads hk).1
  refine ⟨v', W2, hr, ⟨(hbut.block bx h.sn.lt (fun e => (h.offA bx e).2.1 rfl)).trans h.sn, h.bxB, by have := h.bxN; omega, Nat.le_refl _, ⟨FT, FU, a1.but hbut (fun k hk => ⟨hPB k hk, fun e => (a3 k e).2.2.1 hk⟩), a2.but hbut (fun k hk => ⟨hPB k hk, fun e => (a4 k e).2.1 hk⟩), fun k hk => ?_, fun k hk => ?_⟩, ho, own_but h.rms hbut (fun k hk e => (h.offA k e).1 hk), fun k hk => ?_, fun k hk => ⟨(h.offR k hk).1, by have := (h.offR k hk).2; omega⟩⟩, hbut.below hB hPB⟩
  · obtain ⟨b1, b2, b3, b4, b5⟩ := a3 k hk
    refine ⟨b1, b2, fun e => ?_, b4, by omega⟩
    rcases hv with hv | ⟨j, hv, h1, h2⟩
    · exact b3 (hv.symm.trans e)
    · rw [hv] at e; injection e with e; omega
  · obtain ⟨b2, b3, b4, b5⟩ := a4 k hk
    refine ⟨b2, fun e => ?_, b4, by omega⟩
    rcases hv with hv | ⟨j, hv, h1, h2⟩
    · exact b3 (hv.symm.trans e)
    · rw [hv] at e; injection e with e; omega
  · rcases hv with hv | ⟨j, hv, h1, h2⟩
    · obtain ⟨c1, c2, c3⟩ := h.offA k (hv.symm.trans hk)
      exact ⟨c1, c2, by omega⟩
    · rw [hv] at hk
      injection hk with hk
      refine ⟨fun e => ?_, fun e => ?_, by omega⟩
      · have := (h.offR k e).2; omega
      · have := h.bxN; omega

theorem LoI.appR {B : Nat} {W W9 : World} {N bx : Nat} {s : Sn} {vf pt pu : Value} {t u : Tx} {ad rm : List ByteArray} {sa sr : Value} (h : LoI B W N bx s vf pt pu t u ad rm sa sr) (p : ByteArray) (hW9 : W9 = W.alloc (.cells #[.string p] 9)) (hlen : rm.length ≤ 1000) :
    ∃ sr' W2, (Builtin.append_ #[35, 35] 35 #[sr, .slice (some ⟨W.heap.size, 0, none⟩) 1 1]).run Tryz.prog W9 = .ok sr' W2 ∧ LoI B W2 W2.heap.size bx s vf pt pu t u ad (rm ++ [p]) sa sr' ∧ Below B W W2 := by
  have hB : B ≤ W.heap.size := by have := h.bxB; have := h.bxN; have := h.le; omega
  obtain ⟨v', W2, hr, ho, hbut, hv⟩ := str_run h.rms hB p hW9 hlen
  have hs := hbut.size
  have hle := h.le
  obtain ⟨FT, FU, a1, a2, a3, a4⟩ := h.has
  have hPB : ∀ k, sr.ownBlock = some k → B ≤ k := fun k hk => (own_blk h.rms hk).1
  refine ⟨v', W2, hr, ⟨(hbut.block bx h.sn.lt (fun e => (h.offR bx e).1 rfl)).trans h.sn, h.bxB, by have := h.bxN; omega, Nat.le_refl _, ⟨FT, FU, a1.but hbut (fun k hk => ⟨hPB k hk, fun e => (a3 k e).2.2.2.1 hk⟩), a2.but hbut (fun k hk => ⟨hPB k hk, fun e => (a4 k e).2.2.1 hk⟩), fun k hk => ?_, fun k hk => ?_⟩, own_but h.ads hbut (fun k hk e => (h.offA k hk).1 e), ho, fun k hk => ?_, fun k hk => ?_⟩, hbut.below hB hPB⟩
  · obtain ⟨b1, b2, b3, b4, b5⟩ := a3 k hk
    refine ⟨b1, b2, b3, fun e => ?_, by omega⟩
    rcases hv with hv | ⟨j, hv, h1, h2⟩
    · exact b4 (hv.symm.trans e)
    · rw [hv] at e; injection e with e; omega
  · obtain ⟨b2, b3, b4, b5⟩ := a4 k hk
    refine ⟨b2, b3, fun e => ?_, by omega⟩
    rcases hv with hv | ⟨j, hv, h1, h2⟩
    · exact b4 (hv.symm.trans e)
    · rw [hv] at e; injection e with e; omega
  · obtain ⟨c1, c2, c3⟩ := h.offA k hk
    refine ⟨fun e => ?_, c2, by omega⟩
    rcases hv with hv | ⟨j, hv, h1, h2⟩
    · exact c1 (hv.symm.trans e)
    · rw [hv] at e; injection e with e; omega
  · rcases hv with hv | ⟨j, hv, h1, h2⟩
    · obtain ⟨c1, c2⟩ := h.offR k (hv.symm.trans hk)
      exact ⟨c1, by omega⟩
    · rw [hv] at hk
      injection hk with hk
      have := h.bxN
      exact ⟨by omega, by omega⟩

structure LoP (LA n : Nat) (s : Sn) (t u : Tx) (ad rm : List ByteArray) : Prop where
  okT : TxOk t
  okU : TxOk u
  bt : t.1 = s
  bu : u.1 = s
  ad : ad = t.2.1.map (·.1) ++ u.2.1.map (·.1)
  rm : rm = t.2.2 ++ u.2.2
  nT : t.2.1.length + t.2.2.length ≤ LA ∧ t.2.1.length + t.2.2.length ≤ n
  nU : u.2.1.length + u.2.2.length ≤ n - LA

theorem LoP.nilU {LA n : Nat} {s : Sn} {t u : Tx} {ad rm : List ByteArray} (h : LoP LA n s t u ad rm) (hn : n ≤ LA) : u.2.1 = [] ∧ u.2.2 = [] := by
  have := h.nU
  exact ⟨List.length_eq_zero_iff.1 (by omega), List.length_eq_zero_iff.1 (by omega)⟩

theorem LoP.later {LA n : Nat} {s : Sn} {t u : Tx} {ad rm : List ByteArray} (h : LoP LA n s t u ad rm) : LoP LA (n + 1) s t u ad rm := ⟨h.okT, h.okU, h.bt, h.bu, h.ad, h.rm, ⟨h.nT.1, by have := h.nT.2; omega⟩, by have := h.nU; omega⟩
theorem tAdd_no {t : Tx} {f : Fl} (h : tAddE t f ≠ 0) : tAdd t f = t := by unfold tAdd; rw [if_neg h]
theorem tAdd_yes {t : Tx} {f : Fl} (h : tAddE t f = 0) : tAdd t f = (t.1, t.2.1 ++ [atSeq f 1], t.2.2) := by unfold tAdd; rw [if_pos h]
theorem tRem_no {t : Tx} {p : ByteArray} (h : tRemE t p ≠ 0) : tRem t p = t := by unfold tRem; rw [if_neg h]
theorem tRem_yes {t : Tx} {p : ByteArray} (h : tRemE t p = 0) : tRem t p = (t.1, t.2.1, t.2.2 ++ [p]) := by unfold tRem; rw [if_pos h]

theorem LoP.addT {LA n : Nat} {s : Sn} {t u : Tx} {ad rm : List ByteArray} (h : LoP LA n s t u ad rm) (hn : n < LA) {f : Fl} (h0 : tAddE t f = 0) : LoP LA (n + 1) s (tAdd t f) u (ad ++ [f.1]) rm := by
  have hk := h.okT.add f
  obtain ⟨e1, e2⟩ := h.nilU (by omega)
  rw [tAdd_yes h0] at hk ⊢
  have a1 := h.nT
  have a2 := h.nU
  refine ⟨hk, h.okU, h.bt, h.bu, ?_, h.rm, ⟨?_, ?_⟩, by omega⟩
  · rw [h.ad, e1]
    simp [atSeq]
  · simp only [List.length_append, List.length_singleton]; omega
  · simp only [List.length_append, List.length_singleton]; omega
theorem LoP.addU {LA n : Nat} {s : Sn} {t u : Tx} {ad rm : List ByteArray} (h : LoP LA n s t u ad rm) (hn : ¬ n < LA) {f : Fl} (h0 : tAddE u f = 0) : LoP LA (n + 1) s t (tAdd u f) (ad ++ [f.1]) rm := by
  have hk := h.okU.add f
  rw [tAdd_yes h0] at hk ⊢
  have a1 := h.nT
  have a2 := h.nU
  refine ⟨h.okT, hk, h.bt, h.bu, ?_, h.rm, ⟨by omega, by omega⟩, ?_⟩
  · rw [h.ad]
    simp [atSeq]
  · simp only [List.length_append, List.length_singleton]; omega
theorem LoP.remT {LA n : Nat} {s : Sn} {t u : Tx} {ad rm : List ByteArray} (h : LoP LA n s t u ad rm) (hn : n < LA) {p : ByteArray} (h0 : tRemE t p = 0) : LoP LA (n + 1) s (tRem t p) u ad (rm ++ [p]) := by
  have hk := h.okT.rem p
  obtain ⟨e1, e2⟩ := h.nilU (by omega)
  rw [tRem_yes h0] at hk ⊢
  have a1 := h.nT
  have a2 := h.nU
  refine ⟨hk, h.okU, h.bt, h.bu, h.ad, ?_, ⟨?_, ?_⟩, by omega⟩
  · rw [h.rm, e2]
    simp
  · simp only [List.length_append, List.length_singleton]; omega
  · simp only [List.length_append, List.length_singleton]; omega
theorem LoP.remU {LA n : Nat} {s : Sn} {t u : Tx} {ad rm : List ByteArray} (h : LoP LA n s t u ad rm) (hn : ¬ n < LA) {p : ByteArray} (h0 : tRemE u p = 0) : LoP LA (n + 1) s t (tRem u p) ad (rm ++ [p]) := by
  have hk := h.okU.rem p
  rw [tRem_yes h0] at hk ⊢
  have a1 := h.nT
  have a2 := h.nU
  refine ⟨h.okT, hk, h.bt, h.bu, h.ad, ?_, ⟨by omega, by omega⟩, ?_⟩
  · rw [h.rm]
    simp
  · simp only [List.length_append, List.length_singleton]; omega
end Go.Proofs.YtijbmahnjonmmaaGreatDoor
namespace Go.Proofs.YtijbmahnjonmmaaGreatDoor
open Go.RowKit Go.Extern.Stop Go.Stop Go.Extern Go.Sort Go.Shelf Go.Lib

theorem inTs_any (s : ByteArray) (v : Value) (ts : List ByteArray) (w : World) (h : TsAt w v ts) (hl : ts.length ≤ 20000) :
    Calls Tryz.prog 15 #[.string s, v] w fun e w' => e = .returned (.bool (inT ts s)) ∧ w' = w := by
  rcases h with ⟨rfl, rfl⟩ | ⟨b, cap, rfl, _, hc⟩
  · go_enter Tryz.func15, Tryz.ntmps15
    go_wp2
    go_loop [5] (fun k => k = .int .i64 0) (fun _ => 0)
    case atStart => rfl
    case round =>
      obtain rfl := hrel
      go_wp2
      go_ret
      exact ⟨rfl, rfl⟩
  · exact inTexts_any s b cap ts w hc hl

end Go.Proofs.YtijbmahnjonmmaaGreatDoor
