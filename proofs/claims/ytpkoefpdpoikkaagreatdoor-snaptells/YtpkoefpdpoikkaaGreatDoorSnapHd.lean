/-
  The contract of snap.readHead.
-/
import Derived.Test.YtpkoefpdpoikkaaGreatDoorSnapTxt
namespace Go.Proofs.YtpkoefpdpoikkaaGreatDoor
open Go.RowKit Go.Extern.Stop Go.Stop Go.Extern Go.Sort Go.Shelf Go.Lib

theorem ok_short {f : Fl} (h : fileE f = 0) : f.1.size ≤ 30 ∧ f.2.1.size ≤ 30 := by
  obtain ⟨g, n, hp, hq, hb⟩ := file_good h
  have h1 : f.1.data.toList.length ≤ 16 := by
    rw [(path_some hp).1]
    have := (numO_spelt (path_some hp).2.1).2
    cases g <;> simp [kindL, kData, kGone] <;> omega
  have h2 : f.2.1.data.toList.length ≤ 12 := by
    unfold partB at hq
    cases g
    · simp only [Bool.false_eq_true, if_false, wordB, Bool.and_eq_true, decide_eq_true_eq] at hq
      omega
    · simp only [if_true, decide_eq_true_eq] at hq
      rw [hq]; decide
  rw [size_list] at h1 h2
  omega

theorem readS_all {l : List UInt8} (h : ¬ 20000 < l.length) : readS l = if (Lib.cut l [10]).2.2 = false then (zeroS, 1, none) else match snapO (Lib.cut l [10]).1 with
  | none => (zeroS, 1, none)
  | some (x1, x2, x3, x4, x5, op, g) => if g ≠ sumL (Lib.cut l [10]).2.1 then (zeroS, 10, none) else
    if (readL (Lib.cut l [10]).2.1).2.1 ≠ 0 then (zeroS, (readL (Lib.cut l [10]).2.1).2) else
    if (snapE (x1, x2, x3, x4, x5, bytesOf op, (readL (Lib.cut l [10]).2.1).1)).1 ≠ 0 then (zeroS, snapE (x1, x2, x3, x4, x5, bytesOf op, (readL (Lib.cut l [10]).2.1).1)) else
    ((x1, x2, x3, x4, x5, bytesOf op, (readL (Lib.cut l [10]).2.1).1), 0, none) := by
  unfold readS
  rw [if_neg h]
  rfl

theorem readL_short (b : List UInt8) : Short (readL b).1 := fun f hf => ok_short (readL_good b f hf)

def HeadRP (w : World) (o : Option (Int × Int × Int × Int × Int × List UInt8 × Int)) (e : Ending) (w' : World) : Prop := Below w.heap.size w w' ∧ match o with
  | some (x1, x2, x3, x4, x5, op, g) => e = .returned (.tuple #[snV (x1, x2, x3, x4, x5, bytesOf op, []) (.slice none 0 0), .int .i64 g, .bool true])
  | none => e = .returned (.tuple #[snV zeroS (.slice none 0 0), .int .i64 0, .bool false])

theorem cell_store7 {W : World} {b R o : Nat} {v v0 v1 v2 v3 v4 v5 v6 : Value} (h : b ≠ R) (hc : W.cell? ⟨b, o, none⟩ = some v) : (((((((W.setCell ⟨R, 0, none⟩ v0).setCell ⟨R, 1, none⟩ v1).setCell ⟨R, 2, none⟩ v2).setCell ⟨R, 3, none⟩ v3).setCell ⟨R, 4, none⟩ v4).setCell ⟨R, 5, none⟩ v5).setCell ⟨R, 6, none⟩ v6).cell? ⟨b, o, none⟩ = some v := by
  rw [World.cell?_setCell_other _ _ _ _ (by simp), World.cell?_setCell_other _ _ _ _ (by simp), World.cell?_setCell_other _ _ _ _ (by simp), World.cell?_setCell_other _ _ _ _ (by simp), World.cell?_setCell_other _ _ _ _ (by simp), World.cell?_setCell_other _ _ _ _ (by simp), World.cell?_setCell_other _ _ _ _ (by simp)]
  exact hc

theorem below_store7 {W w : World} {R : Nat} {v0 v1 v2 v3 v4 v5 v6 : Value} (h : Below R w W) : Below R w (((((((W.setCell ⟨R, 0, none⟩ v0).setCell ⟨R, 1, none⟩ v1).setCell ⟨R, 2, none⟩ v2).setCell ⟨R, 3, none⟩ v3).setCell ⟨R, 4, none⟩ v4).setCell ⟨R, 5, none⟩ v5).setCell ⟨R, 6, none⟩ v6) :=
  ((((((h.setCell (Nat.le_refl _) _).setCell (Nat.le_refl _) _).setCell (Nat.le_refl _) _).setCell (Nat.le_refl _) _).setCell (Nat.le_refl _) _).setCell (Nat.le_refl _) _).setCell (Nat.le_refl _) _

theorem SnAt.zero {W : World} {b : Nat} (h : SnAt W b zeroS (.slice none 0 0)) : W.cell? ⟨b, 0, none⟩ = some (.int .i64 0) ∧ W.cell? ⟨b, 1, none⟩ = some (.int .i64 0) ∧ W.cell? ⟨b, 2, none⟩ = some (.int .i64 0) ∧ W.cell? ⟨b, 3, none⟩ = some (.int .i64 0) ∧ W.cell? ⟨b, 4, none⟩ = some (.int .i64 0) ∧ W.cell? ⟨b, 5, none⟩ = some (.string ⟨#[]⟩) ∧ W.cell? ⟨b, 6, none⟩ = some (.slice none 0 0) ∧ ∀ o, W.frozen? ⟨b, o, none⟩ = false := by
  obtain ⟨a0, a1, a2, a3, a4, a5, a6⟩ := h.cells
  exact ⟨a0, a1, a2, a3, a4, a5, a6, fun o => h.fz o⟩

set_option maxRecDepth 100000 in
set_option maxHeartbeats 16000000 in
theorem readHd_any (s : ByteArray) (w : World) (a : Nat → Addr) (h : Env0 w a) (hs : s.size ≤ 20000) :
    Calls Tryz.prog 106 #[.string s] w (HeadRP w (snapO s.data.toList)) := by
  have hal : Below w.heap.size w (w.alloc (.cells #[.int .i64 0, .int .i64 0, .int .i64 0, .int .i64 0, .int .i64 0, .string ⟨#[]⟩, .slice none 0 0] 74)) := (Below.refl _ _).alloc (Nat.le_refl _) _
  have hz0 : SnAt (w.alloc (.cells #[.int .i64 0, .int .i64 0, .int .i64 0, .int .i64 0, .int .i64 0, .string ⟨#[]⟩, .slice none 0 0] 74)) w.heap.size zeroS (.slice none 0 0) := SnAt.new w zeroS (.slice none 0 0)
  have hsp := splitTx_any s _ a (h.below hal) (by omega)
  generalize hR : snapO s.data.toList = R
  have HR : Hid (snapO s.data.toList = R) := hR
  clear hR
  have hwl := words_len s.data.toList
  go_enter Tryz.func106, Tryz.ntmps106
  go_wp2_with fail
  generalize w.alloc (.cells #[.int .i64 0, .int .i64 0, .int .i64 0, .int .i64 0, .int .i64 0, .string ⟨#[]⟩, .slice none 0 0] 74) = WA at hal hz0 hsp ⊢
  refine hsp.mono ?_
  rintro e w1 ⟨v1, ts, rfl, hts, htm, hb1⟩
  clear hsp
  have hB1 : Below w.heap.size w w1 := hal.trans (hb1.mono hal.size)
  have HZ1 : Hid (SnAt w1 w.heap.size zeroS (.slice none 0 0)) := hz0.below hb1
  have HWS : Hid (w.heap.size < w1.heap.size) := HZ1.out.lt
  clear hz0 hb1 hal
  obtain ⟨b, rfl, hcell⟩ := hts
  by_cases h8 : ts.length = 8
  case neg =>
    have hRR : R = none := HR.out.symm.trans (snapO_len (fun e => h8 (by rw [← e, ← htm, List.length_map])))
    subst hRR
    generalize ts.length = L at h8 ⊢
    have hne : ¬ (L : Int) = 8 := by omega
    clear htm hwl hcell h8 HR
    obtain ⟨y0, y1, y2, y3, y4, y5, y6, yf⟩ := HZ1.out.zero
    have s0 := setCell_self y0
    have s1 := setCell_self y1
    have s2 := setCell_self y2
    have s3 := setCell_self y3
    have s4 := setCell_self y4
    have s5 := setCell_self y5
    have s6 := setCell_self y6
    go_wp2
    exact bodyPost_ret (v := .tuple #[(.agg #[.int .i64 0, .int .i64 0, .int .i64 0, .int .i64 0, .int .i64 0, .string ⟨#[]⟩, .slice none 0 0]), .int .i64 0, .bool false]) (by simp [results, Tryz.results106, go_sem, y0, y1, y2, y3, y4, y5, y6]) rfl ⟨hB1, rfl⟩
  case pos =>
  obtain ⟨K, T1, T2, T3, T4, T5, T6, T7, rfl⟩ := eight h8
  have hw : words s.data.toList = [K.data.toList, T1.data.toList, T2.data.toList, T3.data.toList, T4.data.toList, T5.data.toList, T6.data.toList, T7.data.toList] := by rw [← htm]; rfl
  have hrs := HR.out
  rw [snapO_eight hw] at hrs
  have hwz : ∀ t ∈ [K, T1, T2, T3, T4, T5, T6, T7], t.size ≤ 20000 := fun t ht => by
    have := hwl t.data.toList (by rw [← htm]; exact List.mem_map.2 ⟨t, ht, rfl⟩)
    rw [size_list, size_list] at this
    omega
  have hT7 := hwz T7 (by simp)
  have c0 := hcell 0 (by simp)
  have c6 := hcell 6 (by simp)
  have c7 := hcell 7 (by simp)
  simp only [List.getElem_cons_succ, List.getElem_cons_zero] at c0 c6 c7
  have hnm := numbers_new b 1 7 [T1, T2, T3, T4, T5] w1 a (h.below hB1) (fun j hj => by
    have hj' : j + 1 < [K, T1, T2, T3, T4, T5, T6, T7].length := by simp at hj ⊢; omega
    have := hcell (j + 1) hj'
    rw [Nat.add_comm 1 j]
    rw [this]
    match j, hj with
    | 0, _ => rfl
    | 1, _ => rfl
    | 2, _ => rfl
    | 3, _ => rfl
    | 4, _ => rfl
    | k + 5, hj => exact absurd hj (by simp only [List.length_cons, List.length_nil]; omega)) (fun t ht => by
      have := hwz t (by
        simp only [List.mem_cons, List.not_mem_nil, or_false] at ht ⊢
        rcases ht with rfl | rfl | rfl | rfl | rfl <;> simp)
      unfold maxLen; omega) (by simp)
  have hn7 := fun W (hW : Env0 W a) => number_any T7 W a hW (by unfold maxLen; omega)
  have HRS : Hid ((match sixO T1.data.toList T2.data.toList T3.data.toList T4.data.toList T5.data.toList T7.data.toList with
    | some (x1, x2, x3, x4, x5, g) => if K.data.toList = kSnap then some (x1, x2, x3, x4, x5, T6.data.toList, g) else none
    | none => none) = R) := hrs
  clear hw htm hwl hcell h8 hwz hrs hT7 HR
  simp only [List.length_cons, List.length_nil, Nat.zero_add, Nat.reduceAdd] at hnm ⊢
  by_cases hk : K.data.toList = kSnap
  case neg =>
    have hRR : R = none := by
      rw [← HRS.out]
      split
      · rw [if_neg hk]
      · rfl
    subst hRR
    have d1 := neB_of hk
    simp only [kSnap] at d1
    clear hk hnm hn7 HRS c6 c7
    obtain ⟨y0, y1, y2, y3, y4, y5, y6, yf⟩ := HZ1.out.zero
    have s0 := setCell_self y0
    have s1 := setCell_self y1
    have s2 := setCell_self y2
    have s3 := setCell_self y3
    have s4 := setCell_self y4
    have s5 := setCell_self y5
    have s6 := setCell_self y6
    go_wp2
    exact bodyPost_ret (v := .tuple #[(.agg #[.int .i64 0, .int .i64 0, .int .i64 0, .int .i64 0, .int .i64 0, .string ⟨#[]⟩, .slice none 0 0]), .int .i64 0, .bool false]) (by simp [results, Tryz.results106, go_sem, y0, y1, y2, y3, y4, y5, y6]) rfl ⟨hB1, rfl⟩
  case pos =>
  have d1 := eqB_of hk
  have HRS2 : Hid ((match sixO T1.data.toList T2.data.toList T3.data.toList T4.data.toList T5.data.toList T7.data.toList with
    | some (x1, x2, x3, x4, x5, g) => some (x1, x2, x3, x4, x5, T6.data.toList, g)
    | none => none) = R) := by
    show _ = _
    rw [← HRS.out]
    split
    · rw [if_pos hk]
    · rfl
  simp only [kSnap] at d1
  clear hk HRS
  go_wp2_with fail
  refine hnm.mono ?_
  rintro e w3 ⟨hres, hb3⟩
  clear hnm
  have hB3 : Below w.heap.size w w3 := hB1.trans (hb3.mono hB1.size)
  have HZ3 : Hid (SnAt w3 w.heap.size zeroS (.slice none 0 0)) := HZ1.out.below hb3
  have e6 := below_keep hb3 c6
  have e7 := below_keep hb3 c7
  clear HZ1 c0 c6 c7 d1
  rcases hres with ⟨zs, g, hzl, hzn, rfl, hzc, hgn⟩ | ⟨j, t, ht, hno, rfl⟩
  case inr =>
    have hRR : R = none := by
      rw [← HRS2.out, six_bad]
      match j, ht with
      | 0, ht => exact Or.inl (by rw [Option.some.inj ht]; exact hno)
      | 1, ht => exact Or.inr (Or.inl (by rw [Option.some.inj ht]; exact hno))
      | 2, ht => exact Or.inr (Or.inr (Or.inl (by rw [Option.some.inj ht]; exact hno)))
      | 3, ht => exact Or.inr (Or.inr (Or.inr (Or.inl (by rw [Option.some.inj ht]; exact hno))))
      | 4, ht => exact Or.inr (Or.inr (Or.inr (Or.inr (Or.inl (by rw [Option.some.inj ht]; exact hno)))))
      | k + 5, ht => simp at ht
    subst hRR
    clear HRS2 ht hno e6 e7 hn7
    obtain ⟨y0, y1, y2, y3, y4, y5, y6, yf⟩ := HZ3.out.zero
    have s0 := setCell_self y0
    have s1 := setCell_self y1
    have s2 := setCell_self y2
    have s3 := setCell_self y3
    have s4 := setCell_self y4
    have s5 := setCell_self y5
    have s6 := setCell_self y6
    go_wp2
    exact bodyPost_ret (v := .tuple #[(.agg #[.int .i64 0, .int .i64 0, .int .i64 0, .int .i64 0, .int .i64 0, .string ⟨#[]⟩, .slice none 0 0]), .int .i64 0, .bool false]) (by simp [results, Tryz.results106, go_sem, y0, y1, y2, y3, y4, y5, y6]) rfl ⟨hB3, rfl⟩
  case inl =>
  obtain ⟨x1, x2, x3, x4, x5, hz5⟩ := five (l := zs) hzl
  subst hz5
  have q1 := hzn 0 T1 rfl
  have q2 := hzn 1 T2 rfl
  have q3 := hzn 2 T3 rfl
  have q4 := hzn 3 T4 rfl
  have q5 := hzn 4 T5 rfl
  have k1 := hzc 0 (by simp)
  have k2 := hzc 1 (by simp)
  have k3 := hzc 2 (by simp)
  have k4 := hzc 3 (by simp)
  have k5 := hzc 4 (by simp)
  simp only [List.getElem_cons_succ, List.getElem_cons_zero] at k1 k2 k3 k4 k5
  have hn1 := hn7 w3 (h.below hB3)
  unfold numR at hn1
  clear hn7 hzn hzc hzl
  simp only [List.length_cons, List.length_nil, Nat.zero_add, Nat.reduceAdd]
  cases hg : numO T7.data.toList with
  | none =>
    rw [hg] at hn1
    dsimp only at hn1
    have hRR : R = none := by rw [← HRS2.out, six_bad (Or.inr (Or.inr (Or.inr (Or.inr (Or.inr hg)))))]
    subst hRR
    clear HRS2 hg q1 q2 q3 q4 q5
    go_wp2_with fail
    refine hn1.mono ?_
    rintro e w4 ⟨rfl, hb4⟩
    clear hn1
    have hB4 : Below w.heap.size w w4 := hB3.trans (hb4.mono hB3.size)
    obtain ⟨y0, y1, y2, y3, y4, y5, y6, yf⟩ := (HZ3.out.below hb4).zero
    have s0 := setCell_self y0
    have s1 := setCell_self y1
    have s2 := setCell_self y2
    have s3 := setCell_self y3
    have s4 := setCell_self y4
    have s5 := setCell_self y5
    have s6 := setCell_self y6
    go_wp2
    exact bodyPost_ret (v := .tuple #[(.agg #[.int .i64 0, .int .i64 0, .int .i64 0, .int .i64 0, .int .i64 0, .string ⟨#[]⟩, .slice none 0 0]), .int .i64 0, .bool false]) (by simp [results, Tryz.results106, go_sem, y0, y1, y2, y3, y4, y5, y6]) rfl ⟨hB4, rfl⟩
  | some sm =>
    rw [hg] at hn1
    dsimp only at hn1
    have hRR : R = some (x1, x2, x3, x4, x5, T6.data.toList, sm) := by
      rw [← HRS2.out, six_good (by simpa using q1) (by simpa using q2) (by simpa using q3) (by simpa using q4) (by simpa using q5) hg]
    subst hRR
    clear HRS2 hg q1 q2 q3 q4 q5
    go_wp2_with fail
    refine hn1.mono ?_
    rintro e w4 ⟨rfl, hb4⟩
    clear hn1
    have hB4 : Below w.heap.size w w4 := hB3.trans (hb4.mono hB3.size)
    have hz4 := HZ3.out.below hb4
    have t6 := below_keep hb4 e6
    have l1 := below_keep hb4 k1
    have l2 := below_keep hb4 k2
    have l3 := below_keep hb4 k3
    have l4 := below_keep hb4 k4
    have l5 := below_keep hb4 k5
    have hbR : b ≠ w.heap.size := fun e => by
      have e2 := hz4.zero.2.2.2.2.2.2.1
      rw [← e] at e2
      have := t6.symm.trans e2
      simp at this
    have hgR : g ≠ w.heap.size := by have := HWS.out; omega
    have hbR' : ¬ w.heap.size = b := fun e => hbR e.symm
    have hgR' : ¬ w.heap.size = g := fun e => hgR e.symm
    have hbd : Below w4.heap.size w4 w4.drew := (Below.refl _ _).drew
    have hzd := hz4.below hbd
    have hBd := hB4.drew
    have hbF : Below (((((((w4.setCell ⟨w.heap.size, 0, none⟩ (.int .i64 x1)).setCell ⟨w.heap.size, 1, none⟩ (.int .i64 x2)).setCell ⟨w.heap.size, 2, none⟩ (.int .i64 x3)).setCell ⟨w.heap.size, 3, none⟩ (.int .i64 x4)).setCell ⟨w.heap.size, 4, none⟩ (.int .i64 x5)).setCell ⟨w.heap.size, 5, none⟩ (.string T6)).setCell ⟨w.heap.size, 6, none⟩ (.slice none 0 0)).heap.size (((((((w4.setCell ⟨w.heap.size, 0, none⟩ (.int .i64 x1)).setCell ⟨w.heap.size, 1, none⟩ (.int .i64 x2)).setCell ⟨w.heap.size, 2, none⟩ (.int .i64 x3)).setCell ⟨w.heap.size, 3, none⟩ (.int .i64 x4)).setCell ⟨w.heap.size, 4, none⟩ (.int .i64 x5)).setCell ⟨w.heap.size, 5, none⟩ (.string T6)).setCell ⟨w.heap.size, 6, none⟩ (.slice none 0 0)) (((((((w4.setCell ⟨w.heap.size, 0, none⟩ (.int .i64 x1)).setCell ⟨w.heap.size, 1, none⟩ (.int .i64 x2)).setCell ⟨w.heap.size, 2, none⟩ (.int .i64 x3)).setCell ⟨w.heap.size, 3, none⟩ (.int .i64 x4)).setCell ⟨w.heap.size, 4, none⟩ (.int .i64 x5)).setCell ⟨w.heap.size, 5, none⟩ (.string T6)).setCell ⟨w.heap.size, 6, none⟩ (.slice none 0 0)).drew := (Below.refl _ _).drew
    obtain ⟨y0, y1, y2, y3, y4, y5, y6, yf⟩ := hzd.zero
    obtain ⟨v0, v1, v2, v3, v4, v5, v6, vf⟩ := hz4.zero
    have hz5 := hz4.set (x1, x2, x3, x4, x5, T6, []) (.slice none 0 0)
    have hz6 := hzd.set (x1, x2, x3, x4, x5, T6, []) (.slice none 0 0)
    unfold snSet at hz5 hz6
    dsimp only at hz5 hz6
    clear e6 e7 k1 k2 k3 k4 k5 hb4 hb3 hz4 hzd hB3 HZ3
    go_wp2_with fail
    go_region_held3 (fun w' => w'.cell? ⟨b, 6, none⟩ = some (.string T6) ∧ w'.cell? ⟨g, 0, none⟩ = some (.int .i64 x1) ∧ w'.cell? ⟨g, 1, none⟩ = some (.int .i64 x2) ∧ w'.cell? ⟨g, 2, none⟩ = some (.int .i64 x3) ∧ w'.cell? ⟨g, 3, none⟩ = some (.int .i64 x4) ∧ w'.cell? ⟨g, 4, none⟩ = some (.int .i64 x5) ∧ Below w.heap.size w w')
      (first
        | with_reducible exact ⟨below_keep hbd t6, below_keep hbd l1, below_keep hbd l2, below_keep hbd l3, below_keep hbd l4, below_keep hbd l5, hBd⟩
        | with_reducible exact ⟨cell_store7 hbR (below_keep hbd t6), cell_store7 hgR (below_keep hbd l1), cell_store7 hgR (below_keep hbd l2), cell_store7 hgR (below_keep hbd l3), cell_store7 hgR (below_keep hbd l4), cell_store7 hgR (below_keep hbd l5), below_store7 hBd⟩
        | with_reducible exact ⟨below_keep hbF (cell_store7 hbR t6), below_keep hbF (cell_store7 hgR l1), below_keep hbF (cell_store7 hgR l2), below_keep hbF (cell_store7 hgR l3), below_keep hbF (cell_store7 hgR l4), below_keep hbF (cell_store7 hgR l5), (below_store7 hB4).drew⟩
        | with_reducible exact ⟨t6, l1, l2, l3, l4, l5, hB4⟩
        | with_reducible exact ⟨cell_store7 hbR t6, cell_store7 hgR l1, cell_store7 hgR l2, cell_store7 hgR l3, cell_store7 hgR l4, cell_store7 hgR l5, below_store7 hB4⟩)
      (fail)
    go_split_ands
    have hB6 : Below w.heap.size w (((((((w4.setCell ⟨w.heap.size, 0, none⟩ (.int .i64 x1)).setCell ⟨w.heap.size, 1, none⟩ (.int .i64 x2)).setCell ⟨w.heap.size, 2, none⟩ (.int .i64 x3)).setCell ⟨w.heap.size, 3, none⟩ (.int .i64 x4)).setCell ⟨w.heap.size, 4, none⟩ (.int .i64 x5)).setCell ⟨w.heap.size, 5, none⟩ (.string T6)).setCell ⟨w.heap.size, 6, none⟩ (.slice none 0 0)) := below_store7 hB4
    have hB7 := hB6.drew
    obtain ⟨u0, u1, u2, u3, u4, u5, u6⟩ := (hz5.below hbF).cells
    obtain ⟨m0, m1, m2, m3, m4, m5, m6⟩ := hz6.cells
    dsimp only at u0 u1 u2 u3 u4 u5 m0 m1 m2 m3 m4 m5
    clear hz5 hz6
    go_wp2
    refine bodyPost_ret (v := .tuple #[.agg #[.int .i64 x1, .int .i64 x2, .int .i64 x3, .int .i64 x4, .int .i64 x5, .string T6, .slice none 0 0], .int .i64 sm, .bool true]) (by simp [results, Tryz.results106, go_sem, u0, u1, u2, u3, u4, u5, u6]) rfl ⟨hB7, ?_⟩
    dsimp only
    rw [bytesOf_data]
    rfl
end Go.Proofs.YtpkoefpdpoikkaaGreatDoor
