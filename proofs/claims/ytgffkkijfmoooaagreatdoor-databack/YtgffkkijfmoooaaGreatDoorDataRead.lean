/-
  The contract of data.readHead: the four numbers of a head's line.
-/
import Derived.Test.YtgffkkijfmoooaaGreatDoorDataMake
namespace Go.Proofs.YtgffkkijfmoooaaGreatDoor
open Go.RowKit Go.Extern.Stop Go.Stop Go.Extern Go.Sort Go.Shelf Go.Lib

theorem headO_five {Kw l k A B C D : List UInt8} (h : words l = [k, A, B, C, D]) : headO Kw l = if k = Kw then (match numO A, numO B, numO C, numO D with
    | some a, some b, some c, some d => some (a, b, c, d)
    | _, _, _, _ => none) else none := by
  unfold headO; rw [h]; rfl
theorem headO_other {Kw l : List UInt8} (h : (words l).length ≠ 5) : headO Kw l = none := by
  unfold headO
  split
  · rename_i e; rw [e] at h; simp at h
  · rfl

theorem five_of {α : Type} {ts : List α} (h : ts.length = 5) : ∃ a b c d e, ts = [a, b, c, d, e] := by
  match ts, h with
  | [a, b, c, d, e], _ => exact ⟨a, b, c, d, e, rfl⟩

theorem eqBB {s t : ByteArray} (h : s.data.toList = t.data.toList) : (s.toList == t.toList) = true := by
  rw [ByteArray.toList_eq, ByteArray.toList_eq]; simpa using h
theorem neBB {s t : ByteArray} (h : s.data.toList ≠ t.data.toList) : (s.toList == t.toList) = false := by
  rw [ByteArray.toList_eq, ByteArray.toList_eq]; simpa using h

/-- What readHead hands back. -/
def headR (K l : List UInt8) : (Int × Int × Int) × Int × Bool := match headO K l with
  | some (n, lo, hi, sum) => ((n, lo, hi), sum, true)
  | none => ((0, 0, 0), 0, false)

set_option maxRecDepth 100000 in
set_option maxHeartbeats 4000000 in
theorem readHead_any (kb s : ByteArray) (w : World) (a : Nat → Addr) (h : Env0 w a) (hs : s.size ≤ 100000) :
    Calls Tryz.prog 102 #[.string kb, .string s] w fun e w' => e = .returned (.tuple #[.agg #[.int .i64 (headR kb.data.toList s.data.toList).1.1, .int .i64 (headR kb.data.toList s.data.toList).1.2.1, .int .i64 (headR kb.data.toList s.data.toList).1.2.2], .int .i64 (headR kb.data.toList s.data.toList).2.1, .bool (headR kb.data.toList s.data.toList).2.2]) ∧ Below w.heap.size w w' := by
  have hal : Below w.heap.size w (w.alloc (.cells #[.int .i64 0, .int .i64 0, .int .i64 0] 133)) := (Below.refl _ _).alloc (Nat.le_refl _) _
  have hsp := splitTx_any s _ a (h.below hal) (by omega)
  have hblk := heap_alloc_new w (.cells #[.int .i64 0, .int .i64 0, .int .i64 0] 133)
  have hwl := words_len s.data.toList
  go_enter Tryz.func102, Tryz.ntmps102
  go_wp2_with fail
  generalize hWA : w.alloc (.cells #[.int .i64 0, .int .i64 0, .int .i64 0] 133) = WA at hal hsp hblk ⊢
  refine hsp.mono ?_
  rintro e w1 ⟨v1, ts, rfl, hts, htm, hb1⟩
  clear hsp
  have hB1 : Below w.heap.size w w1 := hal.trans (hb1.mono hal.size)
  have hblk1 : w1.heap[w.heap.size]? = some (.cells #[.int .i64 0, .int .i64 0, .int .i64 0] 133 (0, 0)) := (hb1.block _ (lt_of_block hblk)).trans hblk
  clear hblk hb1 hal hWA
  have bad : ∀ W : World, Below w.heap.size w W → W.heap[w.heap.size]? = some (.cells #[.int .i64 0, .int .i64 0, .int .i64 0] 133 (0, 0)) → (W.cell? ⟨w.heap.size, 0, none⟩ = some (.int .i64 0) ∧ W.cell? ⟨w.heap.size, 1, none⟩ = some (.int .i64 0) ∧ W.cell? ⟨w.heap.size, 2, none⟩ = some (.int .i64 0) ∧ ∀ o, W.frozen? ⟨w.heap.size, o, none⟩ = false) := fun W _ hW =>
    ⟨by rw [cell_of_row _ _ _ _ _ _ hW]; rfl, by rw [cell_of_row _ _ _ _ _ _ hW]; rfl, by rw [cell_of_row _ _ _ _ _ _ hW]; rfl, fun o => frozen_of_row _ _ _ _ _ hW⟩
  have BAD : Hid (∀ W : World, Below w.heap.size w W → W.heap[w.heap.size]? = some (.cells #[.int .i64 0, .int .i64 0, .int .i64 0] 133 (0, 0)) → (W.cell? ⟨w.heap.size, 0, none⟩ = some (.int .i64 0) ∧ W.cell? ⟨w.heap.size, 1, none⟩ = some (.int .i64 0) ∧ W.cell? ⟨w.heap.size, 2, none⟩ = some (.int .i64 0) ∧ ∀ o, W.frozen? ⟨w.heap.size, o, none⟩ = false)) := bad
  have HBLK : Hid (w1.heap[w.heap.size]? = some (.cells #[.int .i64 0, .int .i64 0, .int .i64 0] 133 (0, 0))) := hblk1
  clear bad hblk1
  by_cases h5 : ts.length = 5
  · obtain ⟨K, A, B, C, D, rfl⟩ := five_of h5
    have hw : words s.data.toList = [K.data.toList, A.data.toList, B.data.toList, C.data.toList, D.data.toList] := by rw [← htm]; rfl
    have hf := headO_five (Kw := kb.data.toList) hw
    have hwz : ∀ t ∈ [K, A, B, C, D], t.size ≤ maxLen := fun t ht => by
      have := hwl t.data.toList (by rw [← htm]; exact List.mem_map.2 ⟨t, ht, rfl⟩)
      rw [size_list, size_list] at this
      unfold maxLen; omega
    have HF : Hid (headO kb.data.toList s.data.toList = if K.data.toList = kb.data.toList then (match numO A.data.toList, numO B.data.toList, numO C.data.toList, numO D.data.toList with
      | some a, some b, some c, some d => some (a, b, c, d)
      | _, _, _, _ => none) else none) := hf
    obtain ⟨b, rfl, hcell⟩ := hts
    have c0 := hcell 0 (by simp)
    simp only [List.getElem_cons_zero] at c0
    have HCELL : Hid (∀ j (h : j < [K, A, B, C, D].length), w1.cell? ⟨b, j, none⟩ = some (.string [K, A, B, C, D][j])) := hcell
    clear hf hw htm hwl hcell h5
    simp only [List.length_cons, List.length_nil, Nat.zero_add, Nat.reduceAdd]
    by_cases hk : K.data.toList = kb.data.toList
    · have hkb := eqBB hk
      have hnm := numbers_any b 1 4 [A, B, C, D] w1 a (h.below hB1) (fun j hj => by
        have hj' : j + 1 < [K, A, B, C, D].length := by simp at hj ⊢; omega
        have := HCELL.out (j + 1) hj'
        rw [Nat.add_comm 1 j]
        simpa using this) (fun t ht => hwz t (List.mem_cons_of_mem _ ht)) (by simp)
      simp only [List.length_cons, List.length_nil, Nat.zero_add, Nat.reduceAdd] at hnm
      go_wp2_with fail
      refine hnm.mono ?_
      rintro e w3 ⟨hres, hb3⟩
      clear hnm c0
      have hB3 : Below w.heap.size w w3 := hB1.trans (hb3.mono hB1.size)
      obtain ⟨y0, y1, y2, fz⟩ := BAD.out w3 hB3 ((hb3.block _ (lt_of_block HBLK.out)).trans HBLK.out)
      have s0 := setCell_self y0
      have s1 := setCell_self y1
      have s2 := setCell_self y2
      rcases hres with ⟨zs, g, hzl, hzn, rfl, hzc⟩ | ⟨j, t, ht, hno, rfl⟩
      · obtain ⟨z0, z1, z2, z3, hz4⟩ : ∃ z0 z1 z2 z3, zs = [z0, z1, z2, z3] := by
          match zs, hzl with
          | [z0, z1, z2, z3], _ => exact ⟨z0, z1, z2, z3, rfl⟩
        subst hz4
        have HSOME : Hid (headO kb.data.toList s.data.toList = some (z0, z1, z2, z3)) := by
          show _ = _
          have q0 := hzn 0 A rfl
          have q1 := hzn 1 B rfl
          have q2 := hzn 2 C rfl
          have q3 := hzn 3 D rfl
          rw [HF.out, if_pos hk, q0, q1, q2, q3]
          rfl
        have k0 := hzc 0 (by simp)
        have k1 := hzc 1 (by simp)
        have k2 := hzc 2 (by simp)
        have k3 := hzc 3 (by simp)
        simp only [List.getElem_cons_succ, List.getElem_cons_zero] at k0 k1 k2 k3
        have hgw : g ≠ w.heap.size := by
          intro e
          subst e
          have := y0.symm.trans k0
          have e1 := k3
          rw [cell_of_row _ _ _ _ _ _ ((hb3.block _ (lt_of_block HBLK.out)).trans HBLK.out)] at e1
          simp at e1
        have hne1 : ¬ g = w.heap.size := hgw
        have hne2 : ¬ w.heap.size = g := fun e => hgw e.symm
        clear hzn hzc hzl hgw s0 s1 s2
        simp only [List.length_cons, List.length_nil, Nat.zero_add, Nat.reduceAdd]
        go_wp2
        go_region
        go_wp2
        refine bodyPost_ret (v := .tuple #[.agg #[.int .i64 z0, .int .i64 z1, .int .i64 z2], .int .i64 z3, .bool true]) (by simp [results, Tryz.results102, go_sem, y0, y1, y2]) rfl ⟨by unfold headR; rw [HSOME.out], ?_⟩
        exact (((hB3.setCell (by simp) _).setCell (by simp) _).setCell (by simp) _).drew
      · have HNONE : Hid (headO kb.data.toList s.data.toList = none) := by
          show _ = _
          rw [HF.out, if_pos hk]
          match j, ht with
          | 0, ht => rw [Option.some.inj ht, hno]
          | 1, ht => rw [Option.some.inj ht, hno]; split <;> simp_all
          | 2, ht => rw [Option.some.inj ht, hno]; split <;> simp_all
          | 3, ht => rw [Option.some.inj ht, hno]; split <;> simp_all
        clear ht hno
        go_wp2
        exact bodyPost_ret (v := .tuple #[.agg #[.int .i64 0, .int .i64 0, .int .i64 0], .int .i64 0, .bool false]) (by simp [results, Tryz.results102, go_sem, y0, y1, y2]) rfl ⟨by unfold headR; rw [HNONE.out], hB3⟩
    · have hkb := neBB hk
      have HNONE : Hid (headO kb.data.toList s.data.toList = none) := by
        show _ = _
        rw [HF.out, if_neg hk]
      obtain ⟨y0, y1, y2, fz⟩ := BAD.out w1 hB1 HBLK.out
      have s0 := setCell_self y0
      have s1 := setCell_self y1
      have s2 := setCell_self y2
      go_wp2
      exact bodyPost_ret (v := .tuple #[.agg #[.int .i64 0, .int .i64 0, .int .i64 0], .int .i64 0, .bool false]) (by simp [results, Tryz.results102, go_sem, y0, y1, y2]) rfl ⟨by unfold headR; rw [HNONE.out], hB1⟩
  · have HNONE : Hid (headO kb.data.toList s.data.toList = none) := headO_other (fun e => h5 (by rw [← e, ← htm, List.length_map]))
    have hne : ¬ (ts.length : Int) = 5 := by omega
    obtain ⟨b, rfl, _⟩ := hts
    obtain ⟨y0, y1, y2, fz⟩ := BAD.out w1 hB1 HBLK.out
    have s0 := setCell_self y0
    have s1 := setCell_self y1
    have s2 := setCell_self y2
    clear htm hwl h5
    go_wp2
    exact bodyPost_ret (v := .tuple #[.agg #[.int .i64 0, .int .i64 0, .int .i64 0], .int .i64 0, .bool false]) (by simp [results, Tryz.results102, go_sem, y0, y1, y2]) rfl ⟨by unfold headR; rw [HNONE.out], hB1⟩
end Go.Proofs.YtgffkkijfmoooaaGreatDoor
