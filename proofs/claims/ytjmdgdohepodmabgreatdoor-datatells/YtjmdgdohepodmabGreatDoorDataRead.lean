/-
  The contract of data.readHead: the four numbers of a head's line.
-/
import Derived.Test.YtjmdgdohepodmabGreatDoorDataMake
namespace Go.Proofs.YtjmdgdohepodmabGreatDoor
open Go.RowKit Go.Extern.Stop Go.Stop Go.Extern Go.Sort Go.Shelf Go.Lib

/-- A slice of texts, from its first cell on. -/
def TxAt (w : World) (v : Value) (ts : List ByteArray) : Prop :=
  ∃ b cap, v = .slice (some ⟨b, 0, none⟩) ts.length cap ∧ ∀ j (h : j < ts.length), w.cell? ⟨b, j, none⟩ = some (.string ts[j])

theorem TxAt.below {w w' : World} {v : Value} {ts : List ByteArray} (h : TxAt w v ts) (hb : Below w.heap.size w w') : TxAt w' v ts := by
  obtain ⟨b, cap, hv, h⟩ := h
  exact ⟨b, cap, hv, fun j hj => below_keep hb (h j hj)⟩

theorem splitTx_any (s : ByteArray) (w : World) (a : Nat → Addr) (h : Env w a) (hs : s.size < 4294967281) :
    Calls Tryz.prog 75 #[.string s, .string ⟨#[32]⟩] w fun e w' => ∃ v ts, e = .returned v ∧ TxAt w' v ts ∧ ts.map (·.data.toList) = words s.data.toList ∧ Below w.heap.size w w' := by
  obtain ⟨m, hm⟩ := h.maxl
  have hsp := Tryz.strings_Split s sp m _ hs hm (by decide)
  obtain ⟨hw1, hw2⟩ := split_words s.size s (Nat.le_refl _)
  have hl : (splitB sp 0 (countB s sp) s).length = countB s sp + 1 := by
    have := congrArg List.length hw1
    simp only [List.length_map] at this
    omega
  refine hsp.mono fun e w' ⟨he, hw⟩ => ⟨_, splitB sp 0 (countB s sp) s, he, ⟨w.heap.size, countB s sp + 1, by rw [hl], fun j hj => ?_⟩, hw1, ?_⟩
  · rw [hw, cell_of_row _ _ _ _ _ _ (heap_alloc_new _ _)]
    simp [hj]
  · rw [hw]; exact (Below.refl _ _).alloc (Nat.le_refl _) _

/-- The array of a head's numbers. -/
def arr4 (zs : List Int) : Array Value := #[.int .i64 (zs.getD 0 0), .int .i64 (zs.getD 1 0), .int .i64 (zs.getD 2 0), .int .i64 (zs.getD 3 0)]

theorem headO_five {Kw l k A B C D : List UInt8} (h : words l = [k, A, B, C, D]) : headO Kw l = if k = Kw then (match numO A, numO B, numO C, numO D with
    | some a, some b, some c, some d => some (a, b, c, d)
    | _, _, _, _ => none) else none := by
  unfold headO; rw [h]; rfl
theorem headO_other {Kw l : List UInt8} (h : (words l).length ≠ 5) : headO Kw l = none := by
  unfold headO
  split
  · rename_i e; rw [e] at h; simp at h
  · rfl

theorem five_of {α : Type} {ts : List α} (h : ts.length = 5) : ∃ a b c d e, ts = [a, b, c, d, e] := by
  match ts, h with
  | [a, b, c, d, e], _ => exact ⟨a, b, c, d, e, rfl⟩

theorem eqBB {s t : ByteArray} (h : s.data.toList = t.data.toList) : (s.toList == t.toList) = true := by
  rw [ByteArray.toList_eq, ByteArray.toList_eq]; simpa using h
theorem neBB {s t : ByteArray} (h : s.data.toList ≠ t.data.toList) : (s.toList == t.toList) = false := by
  rw [ByteArray.toList_eq, ByteArray.toList_eq]; simpa using h

/-- What readHead hands back. -/
def headR (K l : List UInt8) : (Int × Int × Int) × Int × Bool := match headO K l with
  | some (n, lo, hi, sum) => ((n, lo, hi), sum, true)
  | none => ((0, 0, 0), 0, false)

set_option maxRecDepth 100000 in
set_option maxHeartbeats 4000000 in
theorem readHead_any (kb s : ByteArray) (w : World) (a : Nat → Addr) (h : Env w a) (hs : s.size ≤ 100000) :
    Calls Tryz.prog 72 #[.string kb, .string s] w fun e w' => e = .returned (.tuple #[.agg #[.int .i64 (headR kb.data.toList s.data.toList).1.1, .int .i64 (headR kb.data.toList s.data.toList).1.2.1, .int .i64 (headR kb.data.toList s.data.toList).1.2.2], .int .i64 (headR kb.data.toList s.data.toList).2.1, .bool (headR kb.data.toList s.data.toList).2.2]) ∧ Below w.heap.size w w' := by
  have hal : Below w.heap.size w (w.alloc (.cells #[.int .i64 0, .int .i64 0, .int .i64 0] 97)) := (Below.refl _ _).alloc (Nat.le_refl _) _
  have hsp := splitTx_any s _ a (h.below hal) (by omega)
  have hblk := heap_alloc_new w (.cells #[.int .i64 0, .int .i64 0, .int .i64 0] 97)
  have hwl := words_len s.data.toList
  go_enter Tryz.func72, Tryz.ntmps72
  go_wp2_with fail
  generalize hWA : w.alloc (.cells #[.int .i64 0, .int .i64 0, .int .i64 0] 97) = WA at hal hsp hblk ⊢
  refine hsp.mono ?_
  rintro e w1 ⟨v1, ts, rfl, hts, htm, hb1⟩
  clear hsp
  have hB1 : Below w.heap.size w w1 := hal.trans (hb1.mono hal.size)
  have hblk1 : w1.heap[w.heap.size]? = some (.cells #[.int .i64 0, .int .i64 0, .int .i64 0] 97 (0, 0)) := (hb1.block _ (lt_of_block hblk)).trans hblk
  clear hblk hb1 hal hWA
  have bad : ∀ W : World, Below w.heap.size w W → W.heap[w.heap.size]? = some (.cells #[.int .i64 0, .int .i64 0, .int .i64 0] 97 (0, 0)) → (W.cell? ⟨w.heap.size, 0, none⟩ = some (.int .i64 0) ∧ W.cell? ⟨w.heap.size, 1, none⟩ = some (.int .i64 0) ∧ W.cell? ⟨w.heap.size, 2, none⟩ = some (.int .i64 0) ∧ ∀ o, W.frozen? ⟨w.heap.size, o, none⟩ = false) := fun W _ hW =>
    ⟨by rw [cell_of_row _ _ _ _ _ _ hW]; rfl, by rw [cell_of_row _ _ _ _ _ _ hW]; rfl, by rw [cell_of_row _ _ _ _ _ _ hW]; rfl, fun o => frozen_of_row _ _ _ _ _ hW⟩
  have BAD : Hid (∀ W : World, Below w.heap.size w W → W.heap[w.heap.size]? = some (.cells #[.int .i64 0, .int .i64 0, .int .i64 0] 97 (0, 0)) → (W.cell? ⟨w.heap.size, 0, none⟩ = some (.int .i64 0) ∧ W.cell? ⟨w.heap.size, 1, none⟩ = some (.int .i64 0) ∧ W.cell? ⟨w.heap.size, 2, none⟩ = some (.int .i64 0) ∧ ∀ o, W.frozen? ⟨w.heap.size, o, none⟩ = false)) := bad
  have HBLK : Hid (w1.heap[w.heap.size]? = some (.cells #[.int .i64 0, .int .i64 0, .int .i64 0] 97 (0, 0))) := hblk1
  clear bad hblk1
  by_cases h5 : ts.length = 5
  · obtain ⟨K, A, B, C, D, rfl⟩ := five_of h5
    have hw : words s.data.toList = [K.data.toList, A.data.toList, B.data.toList, C.data.toList, D.data.toList] := by rw [← htm]; rfl
    have hf := headO_five (Kw := kb.data.toList) hw
    have hwz : ∀ t ∈ [K, A, B, C, D], t.size ≤ maxLen := fun t ht => by
      have := hwl t.data.toList (by rw [← htm]; exact List.mem_map.2 ⟨t, ht, rfl⟩)
      rw [size_list, size_list] at this
      unfold maxLen; omega
    have HF : Hid (headO kb.data.toList s.data.toList = if K.data.toList = kb.data.toList then (match numO A.data.toList, numO B.data.toList, numO C.data.toList, numO D.data.toList with
      | some a, some b, some c, some d => some (a, b, c, d)
      | _, _, _, _ => none) else none) := hf
    obtain ⟨b, cap, rfl, hcell⟩ := hts
    have c0 := hcell 0 (by simp)
    simp only [List.getElem_cons_zero] at c0
    have HCELL : Hid (∀ j (h : j < [K, A, B, C, D].length), w1.cell? ⟨b, j, none⟩ = some (.string [K, A, B, C, D][j])) := hcell
    clear hf hw htm hwl hcell h5
    simp only [List.length_cons, List.length_nil, Nat.zero_add, Nat.reduceAdd]
    by_cases hk : K.data.toList = kb.data.toList
    · have hkb := eqBB hk
      have hal1 : Below w1.heap.size w1 (w1.alloc (.cells (arr4 []) 150)) := (Below.refl _ _).alloc (Nat.le_refl _) _
      have hA := heap_alloc_new w1 (.cells (arr4 []) 150)
      have hH1 : w.heap.size < w1.heap.size := lt_of_block HBLK.out
      have harr : arr4 [] = #[.int .i64 0, .int .i64 0, .int .i64 0, .int .i64 0] := rfl
      go_wp2
      rw [← harr]
      clear harr
      go_loopw [25] (fun k wr => ∃ (m : Nat) (zs : List Int), m ≤ 4 ∧ k = .int .i64 m ∧ zs.length = m ∧ (∀ i (hi : i < zs.length) (hi' : i + 1 < 5), numO ([K, A, B, C, D][i + 1]'hi').data.toList = some zs[i]) ∧ Below w1.heap.size w1 wr ∧ wr.heap[w1.heap.size]? = some (.cells (arr4 zs) 150 (0, 0))) (fun k _ => 4 - (intOf k).toNat)
      case atStart => exact ⟨0, [], by omega, rfl, rfl, fun i hi => by simp at hi, hal1, hA⟩
      case round =>
        clear hA hal1
        obtain ⟨m, zs, hm, rfl, hzl, hzs, hb, hblk⟩ := hrel
        have HZ : Hid (∀ i (hi : i < zs.length) (hi' : i + 1 < 5), numO ([K, A, B, C, D][i + 1]'hi').data.toList = some zs[i]) := hzs
        have HB : Hid (wr.heap[w1.heap.size]? = some (.cells (arr4 zs) 150 (0, 0))) := hblk
        have HZL : Hid (zs.length = m) := hzl
        clear hzs hblk hzl
        have hBr : Below w.heap.size w wr := hB1.trans (hb.mono hB1.size)
        have hblkr : wr.heap[w.heap.size]? = some (.cells #[.int .i64 0, .int .i64 0, .int .i64 0] 97 (0, 0)) := (hb.block _ hH1).trans HBLK.out
        have HBR : Hid (wr.heap[w.heap.size]? = some (.cells #[.int .i64 0, .int .i64 0, .int .i64 0] 97 (0, 0))) := hblkr
        clear hblkr
        by_cases hlt : m < 4
        · have hi : (m : Int) < 4 := by omega
          have hi0 : (0 : Int) ≤ (m : Int) := by omega
          have h15 : m + 1 < [K, A, B, C, D].length := by simp; omega
          have hci := below_keep hb (HCELL.out (m + 1) h15)
          have hnm := number_any ([K, A, B, C, D][m + 1]) wr a (h.below hBr) (hwz _ (List.getElem_mem _))
          unfold numR at hnm
          have hmi : (m : Int) + 1 < 5 := by omega
          cases hn : numO ([K, A, B, C, D][m + 1]).data.toList with
          | none =>
            have HNONE : Hid (headO kb.data.toList s.data.toList = none) := by
              show _ = _
              rw [HF.out, if_pos hk]
              clear hnm hci HZL
              rcases (show m = 0 ∨ m = 1 ∨ m = 2 ∨ m = 3 by omega) with rfl | rfl | rfl | rfl
              · simp only [List.getElem_cons_succ, List.getElem_cons_zero] at hn; rw [hn]
              · simp only [List.getElem_cons_succ, List.getElem_cons_zero] at hn; rw [hn]; split <;> simp_all
              · simp only [List.getElem_cons_succ, List.getElem_cons_zero] at hn; rw [hn]; split <;> simp_all
              · simp only [List.getElem_cons_succ, List.getElem_cons_zero] at hn; rw [hn]; split <;> simp_all
            rw [hn] at hnm
            dsimp only at hnm
            generalize [K, A, B, C, D][m + 1] = tw at hci hnm
            clear hn
            go_wp2_with fail
            refine hnm.mono ?_
            rintro e w3 ⟨rfl, hb3⟩
            clear hnm hci
            have hB3 : Below w.heap.size w w3 := hBr.trans (hb3.mono hBr.size)
            obtain ⟨y0, y1, y2, fz⟩ := BAD.out w3 hB3 ((hb3.block _ (lt_of_block HBR.out)).trans HBR.out)
            have s0 := setCell_self y0
            have s1 := setCell_self y1
            have s2 := setCell_self y2
            go_wp2
            exact bodyPost_ret (v := .tuple #[.agg #[.int .i64 0, .int .i64 0, .int .i64 0], .int .i64 0, .bool false]) (by simp [results, Tryz.results72, go_sem, y0, y1, y2]) rfl ⟨by unfold headR; rw [HNONE.out], hB3⟩
          | some n =>
            rw [hn] at hnm
            dsimp only at hnm
            have HN : Hid (numO ([K, A, B, C, D][m + 1]).data.toList = some n) := hn
            clear hn
            generalize htw : [K, A, B, C, D][m + 1] = tw at hci hnm HN
            have HTW : Hid ([K, A, B, C, D][m + 1] = tw) := htw
            clear htw
            go_wp2_with fail
            refine hnm.mono ?_
            rintro e w3 ⟨rfl, hb3⟩
            clear hnm hci
            have hb4 : Below w1.heap.size w1 w3 := hb.trans (hb3.mono hb.size)
            have hA3 : w3.heap[w1.heap.size]? = some (.cells (arr4 zs) 150 (0, 0)) := (hb3.block _ (lt_of_block HB.out)).trans HB.out
            have HA3 : Hid (w3.heap[w1.heap.size]? = some (.cells (arr4 zs) 150 (0, 0))) := hA3
            have hc : ∃ u, w3.cell? ⟨w1.heap.size, m, none⟩ = some u := by
              rw [cell_of_row _ _ _ _ _ _ hA3]
              match m, hlt with
              | 0, _ => exact ⟨_, rfl⟩
              | 1, _ => exact ⟨_, rfl⟩
              | 2, _ => exact ⟨_, rfl⟩
              | 3, _ => exact ⟨_, rfl⟩
            obtain ⟨u, hcu⟩ := hc
            have hfz : w3.frozen? ⟨w1.heap.size, m, none⟩ = false := frozen_of_row _ _ _ _ _ hA3
            have hset := heap_setCell_same w3 w1.heap.size m (arr4 zs) 150 (.int .i64 n) hA3
            have HS : Hid ((w3.setCell ⟨w1.heap.size, m, none⟩ (.int .i64 n)).heap[w1.heap.size]? = some (.cells (arr4 (zs ++ [n])) 150 (0, 0))) := by
              show _ = _
              rw [hset]
              congr 2
              match zs, m, HZL.out, hlt with
              | [], _, rfl, _ => rfl
              | [z0], _, rfl, _ => rfl
              | [z0, z1], _, rfl, _ => rfl
              | [z0, z1, z2], _, rfl, _ => rfl
              | z0 :: z1 :: z2 :: z3 :: r, _, rfl, hlt => simp at hlt; omega
            have hb5 : Below w1.heap.size w1 (w3.setCell ⟨w1.heap.size, m, none⟩ (.int .i64 n)) := hb4.setCell (Nat.le_refl _) _
            clear hA3 hset
            go_wp2
            go_roundw
            case rel => exact ⟨m + 1, zs ++ [n], by omega, by go_num, by rw [List.length_append, HZL.out]; rfl, fun i hi hi' => by
              rcases Nat.lt_or_ge i zs.length with h' | h'
              · rw [List.getElem_append_left h']; exact HZ.out i h' hi'
              · have : i = m := by rw [List.length_append] at hi; simp at hi; have := HZL.out; omega
                subst this
                rw [List.getElem_append_right h', HTW.out, HN.out]
                simp [HZL.out], hb5, HS.out⟩
            case measure => simp [intOf]; omega
        · obtain rfl : m = 4 := by omega
          obtain ⟨z0, z1, z2, z3, hz4⟩ : ∃ z0 z1 z2 z3, zs = [z0, z1, z2, z3] := by
            match zs, HZL.out with
            | [z0, z1, z2, z3], _ => exact ⟨z0, z1, z2, z3, rfl⟩
          subst hz4
          have HSOME : Hid (headO kb.data.toList s.data.toList = some (z0, z1, z2, z3)) := by
            show _ = _
            have q0 := HZ.out 0 (by simp) (by omega)
            have q1 := HZ.out 1 (by simp) (by omega)
            have q2 := HZ.out 2 (by simp) (by omega)
            have q3 := HZ.out 3 (by simp) (by omega)
            simp only [List.getElem_cons_succ, List.getElem_cons_zero] at q0 q1 q2 q3
            rw [HF.out, if_pos hk, q0, q1, q2, q3]
          have k0 : wr.cell? ⟨w1.heap.size, 0, none⟩ = some (.int .i64 z0) := by rw [cell_of_row _ _ _ _ _ _ HB.out]; rfl
          have k1 : wr.cell? ⟨w1.heap.size, 1, none⟩ = some (.int .i64 z1) := by rw [cell_of_row _ _ _ _ _ _ HB.out]; rfl
          have k2 : wr.cell? ⟨w1.heap.size, 2, none⟩ = some (.int .i64 z2) := by rw [cell_of_row _ _ _ _ _ _ HB.out]; rfl
          have k3 : wr.cell? ⟨w1.heap.size, 3, none⟩ = some (.int .i64 z3) := by rw [cell_of_row _ _ _ _ _ _ HB.out]; rfl
          obtain ⟨y0, y1, y2, fz⟩ := BAD.out wr hBr HBR.out
          have hne1 : ¬ w1.heap.size = w.heap.size := by omega
          have hne2 : ¬ w.heap.size = w1.heap.size := by omega
          go_wp2
          go_region
          go_wp2
          refine bodyPost_ret (v := .tuple #[.agg #[.int .i64 z0, .int .i64 z1, .int .i64 z2], .int .i64 z3, .bool true]) (by simp [results, Tryz.results72, go_sem, y0, y1, y2]) rfl ⟨by unfold headR; rw [HSOME.out], ?_⟩
          exact (((hBr.setCell (by simp) _).setCell (by simp) _).setCell (by simp) _).drew
    · have hkb := neBB hk
      have HNONE : Hid (headO kb.data.toList s.data.toList = none) := by
        show _ = _
        rw [HF.out, if_neg hk]
      obtain ⟨y0, y1, y2, fz⟩ := BAD.out w1 hB1 HBLK.out
      have s0 := setCell_self y0
      have s1 := setCell_self y1
      have s2 := setCell_self y2
      go_wp2
      exact bodyPost_ret (v := .tuple #[.agg #[.int .i64 0, .int .i64 0, .int .i64 0], .int .i64 0, .bool false]) (by simp [results, Tryz.results72, go_sem, y0, y1, y2]) rfl ⟨by unfold headR; rw [HNONE.out], hB1⟩
  · have HNONE : Hid (headO kb.data.toList s.data.toList = none) := headO_other (fun e => h5 (by rw [← e, ← htm, List.length_map]))
    have hne : ¬ (ts.length : Int) = 5 := by omega
    obtain ⟨b, cap, rfl, _⟩ := hts
    obtain ⟨y0, y1, y2, fz⟩ := BAD.out w1 hB1 HBLK.out
    have s0 := setCell_self y0
    have s1 := setCell_self y1
    have s2 := setCell_self y2
    clear htm hwl h5
    go_wp2
    exact bodyPost_ret (v := .tuple #[.agg #[.int .i64 0, .int .i64 0, .int .i64 0], .int .i64 0, .bool false]) (by simp [results, Tryz.results72, go_sem, y0, y1, y2]) rfl ⟨by unfold headR; rw [HNONE.out], hB1⟩
end Go.Proofs.YtjmdgdohepodmabGreatDoor
