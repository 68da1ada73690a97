/-
  The contract of row.Drop: the rows whose keys are not among the keys, in the list's order.
-/
import Derived.Test.YtgffkkijfmoooaaGreatDoorIntShelf
import Derived.Test.YtgffkkijfmoooaaGreatDoorRowCut
namespace Go.Proofs.YtgffkkijfmoooaaGreatDoor
open Go.RowKit Go.Extern.Stop Go.Stop Go.Extern Go.Sort Go.Shelf Go.Lib

/-- A slice of whole numbers, as it reads. -/
def KeysAt (w : World) (v : Value) (zs : List Int) : Prop :=
  (∃ p c, v = .slice p 0 c ∧ zs = []) ∨ ∃ b o cap, v = .slice (some ⟨b, o, none⟩) zs.length cap ∧ ∀ j (h : j < zs.length), w.cell? ⟨b, o + j, none⟩ = some (.int .i64 zs[j])

theorem KeysAt.below {w w' : World} {v : Value} {zs : List Int} (h : KeysAt w v zs) (hb : Below w.heap.size w w') : KeysAt w' v zs := by
  rcases h with h | ⟨b, o, cap, hv, hc⟩
  · exact Or.inl h
  · exact Or.inr ⟨b, o, cap, hv, fun j hj => below_keep hb (hc j hj)⟩

theorem getD_of {zs : List Int} {j : Nat} (h : j < zs.length) : zs.getD j 0 = zs[j] := by simp [List.getD, List.getElem?_eq_getElem h]

theorem cloneInts_any (v : Value) (zs : List Int) (w : World) (h : KeysAt w v zs) (hl : zs.length ≤ 1000) :
    Calls Tryz.prog 45 #[v] w fun e w' => ∃ v', e = .returned v' ∧ w'.ownsRow w.heap.size 3 1 v' zs.length (zs.map (Value.int .i64)) ∧ Below w.heap.size w w' := by
  rcases h with ⟨p, c, rfl, rfl⟩ | ⟨b, o, cap, rfl, hc⟩
  · cases p with
    | none =>
      refine (Tryz.slices_Clone_int_nil 0 c w).mono fun e w' ⟨he, hw⟩ => ⟨_, he, World.ownsRow_nil _ _ _ _, ?_⟩
      subst hw; exact Below.refl _ _
    | some ad => exact (Tryz.slices_Clone_int_zero ad c w).mono fun e w' ⟨v', he, ho, _, hb⟩ => ⟨v', he, ho, hb⟩
  · refine (Tryz.slices_Clone_int b o zs.length cap zs w (Nat.le_refl _) (by omega) (fun j hj => by rw [getD_of hj]; exact hc j hj)).mono fun e w' ⟨v', he, ho, _, hb⟩ => ⟨v', he, ?_, hb⟩
    rw [List.take_length] at ho
    exact ho

/-- The keys, rising. -/
def sortZ (zs : List Int) : List Int := zs.mergeSort fun x y => decide (x ≤ y)
theorem sortZ_len (zs : List Int) : (sortZ zs).length = zs.length := by simp [sortZ]
theorem sortZ_mem (zs : List Int) (x : Int) : x ∈ sortZ zs ↔ x ∈ zs := (List.mergeSort_perm _ _).mem_iff
theorem sortZ_sorted (zs : List Int) : (sortZ zs).Pairwise (· ≤ ·) := by
  have h := List.pairwise_mergeSort (le := fun x y : Int => decide (x ≤ y)) (fun a b c h1 h2 => by simp at *; omega) (fun a b => by simp; omega) zs
  exact h.imp fun h => by simpa using h

/-- slices.Sort of whole numbers of the call's own; a cell of another block, there before, stays. -/
theorem sortInts_any (v : Value) (zs : List Int) (B : Nat) (w0 w : World) (hb : Below B w0 w) (hB : B ≤ w0.heap.size) (h : w.ownsRow B 3 1 v zs.length (zs.map (Value.int .i64))) (hl : zs.length ≤ 1000) (c : Nat) (u : Value) (hc : w.cell? ⟨c, 0, none⟩ = some u) (hne : v.ownBlock ≠ some c) :
    Calls Tryz.prog 46 #[v] w fun e w' => e = .returned (.tuple #[]) ∧ KeysAt w' v (sortZ zs) ∧ Below B w0 w' ∧ w'.cell? ⟨c, 0, none⟩ = some u := by
  by_cases hv : v = .slice none 0 0
  · subst hv
    have hx : zs = [] := by
      rcases h.2 with ⟨_, hn⟩ | ⟨g, cap, cur, e, _⟩
      · exact List.length_eq_zero_iff.1 hn
      · cases e
    subst hx
    have hcon := AnyM.slices_Sort_int_none Tryz.sortInt none 0 w
    change Calls Tryz.prog 46 _ _ _ at hcon
    refine hcon.mono fun e w' ⟨he, hw⟩ => ⟨he, Or.inl ⟨none, 0, rfl, by simp [sortZ]⟩, ?_, ?_⟩
    · subst hw; exact hb
    · subst hw; exact hc
  · obtain ⟨g, cap, rfl, hbg, hlt, hn, hm, hlen, hH⟩ := holds_of_ownsRow h hv
    have hcon := AnyM.slices_Sort_int Tryz.sortInt g 0 cap zs w hH hlt (by omega)
    change Calls Tryz.prog 46 _ _ _ at hcon
    have hgc : c ≠ g := fun e => hne (by simp [Value.ownBlock, e])
    refine hcon.mono fun e w' ⟨he, n, os, hw⟩ => ⟨he, ?_, ?_, ?_⟩
    · subst hw
      refine Or.inr ⟨g, 0, cap, by rw [sortZ_len], fun j hj => ?_⟩
      have hH2 := holds_grow (Value.int .i64) _ os g 0 (sortZ zs).toArray (by simpa [putRow, mapBlock, Sort.ahead] using hlt) (holds_putRow (Value.int .i64) (Sort.ahead w n) g 0 zs.toArray (sortZ zs).toArray hH (by simp [sortZ_len]))
      have := (hH2 j (by simpa using hj)).1
      rw [show ((sortZ zs).toArray)[j]! = (sortZ zs)[j] by simp [getElem!_pos, hj]] at this
      exact this
    · subst hw
      have h1 : Below B w0 (putRow (Value.int .i64) (Sort.ahead w n) g 0 (zs.mergeSort fun x y => decide (x ≤ y)).toArray) := below_putRow hb hbg
      exact h1.trans ((below_grow os).mono (Nat.le_trans hB h1.size))
    · subst hw
      have hcl : c < w.heap.size := cell_lt hc
      rw [cell?_grow _ _ _ (by simpa [putRow, mapBlock, Sort.ahead] using hcl), cell?_putRow_other _ _ _ _ _ _ (Or.inl hgc)]
      exact hc

/-- Its key is none of them. -/
def outB (zs : List Int) (x : Rw) : Bool := !zs.contains x.2.1

theorem contains_sortZ (zs : List Int) (x : Int) : (sortZ zs).contains x = zs.contains x := by
  rw [Bool.eq_iff_iff]; simp [sortZ_mem]

theorem search_any (v : Value) (zs : List Int) (x : Int) (w : World) (h : KeysAt w v (sortZ zs)) (hl : zs.length ≤ 1000) :
    Calls Tryz.prog 49 #[v, .int .i64 x] w fun e w' => (∃ i, e = .returned (.tuple #[.int .i64 i, .bool (zs.contains x)])) ∧ Below w.heap.size w w' := by
  rcases h with ⟨p, c, rfl, hz⟩ | ⟨b, o, cap, rfl, hc⟩
  · have hz' : zs = [] := List.length_eq_zero_iff.1 (by rw [← sortZ_len, hz]; rfl)
    subst hz'
    refine (Tryz.slices_BinarySearch_int_empty p c x w).mono fun e w' ⟨he, hw⟩ => ⟨⟨0, he⟩, ?_⟩
    subst hw; exact Below.refl _ _
  · refine (Tryz.slices_BinarySearch_int b o (sortZ zs).length cap (sortZ zs) x w (Nat.le_refl _) (by rw [sortZ_len]; omega) (fun j hj => by rw [getD_of hj]; exact hc j hj) (by rw [List.take_length]; exact sortZ_sorted zs)).mono fun e w' ⟨he, q, hw⟩ => ?_
    rw [List.take_length, contains_sortZ] at he
    subst hw
    exact ⟨⟨_, he⟩, drewN_below w q⟩

set_option maxHeartbeats 1000000 in
theorem drop1_any (x : Rw) (v : Value) (zs : List Int) (a : Addr) (w : World) (ha : w.cell? a = some v) (hv : KeysAt w v (sortZ zs)) (hl : zs.length ≤ 1000) :
    Calls Tryz.prog 48 #[.agg #[.string x.1, .int .i64 x.2.1, .int .i64 x.2.2], .pointer (some a)] w fun e w' => e = .returned (.bool (outB zs x)) ∧ Below w.heap.size w w' := by
  obtain ⟨xp, xk, xv⟩ := x
  dsimp only
  have hb : Below w.heap.size w (w.alloc (.cells #[.string xp, .int .i64 xk, .int .i64 xv] 30)) := (Below.refl _ _).alloc (Nat.le_refl _) _
  have ha' := below_keep hb ha
  have hs := search_any v zs xk _ (hv.below hb) hl
  unfold outB
  dsimp only
  generalize zs.contains xk = r at hs ⊢
  clear hv ha
  go_enter Tryz.func48, Tryz.ntmps48
  go_wp2_with (go_at_call 49; refine hs.mono ?_; rintro e w2 ⟨⟨i, rfl⟩, hb2⟩)
  go_ret
  exact ⟨rfl, hb.trans (hb2.mono hb.size)⟩

set_option maxHeartbeats 1000000 in
theorem drop_any (v kv : Value) (xs : List Rw) (zs : List Int) (w : World) (hx : RowsAt w v xs) (hz : KeysAt w kv zs) (hl : xs.length ≤ 1000) (hlz : zs.length ≤ 1000) :
    Calls Tryz.prog 15 #[v, kv] w fun e w' => ∃ v', e = .returned v' ∧ RowsAt w' v' (xs.filter (outB zs)) ∧ Below w.heap.size w w' := by
  have hclone := cloneInts_any kv zs w hz hlz
  have eg : ∀ args w, (callFunc 48 args).run Tryz.prog w = .ok (.enter 48 args) w := enters_of Tryz.func48 (by kernel_rfl) rfl
  go_enter Tryz.func15, Tryz.ntmps15
  go_wp2_with fail
  refine hclone.mono ?_
  rintro e w1 ⟨v1, rfl, ho, hb1⟩
  obtain ⟨p1, n1, c1, rfl⟩ : ∃ p n c, v1 = .slice p n c := by
    rcases ho.2 with ⟨e, _⟩ | ⟨g, cap, cur, e, _⟩
    · exact ⟨_, _, _, e⟩
    · exact ⟨_, _, _, e⟩
  have hbA : Below w.heap.size w (w1.alloc (.cells #[.slice p1 n1 c1] 23)) := hb1.alloc hb1.size _
  have hal : Below w1.heap.size w1 (w1.alloc (.cells #[.slice p1 n1 c1] 23)) := (Below.refl _ _).alloc (Nat.le_refl _) _
  have hne : (Value.slice p1 n1 c1).ownBlock ≠ some w1.heap.size := by
    rcases ho.2 with ⟨e, _⟩ | ⟨g, cap, cur, e, _, hg, _⟩
    · rw [e]; simp [Value.ownBlock]
    · rw [e]
      have hlt : g < w1.heap.size := by
        rcases Nat.lt_or_ge g w1.heap.size with h' | h'
        · exact h'
        · rw [Array.getElem?_eq_none h'] at hg; cases hg
      simp [Value.ownBlock]; omega
  have hsort := sortInts_any (.slice p1 n1 c1) zs w.heap.size w _ hbA (Nat.le_refl _) (own_below ho hal) hlz w1.heap.size (.slice p1 n1 c1) (by simp) hne
  clear ho hne hclone hz
  go_wp2_with fail
  refine hsort.mono ?_
  rintro e w3 ⟨rfl, hk3, hb3, hc3⟩
  have hcut := cut_any v xs 48 #[.pointer (some ⟨w1.heap.size, 0, none⟩)] (outB zs) w3 eg (hx.below hb3) hl
    (fun x W hW => drop1_any x (.slice p1 n1 c1) zs ⟨w1.heap.size, 0, none⟩ W (below_keep hW hc3) (hk3.below hW) hlz)
  clear hk3 hsort hx eg
  go_wp2_with (go_at_call 47; refine hcut.mono ?_; rintro e w4 ⟨v4, rfl, hr, hb4⟩)
  go_ret
  exact ⟨_, rfl, hr, hb3.trans (hb4.mono hb3.size)⟩
end Go.Proofs.YtgffkkijfmoooaaGreatDoor
