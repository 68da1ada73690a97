/-
  Rows laid flat: their cells, one behind the other; a slice of the call's own; the sort's row.
  The contracts of row.Sort, row.Less and row.Same: a new list, the rows in order; is one ahead of the other; are they the same, sorted.
-/
import Derived.Test.YtgffkkijfmoooaaGreatDoorRowMem
import Derived.Shelf.GgSortFunc.RowK
import Derived.Test.YtgffkkijfmoooaaGreatDoorSortShelf
import Derived.Lib.OwnBridge
namespace Go.Proofs.YtgffkkijfmoooaaGreatDoor
open Go.RowKit Go.Extern.Stop Go.Stop Go.Extern Go.Sort Go.Shelf Go.Lib

def flatR (xs : List Rw) : List Value := xs.flatMap encR

theorem encR_len (x : Rw) : (encR x).length = 3 := rfl
theorem encR_one (x : Rw) : ∀ u ∈ encR x, u.oneCell' = true := by
  intro u hu
  simp only [encR, List.mem_cons, List.not_mem_nil, or_false] at hu
  rcases hu with rfl | rfl | rfl <;> rfl

theorem flat_len : ∀ xs : List Rw, (flatR xs).length = xs.length * 3
  | [] => rfl
  | x :: xs => by
    have := flat_len xs
    simp only [flatR, List.flatMap_cons, List.length_append, List.length_cons] at *
    rw [this, encR_len]; omega

theorem flat_one (xs : List Rw) : ∀ u ∈ flatR xs, u.oneCell' = true := by
  intro u hu
  simp only [flatR, List.mem_flatMap] at hu
  obtain ⟨x, _, hx⟩ := hu
  exact encR_one x u hx

theorem flat_append (xs ys : List Rw) : flatR (xs ++ ys) = flatR xs ++ flatR ys := by simp [flatR]

theorem flat_get : ∀ (xs : List Rw) (j c : Nat) (h : j < xs.length), c < 3 → (flatR xs)[j * 3 + c]? = (encR xs[j])[c]?
  | [], j, _, h, _ => by simp at h
  | x :: xs, 0, c, _, hc => by
    simp only [flatR, List.flatMap_cons, Nat.zero_mul, Nat.zero_add, List.getElem_cons_zero]
    rw [List.getElem?_append_left (by rw [encR_len]; exact hc)]
  | x :: xs, j + 1, c, h, hc => by
    have hj : j < xs.length := by simp at h; omega
    have := flat_get xs j c hj hc
    simp only [flatR, List.flatMap_cons, List.getElem_cons_succ] at *
    rw [List.getElem?_append_right (by rw [encR_len]; omega), encR_len, show (j + 1) * 3 + c - 3 = j * 3 + c by omega]
    exact this

theorem cells_of_flat {w : World} {b o : Nat} {xs : List Rw} (h : RowCells w b o xs) : ∀ t u, (flatR xs)[t]? = some u → w.cell? ⟨b, o + t, none⟩ = some u := by
  intro t u hu
  have ht : t < (flatR xs).length := by
    rcases Nat.lt_or_ge t (flatR xs).length with h' | h'
    · exact h'
    · rw [List.getElem?_eq_none h'] at hu; cases hu
  rw [flat_len] at ht
  have hj : t / 3 < xs.length := by omega
  have e : t = t / 3 * 3 + t % 3 := by omega
  rw [e, flat_get xs (t / 3) (t % 3) hj (by omega)] at hu
  obtain ⟨h0, h1, h2⟩ := h (t / 3) hj
  have hm : t % 3 = 0 ∨ t % 3 = 1 ∨ t % 3 = 2 := by omega
  rcases hm with hm | hm | hm
  · rw [hm] at hu
    simp only [encR, List.getElem?_cons_zero, Option.some.injEq] at hu
    rw [← hu, ← h0]; congr 2; omega
  · rw [hm] at hu
    simp only [encR, List.getElem?_cons_succ, List.getElem?_cons_zero, Option.some.injEq] at hu
    rw [← hu, ← h1]; congr 2; omega
  · rw [hm] at hu
    simp only [encR, List.getElem?_cons_succ, List.getElem?_cons_zero, Option.some.injEq] at hu
    rw [← hu, ← h2]; congr 2; omega

theorem rowCells_of {w : World} {b o : Nat} {xs : List Rw} (h : ∀ t u, (flatR xs)[t]? = some u → w.cell? ⟨b, o + t, none⟩ = some u) : RowCells w b o xs := fun j hj =>
  ⟨h (j * 3) _ (by have := flat_get xs j 0 hj (by omega); simpa [encR] using this),
   by have := h (j * 3 + 1) _ (by have := flat_get xs j 1 hj (by omega); simpa [encR] using this); rw [← Nat.add_assoc] at this; exact this,
   by have := h (j * 3 + 2) _ (by have := flat_get xs j 2 hj (by omega); simpa [encR] using this); rw [← Nat.add_assoc] at this; exact this⟩

/-- A row of the call's own: nil, or where it lies. -/
theorem own_cases {w : World} {base : Nat} {v : Value} {n : Nat} {xs : List Rw} (h : w.ownsRow base 30 3 v n (flatR xs)) : n = xs.length ∧ ((v = .slice none 0 0 ∧ xs = []) ∨ ∃ g cap, v = .slice (some ⟨g, 0, none⟩) xs.length cap ∧ RowCells w g 0 xs) := by
  obtain ⟨hl, h⟩ := h
  have hn : n = xs.length := by rw [flat_len] at hl; omega
  refine ⟨hn, ?_⟩
  subst hn
  rcases h with ⟨hv, hn⟩ | ⟨g, cap, cur, rfl, _, hg, _, _, _, ht⟩
  · exact Or.inl ⟨hv, List.length_eq_zero_iff.1 hn⟩
  · refine Or.inr ⟨g, cap, rfl, rowCells_of fun t u hu => ?_⟩
    have ht' : t < xs.length * 3 := by
      rw [← flat_len]
      rcases Nat.lt_or_ge t (flatR xs).length with h' | h'
      · exact h'
      · rw [List.getElem?_eq_none h'] at hu; cases hu
    rw [← ht, List.getElem?_take, if_pos ht'] at hu
    simp only [World.cell?, hg, Nat.zero_add]
    simpa using hu

/-- A row of the call's own reads as the rows. -/
theorem rowsAt_of_own {w : World} {base : Nat} {v : Value} {n : Nat} {xs : List Rw} (h : w.ownsRow base 30 3 v n (flatR xs)) : RowsAt w v xs ∧ n = xs.length := by
  obtain ⟨hn, h⟩ := own_cases h
  refine ⟨?_, hn⟩
  rcases h with ⟨hv, hx⟩ | ⟨g, cap, hv, hc⟩
  · exact Or.inl ⟨none, 0, hv, hx⟩
  · exact Or.inr ⟨g, 0, cap, hv, hc⟩

theorem flatK_flatR (xs : List Rw) : flatK encR 3 xs.toArray = (flatR xs).toArray := by
  refine ext_get! (by simp [flat_len]) fun t ht => ?_
  simp only [size_flatK, List.size_toArray] at ht
  rw [get_flatK _ _ _ _ (by simpa using ht)]
  have hj : t / 3 < xs.length := by omega
  have := flat_get xs (t / 3) (t % 3) hj (by omega)
  rw [show t / 3 * 3 + t % 3 = t by omega] at this
  simp only [List.getElem!_toArray, List.getElem!_eq_getElem?_getD, this]
  rw [List.getElem?_eq_getElem hj]
  rfl
end Go.Proofs.YtgffkkijfmoooaaGreatDoor
namespace Go.Proofs.YtgffkkijfmoooaaGreatDoor
open Go.RowKit Go.Extern.Stop Go.Stop Go.Extern Go.Sort Go.Shelf Go.Lib

/-- The rows in order. -/
def sortR (xs : List Rw) : List Rw := xs.mergeSort fun x y => !(ltOf cfR) y x

theorem sortR_len (xs : List Rw) : (sortR xs).length = xs.length := by simp [sortR]
theorem sortR_perm (xs : List Rw) : (sortR xs).Perm xs := List.mergeSort_perm _ _

theorem order_lays (blk off size : Nat) (w : World) : CmpLays Tryz.prog 43 #[] encR 3 cfR blk off size w :=
  fun _ _ _ _ x y => order_any x y _

theorem holdsK_of_own {w : World} {base : Nat} {v : Value} {n : Nat} {xs : List Rw} (h : w.ownsRow base 30 3 v n (flatR xs)) (hv : v ≠ .slice none 0 0) :
    ∃ g cap, v = .slice (some ⟨g, 0, none⟩) xs.length cap ∧ base ≤ g ∧ g < w.heap.size ∧ HoldsK encR 3 w g 0 xs.toArray := by
  obtain ⟨hl, h⟩ := h
  have hn : n = xs.length := by rw [flat_len] at hl; omega
  subst hn
  rcases h with ⟨e, _⟩ | ⟨g, cap, cur, rfl, hb, hg, _, _, _, ht⟩
  · exact absurd e hv
  · have hlt : g < w.heap.size := by
      rcases Nat.lt_or_ge g w.heap.size with h' | h'
      · exact h'
      · rw [Array.getElem?_eq_none h'] at hg; cases hg
    refine ⟨g, cap, rfl, hb, hlt, ?_⟩
    unfold HoldsK
    rw [flatK_flatR]
    intro j hj
    have hj' : j < xs.length * 3 := by simpa [flat_len] using hj
    refine ⟨?_, by simp [World.frozen?, hg]⟩
    have e1 : (cur.toList.take (xs.length * 3))[j]? = (flatR xs)[j]? := by rw [ht]
    rw [List.getElem?_take, if_pos hj', Array.getElem?_toList] at e1
    simp only [World.cell?, hg, Nat.zero_add]
    simp only [Option.isSome_none, Bool.false_eq_true, if_false]
    rw [e1]
    have hj2 : j < (flatR xs).length := by rw [flat_len]; exact hj'
    simp [List.getElem?_eq_getElem hj2]

theorem rowCells_of_holdsK {w : World} {g : Nat} {xs : List Rw} (h : HoldsK encR 3 w g 0 xs.toArray) : RowCells w g 0 xs := by
  refine rowCells_of fun t u hu => ?_
  have ht : t < (flatR xs).length := by
    rcases Nat.lt_or_ge t (flatR xs).length with h' | h'
    · exact h'
    · rw [List.getElem?_eq_none h'] at hu; cases hu
  unfold HoldsK at h
  rw [flatK_flatR] at h
  have := (h t (by simpa using ht)).1
  rw [this]
  rw [List.getElem?_eq_getElem ht] at hu
  simpa [List.getElem?_eq_getElem ht] using hu

theorem Tryz.rowInfo3 : (Tryz.prog.info? 30).map (fun i => (i.zero, i.size, i.bytes)) = some (some (.agg #[.string ⟨#[]⟩, .int .i64 0, .int .i64 0]), 3, 32) := by kernel_rfl
theorem Tryz.rowInfo : ∃ i0 : TypeInfo, Tryz.prog.info? 30 = some i0 ∧ i0.zero = some (.agg #[.string ⟨#[]⟩, .int .i64 0, .int .i64 0]) ∧ i0.size = 3 ∧ i0.bytes = 32 := by
  obtain ⟨i, hi, h⟩ := Option.map_eq_some_iff.1 Tryz.rowInfo3
  simp only [Prod.mk.injEq] at h
  exact ⟨i, hi, h.1, h.2.1, h.2.2⟩

set_option maxRecDepth 100000 in
set_option maxHeartbeats 1000000 in
/-- slices.Clone of no row, wherever the slice points. -/
theorem clone_zero (ad : Addr) (c : Nat) (w : World) :
    Calls Tryz.prog 41 #[.slice (some ad) 0 c] w fun e w' => ∃ v', e = .returned v' ∧ w'.ownsRow w.heap.size 30 3 v' ([] : List Rw).length (flatR []) ∧ Below w.heap.size w w' := by
  obtain ⟨i0, hi, hz, hs, hby⟩ := Tryz.rowInfo
  have q22 : ∀ (w : World) (a : Option Addr) (n c n' c' : Nat), (binOp .eql 22 (.slice a n c) (.slice none n' c')).run Tryz.prog w = .ok (.bool a.isNone) w := fun w a n c n' c' => Lib.run_eql_slice_nil w _ _ a n c n' c' Tryz.underlying22
  go_enter Tryz.func41, Tryz.ntmps41
  go_wp2_with (at_builtin; refine wpList_append_own _ rfl _ _ 22 rfl w.heap.size 30 i0 (.agg #[.string ⟨#[]⟩, .int .i64 0, .int .i64 0]) 3 32 Tryz.underlying22 hi hz hs hby rfl (by decide) _ _ _ rfl (World.ownsRow_made w #[] 0 (Nat.le_refl _) (Nat.zero_le _) (by simp)) ad 0 c [] rfl ?qc1 ?qc2 ?qc3 ?qc4 ?qc5 ?qc6 ?_)
  case qc1 => rfl
  case qc2 => intro j u hj; simp at hj
  case qc3 => intro u hu; cases hu
  case qc4 => decide
  case qc5 => decide
  case qc6 => simp
  intro v' w1 hown hgrow hnil
  go_wp2
  go_ret
  refine ⟨v', rfl, by simpa [flatR] using hown, ?_⟩
  exact ((Below.refl _ w).alloc (Nat.le_refl _) _).grown hgrow (by simp) (by intro k hk; simp [Value.ownBlock] at hk; omega)

/-- slices.Clone of rows. -/
theorem clone_any (v : Value) (xs : List Rw) (w : World) (h : RowsAt w v xs) (hl : xs.length ≤ 1000) :
    Calls Tryz.prog 41 #[v] w fun e w' => ∃ v', e = .returned v' ∧ w'.ownsRow w.heap.size 30 3 v' xs.length (flatR xs) ∧ Below w.heap.size w w' := by
  rcases h with ⟨p, c, rfl, rfl⟩ | ⟨b, o, cap, rfl, hc⟩
  · cases p with
    | none =>
      have hcon := AnyE.slices_Clone_nil Tryz.cloneRow 0 c w
      change Calls Tryz.prog 41 _ _ _ at hcon
      refine hcon.mono fun e w' ⟨he, hw⟩ => ⟨_, he, ?_, ?_⟩
      · exact World.ownsRow_nil _ _ _ _
      · subst hw; exact Below.refl _ _
    | some ad => exact clone_zero ad c w
  · obtain ⟨i0, hi, hz, hs, hby⟩ := Tryz.rowInfo
    have hcon := AnyE.slices_Clone Tryz.cloneRow i0 _ 3 32 hi hz hs hby rfl (by decide) Tryz.sizeOf30 b o xs.length cap (flatR xs) w (flat_len xs) (by unfold maxLen; omega) (by omega) (cells_of_flat hc) (flat_one xs)
    change Calls Tryz.prog 41 _ _ _ at hcon
    exact hcon.mono fun e w' ⟨v', he, ho, _, hb⟩ => ⟨v', he, ho, hb⟩

/-- slices.SortFunc of rows of the call's own. -/
theorem sortFunc_any (v : Value) (xs : List Rw) (B : Nat) (w0 w : World) (hb : Below B w0 w) (hB : B ≤ w0.heap.size) (h : w.ownsRow B 30 3 v xs.length (flatR xs)) (hl : xs.length ≤ 1000) :
    Calls Tryz.prog 42 #[v, .func (.func 43) #[] #[]] w fun e w' => e = .returned (.tuple #[]) ∧ RowsAt w' v (sortR xs) ∧ Below B w0 w' := by
  by_cases hv : v = .slice none 0 0
  · subst hv
    have hx : xs = [] := by
      rcases h.2 with ⟨_, hn⟩ | ⟨g, cap, cur, e, _⟩
      · exact List.length_eq_zero_iff.1 hn
      · cases e
    subst hx
    have hcon := AnyF.slices_SortFunc_none Tryz.sortRow none 0 (.func (.func 43) #[] #[]) w
    change Calls Tryz.prog 42 _ _ _ at hcon
    refine hcon.mono fun e w' ⟨he, hw⟩ => ⟨he, Or.inl ⟨none, 0, rfl, by simp [sortR]⟩, ?_⟩
    subst hw; exact hb
  · obtain ⟨g, cap, rfl, hbg, hlt, hH⟩ := holdsK_of_own h hv
    have eg : ∀ args w, (callFunc 43 args).run Tryz.prog w = .ok (.enter 43 args) w := enters_of Tryz.func43 (by kernel_rfl) rfl
    have hcon := AnyQ.slices_SortFunc_total Tryz.sortRow 3 Tryz.isAgg30 Tryz.sizeOf30 encR encR_len encR_one cfR swoR 43 #[] g 0 cap xs.toArray w eg (order_lays _ _ _ _) hH hlt (by simp; omega) totR
    change Calls Tryz.prog 42 _ _ _ at hcon
    rw [List.size_toArray] at hcon
    refine hcon.mono fun e w' ⟨he, n, os, hw⟩ => ⟨he, ?_, ?_⟩
    · subst hw
      refine Or.inr ⟨g, 0, cap, by rw [sortR_len], rowCells_of_holdsK ?_⟩
      exact holdsK_sortWorldK encR 3 w g 0 n xs.toArray (sortR xs).toArray os hlt hH (by simp [sortR_len])
    · subst hw
      have h1 : Below B w0 (putRowK encR 3 (Sort.ahead w n) g 0 (xs.toArray.toList.mergeSort fun x y => !(ltOf cfR) y x).toArray) := below_putRow hb hbg
      exact h1.trans ((below_grow os).mono (Nat.le_trans hB h1.size))

set_option maxHeartbeats 1000000 in
theorem sort_any (v : Value) (xs : List Rw) (w : World) (h : RowsAt w v xs) (hl : xs.length ≤ 1000) :
    Calls Tryz.prog 10 #[v] w fun e w' => ∃ v', e = .returned v' ∧ RowsAt w' v' (sortR xs) ∧ Below w.heap.size w w' := by
  have hc := clone_any v xs w h hl
  clear h
  go_enter Tryz.func10, Tryz.ntmps10
  go_wp2_with (first
    | (go_at_call 41; refine hc.mono ?_; rintro e w1 ⟨v1, rfl, ho, hb⟩; have hs := sortFunc_any v1 xs w.heap.size w w1 hb (Nat.le_refl _) ho hl; clear ho)
    | (go_at_call 42; refine hs.mono ?_; rintro e w2 ⟨rfl, hr, hb2⟩))
  go_ret
  exact ⟨_, rfl, hr, hb2⟩
end Go.Proofs.YtgffkkijfmoooaaGreatDoor
