/-
  Rows laid flat: their cells, one behind the other; a slice of the call's own; the sort's row.
-/
import Derived.Test.YtmcfklkpdhgjdaaGreatDoorRowMem
import Derived.Shelf.GgSortFunc.RowK
namespace Go.Proofs.YtmcfklkpdhgjdaaGreatDoor
open Go.RowKit Go.Extern.Stop Go.Stop Go.Extern Go.Sort Go.Shelf Go.Lib

def flatR (xs : List Rw) : List Value := xs.flatMap encR

theorem encR_len (x : Rw) : (encR x).length = 3 := rfl
theorem encR_one (x : Rw) : ∀ u ∈ encR x, u.oneCell' = true := by
  intro u hu
  simp only [encR, List.mem_cons, List.not_mem_nil, or_false] at hu
  rcases hu with rfl | rfl | rfl <;> rfl

theorem flat_len : ∀ xs : List Rw, (flatR xs).length = xs.length * 3
  | [] => rfl
  | x :: xs => by
    have := flat_len xs
    simp only [flatR, List.flatMap_cons, List.length_append, List.length_cons] at *
    rw [this, encR_len]; omega

theorem flat_one (xs : List Rw) : ∀ u ∈ flatR xs, u.oneCell' = true := by
  intro u hu
  simp only [flatR, List.mem_flatMap] at hu
  obtain ⟨x, _, hx⟩ := hu
  exact encR_one x u hx

theorem flat_append (xs ys : List Rw) : flatR (xs ++ ys) = flatR xs ++ flatR ys := by simp [flatR]

theorem flat_get : ∀ (xs : List Rw) (j c : Nat) (h : j < xs.length), c < 3 → (flatR xs)[j * 3 + c]? = (encR xs[j])[c]?
  | [], j, _, h, _ => by simp at h
  | x :: xs, 0, c, _, hc => by
    simp only [flatR, List.flatMap_cons, Nat.zero_mul, Nat.zero_add, List.getElem_cons_zero]
    rw [List.getElem?_append_left (by rw [encR_len]; exact hc)]
  | x :: xs, j + 1, c, h, hc => by
    have hj : j < xs.length := by simp at h; omega
    have := flat_get xs j c hj hc
    simp only [flatR, List.flatMap_cons, List.getElem_cons_succ] at *
    rw [List.getElem?_append_right (by rw [encR_len]; omega), encR_len, show (j + 1) * 3 + c - 3 = j * 3 + c by omega]
    exact this

theorem cells_of_flat {w : World} {b o : Nat} {xs : List Rw} (h : RowCells w b o xs) : ∀ t u, (flatR xs)[t]? = some u → w.cell? ⟨b, o + t, none⟩ = some u := by
  intro t u hu
  have ht : t < (flatR xs).length := by
    rcases Nat.lt_or_ge t (flatR xs).length with h' | h'
    · exact h'
    · rw [List.getElem?_eq_none h'] at hu; cases hu
  rw [flat_len] at ht
  have hj : t / 3 < xs.length := by omega
  have e : t = t / 3 * 3 + t % 3 := by omega
  rw [e, flat_get xs (t / 3) (t % 3) hj (by omega)] at hu
  obtain ⟨h0, h1, h2⟩ := h (t / 3) hj
  have hm : t % 3 = 0 ∨ t % 3 = 1 ∨ t % 3 = 2 := by omega
  rcases hm with hm | hm | hm
  · rw [hm] at hu
    simp only [encR, List.getElem?_cons_zero, Option.some.injEq] at hu
    rw [← hu, ← h0]; congr 2; omega
  · rw [hm] at hu
    simp only [encR, List.getElem?_cons_succ, List.getElem?_cons_zero, Option.some.injEq] at hu
    rw [← hu, ← h1]; congr 2; omega
  · rw [hm] at hu
    simp only [encR, List.getElem?_cons_succ, List.getElem?_cons_zero, Option.some.injEq] at hu
    rw [← hu, ← h2]; congr 2; omega

theorem rowCells_of {w : World} {b o : Nat} {xs : List Rw} (h : ∀ t u, (flatR xs)[t]? = some u → w.cell? ⟨b, o + t, none⟩ = some u) : RowCells w b o xs := fun j hj =>
  ⟨h (j * 3) _ (by have := flat_get xs j 0 hj (by omega); simpa [encR] using this),
   by have := h (j * 3 + 1) _ (by have := flat_get xs j 1 hj (by omega); simpa [encR] using this); rw [← Nat.add_assoc] at this; exact this,
   by have := h (j * 3 + 2) _ (by have := flat_get xs j 2 hj (by omega); simpa [encR] using this); rw [← Nat.add_assoc] at this; exact this⟩

theorem flatK_flatR (xs : List Rw) : flatK encR 3 xs.toArray = (flatR xs).toArray := by
  refine ext_get! (by simp [flat_len]) fun t ht => ?_
  simp only [size_flatK, List.size_toArray] at ht
  rw [get_flatK _ _ _ _ (by simpa using ht)]
  have hj : t / 3 < xs.length := by omega
  have := flat_get xs (t / 3) (t % 3) hj (by omega)
  rw [show t / 3 * 3 + t % 3 = t by omega] at this
  simp only [List.getElem!_toArray, List.getElem!_eq_getElem?_getD, this]
  rw [List.getElem?_eq_getElem hj]
  rfl
end Go.Proofs.YtmcfklkpdhgjdaaGreatDoor
