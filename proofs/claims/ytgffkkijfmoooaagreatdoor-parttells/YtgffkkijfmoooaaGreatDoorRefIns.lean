/-
  Plain mathematics of the document's own SortRows: a row put in its place.
-/
import Derived.Test.YtgffkkijfmoooaaGreatDoorRowLaw
namespace Go.Proofs.YtgffkkijfmoooaaGreatDoor
open Go.RowKit Go.Extern.Stop Go.Stop Go.Extern Go.Sort Go.Shelf Go.Lib

theorem sort_insert (xs O : List Rw) (x : Rw) (k : Nat) (hO : O = sortR xs) (hk : k ≤ O.length)
    (h1 : ∀ j (h : j < O.length), k ≤ j → ltOf cfR x O[j] = true) (h2 : ∀ (h : k - 1 < O.length), 0 < k → ltOf cfR x O[k - 1] = false) :
    O.take k ++ x :: O.drop k = sortR (xs ++ [x]) := by
  have hs : O.Pairwise fun x y => (!(ltOf cfR) y x) = true := by rw [hO]; exact sortR_sorted xs
  have hpr := List.pairwise_iff_getElem.1 hs
  refine List.Perm.eq_of_pairwise (le := fun x y => (!(ltOf cfR) y x) = true) (fun a b _ _ h1 h2 => ?_) ?_ (sortR_sorted _) ?_
  · simp only [Bool.not_eq_true'] at h1 h2
    exact totR a b h2 h1
  · have hs' := hs
    rw [← List.take_append_drop k O, List.pairwise_append] at hs'
    rw [List.pairwise_append]
    refine ⟨hs'.1, ?_, ?_⟩
    · rw [List.pairwise_cons]
      refine ⟨fun b hb => ?_, hs'.2.1⟩
      obtain ⟨j, hj, rfl⟩ := List.mem_iff_getElem.1 hb
      rw [List.getElem_drop]
      have hj' : k + j < O.length := by rw [List.length_drop] at hj; omega
      have h := h1 (k + j) hj' (by omega)
      cases h' : ltOf cfR O[k + j] x
      · rfl
      · have := swoR.trans _ _ _ h h'
        rw [swoR.irrefl] at this
        cases this
    · intro a ha b hb
      rw [List.mem_cons] at hb
      rcases hb with rfl | hb
      · obtain ⟨i, hi, rfl⟩ := List.mem_iff_getElem.1 ha
        rw [List.getElem_take]
        rw [List.length_take] at hi
        have hl := h2 (by omega) (by omega)
        rcases Nat.lt_or_ge i (k - 1) with h' | h'
        · have := hpr i (k - 1) (by omega) (by omega) h'
          simp only [Bool.not_eq_true'] at this ⊢
          exact swoR.ntrans _ _ _ hl this
        · obtain rfl : i = k - 1 := by omega
          simp only [Bool.not_eq_true']
          exact hl
      · exact hs'.2.2 a ha b hb
  · have p1 : (O.take k ++ x :: O.drop k).Perm (x :: (O.take k ++ O.drop k)) := List.perm_middle
    rw [List.take_append_drop] at p1
    refine p1.trans ?_
    have p2 : (x :: O).Perm (x :: xs) := by rw [hO]; exact (sortR_perm xs).cons x
    refine p2.trans ?_
    refine List.Perm.trans ?_ (sortR_perm _).symm
    exact (List.perm_append_singleton x xs).symm

theorem sort_nil : sortR [] = [] := by simp [sortR]
end Go.Proofs.YtgffkkijfmoooaaGreatDoor
