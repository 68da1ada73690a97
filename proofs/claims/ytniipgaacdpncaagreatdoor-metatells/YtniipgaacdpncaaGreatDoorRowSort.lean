/-
  The contracts of row.Sort, row.Less and row.Same: a new list, the rows in order; is one ahead of the other; are they the same, sorted.
-/
import Derived.Test.YtniipgaacdpncaaGreatDoorRowFlat
import Derived.Lib.OwnBridge
namespace Go.Proofs.YtniipgaacdpncaaGreatDoor
open Go.RowKit Go.Extern.Stop Go.Stop Go.Extern Go.Sort Go.Shelf Go.Lib

/-- The rows in order. -/
def sortR (xs : List Rw) : List Rw := xs.mergeSort fun x y => !(ltOf cfR) y x

theorem sortR_len (xs : List Rw) : (sortR xs).length = xs.length := by simp [sortR]
theorem sortR_perm (xs : List Rw) : (sortR xs).Perm xs := List.mergeSort_perm _ _

theorem rowCells_of_holdsK {w : World} {g : Nat} {xs : List Rw} (h : HoldsK encR 3 w g 0 xs.toArray) : RowCells w g 0 xs := by
  refine rowCells_of fun t u hu => ?_
  have ht : t < (flatR xs).length := by
    rcases Nat.lt_or_ge t (flatR xs).length with h' | h'
    · exact h'
    · rw [List.getElem?_eq_none h'] at hu; cases hu
  unfold HoldsK at h
  rw [flatK_flatR] at h
  have := (h t (by simpa using ht)).1
  rw [this]
  rw [List.getElem?_eq_getElem ht] at hu
  simpa [List.getElem?_eq_getElem ht] using hu

end Go.Proofs.YtniipgaacdpncaaGreatDoor
