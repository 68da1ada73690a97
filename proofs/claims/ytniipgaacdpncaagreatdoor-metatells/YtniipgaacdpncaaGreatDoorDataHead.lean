/-
  The contracts of head.count and head.text: one line more, and a file's first line.
-/
import Derived.Test.YtniipgaacdpncaaGreatDoorDataPure
import Derived.Test.YtniipgaacdpncaaGreatDoorDataShelf
import Derived.Test.YtniipgaacdpncaaGreatDoorCrcPure
import Derived.Test.YtniipgaacdpncaaGreatDoorRowRead
import Derived.Laws.BitsAll
import Derived.Laws.BitsAllLaws
import Derived.Laws.Rows
import Derived.Laws.CopyRow
import Derived.Laws.Tables
import Derived.Test.YtniipgaacdpncaaGreatDoorSortsWalk
import Derived.Test.YtniipgaacdpncaaGreatDoorRowNums
import Derived.BigRegion
import Derived.Test.YtniipgaacdpncaaGreatDoorPartRead
import Derived.Lib.ItoaMem
import Derived.Lib.QuietBelow
import Derived.BigQuiet
import Derived.OneCell
import Derived.Deep.RegionHeld3
import Derived.Lib.JoinLaws
namespace Go.Proofs.YtniipgaacdpncaaGreatDoor
open Go.RowKit Go.Extern.Stop Go.Stop Go.Extern Go.Sort Go.Shelf Go.Lib

theorem bytes_len (l : List UInt8) : (bytesOf l).size = l.length := by rw [← size_list]; simp [bytesOf]

theorem ends_snoc (zs : List Int) (k : Int) (h : zs ≠ []) : endsZ (zs ++ [k]) = (if k < (endsZ zs).1 then k else (endsZ zs).1, if (endsZ zs).2 < k then k else (endsZ zs).2) := by
  cases zs with
  | nil => exact absurd rfl h
  | cons z r =>
    show ((r ++ [k]).foldl _ z, (r ++ [k]).foldl _ z) = _
    rw [List.foldl_append, List.foldl_append]
    rfl
theorem ends_one (k : Int) : endsZ [k] = (k, k) := rfl

/-- A head's block with other numbers. -/
def headW (W : World) (g : Nat) (n : Nat) (E : Int × Int) : World := ((W.setCell ⟨g, 1, none⟩ (.int .i64 E.1)).setCell ⟨g, 2, none⟩ (.int .i64 E.2)).setCell ⟨g, 0, none⟩ (.int .i64 n)

/-- One key more. -/
def endsP (n : Nat) (E : Int × Int) (key : Int) : Int × Int := if n = 0 then (key, key) else (if key < E.1 then key else E.1, if E.2 < key then key else E.2)

theorem ends_more (zs : List Int) (key : Int) : endsZ (zs ++ [key]) = endsP zs.length (endsZ zs) key := by
  unfold endsP
  by_cases h : zs = []
  · subst h; rfl
  · rw [ends_snoc _ _ h, if_neg (fun e => h (List.length_eq_zero_iff.1 e))]

theorem headW_other (W : World) (g m j : Nat) (E' : Int × Int) (hj : j ≠ g) : (headW W g m E').heap[j]? = W.heap[j]? := by
  unfold headW
  rw [heap_setCell_other _ _ _ _ hj, heap_setCell_other _ _ _ _ hj, heap_setCell_other _ _ _ _ hj]
theorem headW_size (W : World) (g m : Nat) (E' : Int × Int) : (headW W g m E').heap.size = W.heap.size := by
  unfold headW; simp [World.setCell]
theorem headW_below {W W0 : World} {B g m : Nat} {E' : Int × Int} (h : Below B W0 W) (hg : B ≤ g) : Below B W0 (headW W g m E') := ((h.setCell hg _).setCell hg _).setCell hg _

end Go.Proofs.YtniipgaacdpncaaGreatDoor
