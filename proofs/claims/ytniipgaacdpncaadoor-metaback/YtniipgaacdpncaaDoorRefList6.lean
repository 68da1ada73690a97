/-
  The contracts of the document's own AddOf and RemoveOf.
-/
import Derived.Test.YtniipgaacdpncaaDoorRefList4
import Derived.Deep.CutBlock
namespace Go.Proofs.YtniipgaacdpncaaDoor
open Go.RowKit Go.Extern.Stop Go.Stop Go.Extern Go.Sort Go.Shelf Go.Lib

/-- What adding a file to a list answers: an error's number (0: none), and where. -/
def addE (fs : List Fl) (f : Fl) : Nat × Option Nat := if (listE fs).1 ≠ 0 then listE fs else if fileE f ≠ 0 then (fileE f, none) else if 0 ≤ findF fs f.1 then (7, none) else if 60 ≤ fs.length then (8, none) else (0, none)
def addL (fs : List Fl) (f : Fl) : List Fl := if (addE fs f).1 = 0 then placeL fs f else []
/-- What removing a path answers. -/
def remE (fs : List Fl) (p : ByteArray) : Nat × Option Nat := if (listE fs).1 ≠ 0 then listE fs else if findF fs p < 0 then (6, none) else (0, none)
def remL (fs : List Fl) (p : ByteArray) : List Fl := if (remE fs p).1 = 0 then fs.filter (offP p) else []

theorem addE_le (fs : List Fl) (f : Fl) : (addE fs f).1 ≤ 12 := by
  unfold addE
  have h1 : (listE fs).1 ≤ 12 := by
    unfold listE
    split
    · exact (by decide : (8 : Nat) ≤ 12)
    · exact lstG_le _ _ _
  have h2 := fileE_le f
  repeat' split
  all_goals first | exact h1 | (dsimp only; omega)
theorem remE_le (fs : List Fl) (p : ByteArray) : (remE fs p).1 ≤ 12 := by
  unfold remE
  have h1 : (listE fs).1 ≤ 12 := by
    unfold listE
    split
    · exact (by decide : (8 : Nat) ≤ 12)
    · exact lstG_le _ _ _
  repeat' split
  all_goals first | exact h1 | (dsimp only; omega)

end Go.Proofs.YtniipgaacdpncaaDoor
