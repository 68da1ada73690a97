/-
  The contracts of the statements' own helper coded, out of plain.Code's.
-/
import Derived.Test.YtjmdgdohepodmabGreatDoorCode
namespace Go.Proofs.YtjmdgdohepodmabGreatDoor
open Go.RowKit Go.Extern.Stop Go.Stop Go.Extern

/-- coded: the number is the one, and there is no place. -/
def codedB (x y c : Int) : Bool := decide (x = c) && decide (y = -1)

end Go.Proofs.YtjmdgdohepodmabGreatDoor
