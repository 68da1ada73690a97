/-
  The contracts of the statements' own LongFile, and what '==' and '!=' give on what is known of a file.
-/
import Derived.Test.YtniipgaacdpncaaGreatDoorFileNum
namespace Go.Proofs.YtniipgaacdpncaaGreatDoor
open Go.RowKit Go.Extern.Stop Go.Stop Go.Extern Go.Sort Go.Shelf Go.Lib

/-- Is what is known too long? -/
def longFB (f : Fl) : Bool := decide (30 < f.1.size) || decide (30 < f.2.1.size)

end Go.Proofs.YtniipgaacdpncaaGreatDoor
