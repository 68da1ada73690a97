/-
  Plain mathematics of rows: their order is a strict total order.
-/
import Derived.Lib.Bytealg
import Derived.Sort.Statements
import Derived.Shelf.SlSortCmp.Insertion
namespace Go.Proofs.YtpkoefpdpoikkaaGreatDoor
open Go Go.Sort

abbrev Rw := ByteArray × Int × Int

end Go.Proofs.YtpkoefpdpoikkaaGreatDoor
