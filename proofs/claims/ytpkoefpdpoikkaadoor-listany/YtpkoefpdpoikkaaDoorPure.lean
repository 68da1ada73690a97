/-
  Plain mathematics of rows: their order is a strict total order.
-/
import Derived.Lib.Bytealg
import Derived.Sort.Statements
import Derived.Shelf.SlSortCmp.Insertion
namespace Go.Proofs.YtpkoefpdpoikkaaDoor
open Go Go.Sort

theorem part_ext {x y : ByteArray} (h : x.data.toList = y.data.toList) : x = y := by
  cases x; cases y
  simp only [ByteArray.mk.injEq] at *
  exact Array.toList_inj.1 h

end Go.Proofs.YtpkoefpdpoikkaaDoor
