/-
  The contracts of Get, SetCut, On, Next and Swap of the document's own store.
-/
import Derived.Test.YtmcfklkpdhgjdaaDoorRefStore1
namespace Go.Proofs.YtmcfklkpdhgjdaaDoor
open Go.RowKit Go.Extern.Stop Go.Stop Go.Extern Go.Sort Go.Shelf Go.Lib

/-- What Get hands back. -/
def getT (l : List Ob) (n : ByteArray) : ByteArray × Nat := match getO l n with
  | some o => (o.2.1, 0)
  | none => (⟨#[]⟩, 6)

end Go.Proofs.YtmcfklkpdhgjdaaDoor
