/-
  An act in memory beside both stores.
-/
import Derived.Test.YtmcfklkpdhgjdaaDoorStoreActs1
import Derived.Deep.RegionHeld3
namespace Go.Proofs.YtmcfklkpdhgjdaaDoor
open Go.RowKit Go.Extern.Stop Go.Stop Go.Extern Go.Sort Go.Shelf Go.Lib

/-- The cells of an act at a block. -/
def ActC (W : World) (A : Nat) (x : Ac) : Prop := W.cell? ⟨A, 0, none⟩ = some (.string x.1) ∧ W.cell? ⟨A, 1, none⟩ = some (.string x.2.1) ∧ W.cell? ⟨A, 2, none⟩ = some (.string x.2.2.1) ∧ W.cell? ⟨A, 3, none⟩ = some (.int .i64 x.2.2.2)

section
variable {a : Nat → Addr} {B : Nat} {EM : World → Prop} {SAt : World → Value → (Nat → Prop) → St → Prop} {w0 W w' : World} {v : Value} {s s' r r' : St} {b A : Nat} {x : Ac}

end
end Go.Proofs.YtmcfklkpdhgjdaaDoor
