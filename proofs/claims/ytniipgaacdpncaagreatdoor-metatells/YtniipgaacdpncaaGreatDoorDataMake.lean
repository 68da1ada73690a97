/-
  The contract of data.Make: too many rows; a row that is none; a file.
-/
import Derived.Test.YtniipgaacdpncaaGreatDoorDataLines
import Derived.BigQuiet
namespace Go.Proofs.YtniipgaacdpncaaGreatDoor
open Go.RowKit Go.Extern.Stop Go.Stop Go.Extern Go.Sort Go.Shelf Go.Lib

/-- What the package-level variables hold that files' functions read: a 2, a 7, a 8, a 9: the errors for shape, full, order and sum. -/
structure EnvD (w : World) (a : Nat → Addr) : Prop where
  env : Env w a
  shape : w.cell? ⟨4, 0, none⟩ = some (.iface 159 (.pointer (some (a 2))))
  full : w.cell? ⟨1, 0, none⟩ = some (.iface 159 (.pointer (some (a 7))))
  order : w.cell? ⟨8, 0, none⟩ = some (.iface 159 (.pointer (some (a 8))))
  sum : w.cell? ⟨9, 0, none⟩ = some (.iface 159 (.pointer (some (a 9))))

theorem EnvD.below {w w' : World} {a : Nat → Addr} (h : EnvD w a) (hb : Below w.heap.size w w') : EnvD w' a :=
  ⟨h.env.below hb, below_keep hb h.shape, below_keep hb h.full, below_keep hb h.order, below_keep hb h.sum⟩

/-- The same without the error for a name. -/
structure EnvD0 (w : World) (a : Nat → Addr) : Prop where
  env : Env0 w a
  shape : w.cell? ⟨4, 0, none⟩ = some (.iface 159 (.pointer (some (a 2))))
  full : w.cell? ⟨1, 0, none⟩ = some (.iface 159 (.pointer (some (a 7))))
  order : w.cell? ⟨8, 0, none⟩ = some (.iface 159 (.pointer (some (a 8))))
  sum : w.cell? ⟨9, 0, none⟩ = some (.iface 159 (.pointer (some (a 9))))

theorem EnvD0.below {w w' : World} {a : Nat → Addr} (h : EnvD0 w a) (hb : Below w.heap.size w w') : EnvD0 w' a :=
  ⟨h.env.below hb, below_keep hb h.shape, below_keep hb h.full, below_keep hb h.order, below_keep hb h.sum⟩

theorem EnvD.weak {w : World} {a : Nat → Addr} (h : EnvD w a) : EnvD0 w a := ⟨h.env.weak, h.shape, h.full, h.order, h.sum⟩

theorem keys_perm {xs ys : List Rw} (h : xs.Perm ys) : endsZ (keysR xs) = endsZ (keysR ys) := ends_perm (h.map _)

theorem sort_ok {xs : List Rw} (h : ∀ x ∈ xs, rowE x = 0) : ∀ x ∈ sortR xs, rowE x = 0 := fun x hx => h x ((sortR_perm xs).mem_iff.1 hx)

theorem sort_rise (xs : List Rw) : (sortR xs).Pairwise (fun x y => ltOf cfR y x = false) := (sortR_sorted xs).imp fun {a b} h => by simpa using h

end Go.Proofs.YtniipgaacdpncaaGreatDoor
