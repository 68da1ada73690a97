/-
  What the functions on numbers of snaps read.
-/
import Derived.Test.YtniipgaacdpncaaGreatDoorRowRead
namespace Go.Proofs.YtniipgaacdpncaaGreatDoor
open Go.RowKit Go.Extern.Stop Go.Stop Go.Extern Go.Sort Go.Shelf Go.Lib

structure EnvM (w : World) (a : Nat → Addr) : Prop where
  base : EnvS w
  text : w.cell? ⟨2, 0, none⟩ = some (.iface 159 (.pointer (some (a 0))))
  bound : w.cell? ⟨3, 0, none⟩ = some (.iface 159 (.pointer (some (a 1))))
  miss : w.cell? ⟨0, 0, none⟩ = some (.iface 159 (.pointer (some (a 5))))
  full : w.cell? ⟨1, 0, none⟩ = some (.iface 159 (.pointer (some (a 7))))
  order : w.cell? ⟨8, 0, none⟩ = some (.iface 159 (.pointer (some (a 8))))
theorem EnvM.below {w w' : World} {a : Nat → Addr} (h : EnvM w a) (hb : Below w.heap.size w w') : EnvM w' a :=
  ⟨h.base.below hb, below_keep hb h.text, below_keep hb h.bound, below_keep hb h.miss, below_keep hb h.full, below_keep hb h.order⟩
theorem EnvM.weak {w : World} {a : Nat → Addr} (h : EnvM w a) : Env0 w a := ⟨h.text, h.bound, h.base.maxl, h.base.syn, h.base.tab⟩
end Go.Proofs.YtniipgaacdpncaaGreatDoor
