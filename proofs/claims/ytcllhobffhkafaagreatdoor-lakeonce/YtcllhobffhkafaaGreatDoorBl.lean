/- By an AI agent. -/
import Derived.Below
import Derived.Test.YtcllhobffhkafaaGreatDoorProg
namespace Go.Proofs.YtcllhobffhkafaaGreatDoor
open Go.RowKit
abbrev BL (w v : World) : Prop := Below w.heap.size w v
theorem Ad {a w v : World} (h : Below a.heap.size a w) (k : Below w.heap.size w v) : Below a.heap.size a v := h.trans (k.mono h.size)
theorem Af (w : World) (o : Obj) : Below w.heap.size w (w.alloc o) := (Below.refl _ _).alloc (Nat.le_refl _) o
end Go.Proofs.YtcllhobffhkafaaGreatDoor
