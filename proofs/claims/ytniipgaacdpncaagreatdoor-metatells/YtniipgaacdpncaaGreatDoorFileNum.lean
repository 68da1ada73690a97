/-
  The contracts of file.counts, file.Number and file.partOf.
-/
import Derived.Test.YtniipgaacdpncaaGreatDoorFilePure
import Derived.Test.YtniipgaacdpncaaGreatDoorDataMake
import Derived.Maps.AppendAt
import Derived.Deep.Onto
import Derived.Test.YtniipgaacdpncaaGreatDoorGonePure
import Derived.Test.YtniipgaacdpncaaGreatDoorRefNums
import Derived.Handy
namespace Go.Proofs.YtniipgaacdpncaaGreatDoor
open Go.RowKit Go.Extern.Stop Go.Stop Go.Extern Go.Sort Go.Shelf Go.Lib

/-- What the package-level variables hold that the functions of package file read. -/
structure EnvF (w : World) (a : Nat → Addr) : Prop where
  data : EnvD w a
  kind : w.cell? ⟨5, 0, none⟩ = some (.iface 159 (.pointer (some (a 3))))

theorem EnvF.below {w w' : World} {a : Nat → Addr} (h : EnvF w a) (hb : Below w.heap.size w w') : EnvF w' a := ⟨h.data.below hb, below_keep hb h.kind⟩

/-- What the functions read that ask nothing of a file's text. -/
structure EnvN (w : World) (a : Nat → Addr) : Prop where
  base : EnvS w
  bound : w.cell? ⟨3, 0, none⟩ = some (.iface 159 (.pointer (some (a 1))))
  name : w.cell? ⟨6, 0, none⟩ = some (.iface 159 (.pointer (some (a 4))))

theorem EnvN.below {w w' : World} {a : Nat → Addr} (h : EnvN w a) (hb : Below w.heap.size w w') : EnvN w' a := ⟨h.base.below hb, below_keep hb h.bound, below_keep hb h.name⟩
theorem Env.n {w : World} {a : Nat → Addr} (h : Env w a) : EnvN w a := ⟨h.s, h.bound, h.name⟩

/-- .. and the error for a kind. -/
structure EnvK (w : World) (a : Nat → Addr) : Prop where
  env : EnvN w a
  kind : w.cell? ⟨5, 0, none⟩ = some (.iface 159 (.pointer (some (a 3))))

theorem EnvK.below {w w' : World} {a : Nat → Addr} (h : EnvK w a) (hb : Below w.heap.size w w') : EnvK w' a := ⟨h.env.below hb, below_keep hb h.kind⟩
theorem EnvF.lean {w : World} {a : Nat → Addr} (h : EnvF w a) : EnvK w a := ⟨h.data.env.n, h.kind⟩

/-- .. and the error for a text. -/
structure EnvR (w : World) (a : Nat → Addr) : Prop where
  file : EnvK w a
  text : w.cell? ⟨2, 0, none⟩ = some (.iface 159 (.pointer (some (a 0))))

theorem EnvR.below {w w' : World} {a : Nat → Addr} (h : EnvR w a) (hb : Below w.heap.size w w') : EnvR w' a := ⟨h.file.below hb, below_keep hb h.text⟩
theorem EnvR.weak {w : World} {a : Nat → Addr} (h : EnvR w a) : Env0 w a := ⟨h.text, h.file.env.bound, h.file.env.base.maxl, h.file.env.base.syn, h.file.env.base.tab⟩
theorem EnvF.rd {w : World} {a : Nat → Addr} (h : EnvF w a) : EnvR w a := ⟨h.lean, h.data.env.text⟩

/-- What is known of a file, as one value. -/
def flV (f : Fl) : Value := .agg #[.string f.1, .string f.2.1, .int .i64 f.2.2.1, .int .i64 f.2.2.2.1, .int .i64 f.2.2.2.2.1, .int .i64 f.2.2.2.2.2]

theorem pathR_none {s : List UInt8} (h : pathO s = none) : pathR s = ([], 0, 5) := by unfold pathR; rw [h]
theorem pathR_some {s : List UInt8} {g : Bool} {n : Int} (h : pathO s = some (g, n)) : pathR s = (kindL g, n, 0) := by unfold pathR; rw [h]

theorem bytes_data (l : List UInt8) : (bytesOf l).data.toList = l := by simp [bytesOf]

end Go.Proofs.YtniipgaacdpncaaGreatDoor
