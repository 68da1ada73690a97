/-
  The contract of data.readHead: the four numbers of a head's line.
-/
import Derived.Test.YtgffkkijfmoooacDoorDataLines
import Derived.BigQuiet
namespace Go.Proofs.YtgffkkijfmoooacDoor
open Go.RowKit Go.Extern.Stop Go.Stop Go.Extern Go.Sort Go.Shelf Go.Lib

theorem headO_five {Kw l k A B C D : List UInt8} (h : words l = [k, A, B, C, D]) : headO Kw l = if k = Kw then (match numO A, numO B, numO C, numO D with
    | some a, some b, some c, some d => some (a, b, c, d)
    | _, _, _, _ => none) else none := by
  unfold headO; rw [h]; rfl
theorem headO_other {Kw l : List UInt8} (h : (words l).length ≠ 5) : headO Kw l = none := by
  unfold headO
  split
  · rename_i e; rw [e] at h; simp at h
  · rfl

theorem five_of {α : Type} {ts : List α} (h : ts.length = 5) : ∃ a b c d e, ts = [a, b, c, d, e] := by
  match ts, h with
  | [a, b, c, d, e], _ => exact ⟨a, b, c, d, e, rfl⟩

theorem eqBB {s t : ByteArray} (h : s.data.toList = t.data.toList) : (s.toList == t.toList) = true := by
  rw [ByteArray.toList_eq, ByteArray.toList_eq]; simpa using h
theorem neBB {s t : ByteArray} (h : s.data.toList ≠ t.data.toList) : (s.toList == t.toList) = false := by
  rw [ByteArray.toList_eq, ByteArray.toList_eq]; simpa using h

/-- What readHead hands back. -/
def headR (K l : List UInt8) : (Int × Int × Int) × Int × Bool := match headO K l with
  | some (n, lo, hi, sum) => ((n, lo, hi), sum, true)
  | none => ((0, 0, 0), 0, false)

end Go.Proofs.YtgffkkijfmoooacDoor
