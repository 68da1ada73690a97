/-
  The contracts of the document's own splitText and headFault.
-/
import Derived.Test.YtgffkkijfmoooacDoorCrcPure
import Derived.Test.YtgffkkijfmoooacDoorRowRead
import Derived.Laws.BitsAll
import Derived.Laws.BitsAllLaws
import Derived.Laws.Rows
import Derived.Laws.CopyRow
import Derived.Laws.Tables
import Derived.Laws.Bits128
import Derived.Test.YtgffkkijfmoooacDoorRefWords
import Derived.Test.YtgffkkijfmoooacDoorDataHead
import Derived.BigRegion
import Derived.Test.YtgffkkijfmoooacDoorRowNums
import Derived.Test.YtgffkkijfmoooacDoorRowDrop
import Derived.Deep.Onto
import Derived.Test.YtgffkkijfmoooacDoorProg
import Derived.WalkKit
import Derived.LaidEql
import Derived.Stop.Asserts
import Derived.RowKitTokens
import Derived.Lib.QuietBelow
import Derived.BigQuiet
import Derived.Test.YtgffkkijfmoooacDoorDataLines
import Derived.Test.YtgffkkijfmoooacDoorLinePure
import Derived.Test.YtgffkkijfmoooacDoorDataRead
import Derived.Maps.AppendAt
namespace Go.Proofs.YtgffkkijfmoooacDoor
open Go.RowKit Go.Extern.Stop Go.Stop Go.Extern Go.Sort Go.Shelf Go.Lib

/-- What splitText hands back. -/
def SplitT {β : Type} (k : FK β) (w : World) (s : List UInt8) (e : Ending) (w' : World) : Prop :=
  Below w.heap.size w w' ∧ ((∃ c : Nat, c ≠ 0 ∧ e = .returned (.tuple #[.slice none 0 0, .slice none 0 0, .agg #[.int .i64 c, .int .i64 (-1)]]) ∧ readG k s = ([], c, none)) ∨
    (∃ (n lo hi sum : Int) (b : List UInt8) (v tv : Value) (ts : List ByteArray), e = .returned (.tuple #[v, tv, .agg #[.int .i64 0, .int .i64 (-1)]]) ∧ KeysAt w' v [n, lo, hi, sum] ∧ TextsAt w' tv ts ∧ ts.map (·.data.toList) = pieces 10 b ∧ b.length ≤ 20000 ∧ readG k s = endG k n lo hi (rowsG k (pieces 10 b) 0 [])))

theorem KeysAt.setLow {W : World} {v : Value} {zs : List Int} {F o : Nat} {x : Value} (h : KeysAt W v zs) (hF : ∀ b o' c n, v = .slice (some ⟨b, o', none⟩) n c → b ≠ F) : KeysAt (W.setCell ⟨F, o, none⟩ x) v zs := by
  rcases h with h | ⟨b, o', c, rfl, h⟩
  · exact .inl h
  · exact .inr ⟨b, o', c, rfl, fun j hj => by
      rw [World.cell?_setCell_other _ _ _ _ (by have := hF b o' c _ rfl; simp)]
      exact h j hj⟩

theorem TextsAt.setLow {W : World} {v : Value} {ts : List ByteArray} {F o : Nat} {x : Value} (h : TextsAt W v ts) (hF : ∀ b o' c n, v = .slice (some ⟨b, o', none⟩) n c → b ≠ F) : TextsAt (W.setCell ⟨F, o, none⟩ x) v ts := by
  obtain ⟨b, c, rfl, hc, h⟩ := h
  exact ⟨b, c, rfl, hc, fun j hj => by
    rw [World.cell?_setCell_other _ _ _ _ (by have := hF b 0 c _ rfl; simp)]
    exact h j hj⟩

/-- The number of a head's fault. -/
def headF (n lo hi : Int) (zs : List Int) : Nat := if 40 < zs.length then 8 else if n = zs.length ∧ lo = (endsZ zs).1 ∧ hi = (endsZ zs).2 then 0 else 3

end Go.Proofs.YtgffkkijfmoooacDoor
