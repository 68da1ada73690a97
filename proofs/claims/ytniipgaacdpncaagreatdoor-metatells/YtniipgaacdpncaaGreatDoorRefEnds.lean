/-
  The contracts of the document's own KeysOf, Ends and wholeText.
-/
import Derived.Test.YtniipgaacdpncaaGreatDoorCrcPure
import Derived.Test.YtniipgaacdpncaaGreatDoorRowRead
import Derived.Laws.BitsAll
import Derived.Laws.BitsAllLaws
import Derived.Laws.Rows
import Derived.Laws.CopyRow
import Derived.Laws.Tables
import Derived.Laws.Bits128
import Derived.Test.YtniipgaacdpncaaGreatDoorRefNums
import Derived.Test.YtniipgaacdpncaaGreatDoorDataMake
namespace Go.Proofs.YtniipgaacdpncaaGreatDoor
open Go.RowKit Go.Extern.Stop Go.Stop Go.Extern Go.Sort Go.Shelf Go.Lib

def encZ (n : Int) : Value := .int .i64 n

theorem keysAt_of_own {w : World} {base : Nat} {v : Value} {zs : List Int} (h : w.ownsRow base 3 1 v zs.length (zs.map encZ)) : KeysAt w v zs := by
  obtain ⟨hl, h⟩ := h
  rcases h with ⟨hv, hn⟩ | ⟨g, cap, cur, rfl, _, hg, hc, _, _, ht⟩
  · have : zs = [] := List.length_eq_zero_iff.1 hn
    subst this
    exact .inl ⟨none, 0, hv, rfl⟩
  · refine .inr ⟨g, 0, cap, rfl, fun j hj => ?_⟩
    have hu : (zs.map encZ)[j]? = some (.int .i64 zs[j]) := by simp [hj, encZ]
    rw [← ht, List.getElem?_take, if_pos (by omega)] at hu
    simp only [World.cell?, hg, Nat.zero_add]
    simpa using hu

end Go.Proofs.YtniipgaacdpncaaGreatDoor
