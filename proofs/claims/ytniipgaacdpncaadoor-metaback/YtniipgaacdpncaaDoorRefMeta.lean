/-
  The contracts of the document's own IDsFault, IDsText and ReadIDs.
-/
import Derived.Test.YtniipgaacdpncaaDoorMetaPure
import Derived.Test.YtniipgaacdpncaaDoorRefLines
import Derived.Test.YtniipgaacdpncaaDoorRefEnds
import Derived.Test.YtniipgaacdpncaaDoorRefNums
import Derived.BigRegion
import Derived.Test.YtniipgaacdpncaaDoorRowNums
import Derived.Test.YtniipgaacdpncaaDoorRowDrop
import Derived.Test.YtniipgaacdpncaaDoorSortsWalk
import Derived.Deep.Onto
import Derived.Test.YtniipgaacdpncaaDoorProg
import Derived.WalkKit
import Derived.LaidEql
import Derived.Stop.Asserts
import Derived.RowKitTokens
import Derived.Test.YtniipgaacdpncaaDoorRowRead
import Derived.Lib.QuietBelow
import Derived.BigQuiet
import Derived.Test.YtniipgaacdpncaaDoorDataLines
import Derived.Test.YtniipgaacdpncaaDoorRefText
import Derived.Test.YtniipgaacdpncaaDoorRefList3
namespace Go.Proofs.YtniipgaacdpncaaDoor
open Go.RowKit Go.Extern.Stop Go.Stop Go.Extern Go.Sort Go.Shelf Go.Lib

theorem KeysAt.shape {w : World} {v : Value} {zs : List Int} (h : KeysAt w v zs) : ∃ q c, v = .slice q zs.length c := by
  rcases h with ⟨p, c, rfl, rfl⟩ | ⟨b, o, cap, rfl, _⟩
  · exact ⟨p, c, rfl⟩
  · exact ⟨_, cap, rfl⟩
theorem KeysAt.at {w : World} {q : Option Addr} {n c : Nat} {zs : List Int} (h : KeysAt w (.slice q n c) zs) (hne : zs ≠ []) : ∃ b o, q = some ⟨b, o, none⟩ ∧ ∀ j (h : j < zs.length), w.cell? ⟨b, o + j, none⟩ = some (.int .i64 zs[j]) := by
  rcases h with ⟨p, c', _, e⟩ | ⟨b, o, cap, e, hc⟩
  · exact absurd e hne
  · injection e with e1
    exact ⟨b, o, e1, hc⟩

theorem ahead_at {zs : List Int} {n : Nat} (hn : n + 1 < zs.length) : aheadZ zs (n + 1) = zs[n]'(by omega) := by
  simp [aheadZ, List.getD, Nat.lt_of_succ_lt hn]

end Go.Proofs.YtniipgaacdpncaaDoor
