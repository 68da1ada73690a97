/-
  A look into the map of lists of rows.
-/
import Derived.Test.YtgffkkijfmoooaaGreatDoorPartGrp
import Derived.RangeFuncNested
import Derived.RangeFuncBound
import Derived.RangeFuncCalls
import Derived.RangeFuncLeaves
import Derived.OwnWalkIn
import Derived.TacticsInMore
namespace Go.Proofs.YtgffkkijfmoooaaGreatDoor
open Go.RowKit Go.Extern.Stop Go.Stop Go.Extern Go.Sort Go.Shelf Go.Lib

theorem Tryz.zeroRows (w : World) : (zeroValue 22).run Tryz.prog w = .ok (.slice none 0 0) w := by kernel_rfl

theorem Grp.look {W : World} {base bm : Nat} {p : Rw → ByteArray} {ys : List Rw} {D : DataW Unit} {hv : List UInt8 → Value} (h : Grp W base bm p ys D hv) (key : ByteArray) (hk : key.size ≤ maxLen) :
    (Instr.lookup 92 (.map (some bm)) (.string key) false).run Tryz.prog W = .ok (hv key.data.toList) W := by
  obtain ⟨v, ps, hrun, hR⟩ := h.map.lookup (Maps.string_keyed Tryz.underlying9) Tryz.underlying92 (Tryz.zeroRows W) (zd := .nil) (zp := []) rfl (Go.WideMaps.keyOf_string_mk Tryz.underlying9 hk)
  have hp := hdrR_places hR
  simp only at hp
  subst hp
  rw [hrun, hdrR_inj hR (h.hd key.data.toList)]

theorem hdrR_own {W : World} {base : Nat} {e : TypeId} {size : Nat} {v : Value} {n : Nat} {xs : List Value} (h : W.ownsRow base e size v n xs) : ∃ d, hdrR v = some (d, []) := by
  rcases h.2 with ⟨e, _⟩ | ⟨g, cap, cur, e, _⟩
  · exact ⟨_, by rw [e]; rfl⟩
  · exact ⟨_, by rw [e]; rfl⟩

end Go.Proofs.YtgffkkijfmoooaaGreatDoor
