/-
  The walks of goned and GoneBack: whatever keys, place and byte: true; what was there is as it was.
-/
import Derived.Test.YtniipgaacdpncaaGreatDoorDataMake
import Derived.Maps.AppendAt
import Derived.Deep.Onto
import Derived.Laws.IdiomStrings
import Derived.Test.YtniipgaacdpncaaGreatDoorGonePure
import Derived.Test.YtniipgaacdpncaaGreatDoorRefNums
import Derived.BigRegion
import Derived.Test.YtniipgaacdpncaaGreatDoorRowLaw
import Derived.Test.YtniipgaacdpncaaGreatDoorSortsWalk
import Derived.Test.YtniipgaacdpncaaGreatDoorSameInts
import Derived.Test.YtniipgaacdpncaaGreatDoorAppendSrc
namespace Go.Proofs.YtniipgaacdpncaaGreatDoor
open Go.RowKit Go.Extern.Stop Go.Stop Go.Extern Go.Sort Go.Shelf Go.Lib

theorem firstBadZ : ∀ zs : List Int, ∃ m, m ≤ zs.length ∧ (∀ i (h : i < zs.length), i < m → inNum zs[i] = true) ∧ (∀ (h : m < zs.length), inNum zs[m] = false)
  | [] => ⟨0, Nat.le_refl _, fun i h => by simp at h, fun h => by simp at h⟩
  | z :: r => by
    cases hz : inNum z with
    | false => exact ⟨0, Nat.zero_le _, fun i _ h => absurd h (by omega), fun _ => hz⟩
    | true =>
      obtain ⟨m, h1, h2, h3⟩ := firstBadZ r
      refine ⟨m + 1, by simp; omega, fun i h hi => ?_, fun h => ?_⟩
      · cases i with
        | zero => exact hz
        | succ i => exact h2 i (by simpa using h) (by omega)
      · exact h3 (by simpa using h)

set_option maxRecDepth 100000 in
set_option maxHeartbeats 1000000 in
theorem sameInts_yes (v v' : Value) (zs : List Int) (w : World) (h : KeysAt w v zs) (h' : KeysAt w v' zs) (hl : zs.length ≤ 1000) :
    Calls Tryz.prog 13 #[v, v'] w fun e w' => e = .returned (.bool true) ∧ Below w.heap.size w w' := by
  by_cases hz : zs = []
  · subst hz
    obtain ⟨q, c, rfl⟩ := h.form
    obtain ⟨q', c', rfl⟩ := h'.form
    simp only [List.length_nil]
    clear h h' hl
    go_enter Tryz.func13, Tryz.ntmps13
    go_wp2
    refine wp_loop_rounds 1 ?_
    rw [rounds_succ]
    go_wp2
    go_ret
    exact ⟨rfl, Below.refl _ _⟩
  · rcases h with ⟨_, _, _, e⟩ | ⟨b, o, cap, rfl, hc⟩
    · exact absurd e hz
    rcases h' with ⟨_, _, _, e⟩ | ⟨b', o', cap', rfl, hc'⟩
    · exact absurd e hz
    have hs := sameInts_eq w b o b' o' cap cap' zs.length (fun i => zs.getD i 0) (fun i => zs.getD i 0) (by unfold maxLen; omega) (fun i hi => by rw [getD_of hi]; exact hc i hi) (fun i hi => by rw [getD_of hi]; exact hc' i hi)
    refine hs.mono fun e w' ⟨⟨r, he, hr⟩, n, hw⟩ => ⟨?_, ?_⟩
    · rw [he, hr.2 (fun _ _ => rfl)]
    · rw [hw]; exact below_drewN (Below.refl _ _) n

theorem rise_three : riseZ [7, -2, 7] = [-2, 7] := rise_is (by decide) (fun x => by simp; omega)

/-- The law's own copy of the keys that came in. -/
theorem src_keys {w : World} {q : Option Addr} {c : Nat} {zs : List Int} (h : KeysAt w (.slice q zs.length c) zs) (hq : q = none → c = 0) : Src w q zs.length c (zs.map (Value.int .i64)) := by
  rcases h with ⟨_, _, _, rfl⟩ | ⟨b, o, cap, e, hc⟩
  · exact Or.inl ⟨rfl, hq⟩
  · injection e with e1
    refine Or.inr ⟨b, o, e1, fun j u hj => ?_⟩
    rw [List.getElem?_map, Option.map_eq_some_iff] at hj
    obtain ⟨y, hy, rfl⟩ := hj
    obtain ⟨hjl, e⟩ := List.getElem?_eq_some_iff.1 hy
    rw [← e]
    exact hc j hjl

end Go.Proofs.YtniipgaacdpncaaGreatDoor
