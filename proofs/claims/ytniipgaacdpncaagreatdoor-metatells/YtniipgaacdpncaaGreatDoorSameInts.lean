/-
  The contract of the document's own SameInts: of two lists of whole numbers, are they one?
-/
import Derived.Test.YtniipgaacdpncaaGreatDoorProg
import Derived.WalkKit
import Derived.Deep.QuietTactic
import Derived.BigQuiet
namespace Go.Proofs.YtniipgaacdpncaaGreatDoor
open Go.RowKit Go.Extern.Stop Go.Stop Go.Extern

/-- A slice of whole numbers, as it reads. -/
def IntsAt (w : World) (v : Value) (xs : List Int) : Prop :=
  (v = .slice none 0 0 ∧ xs = []) ∨ ∃ b o cap, v = .slice (some ⟨b, o, none⟩) xs.length cap ∧ xs.length ≤ maxLen ∧ ∀ i (h : i < xs.length), w.cell? ⟨b, o + i, none⟩ = some (.int .i64 xs[i])

theorem take_upto {fx fy : Nat → Int} {n : Nat} (h : ∀ i, i < n → fx i = fy i) (e : fx n = fy n) : ∀ i, i < n + 1 → fx i = fy i := fun i hi => by
  rcases Nat.lt_or_ge i n with h' | h'
  · exact h i h'
  · obtain rfl : i = n := by omega
    exact e

theorem sameInts_eq (w : World) (b o b' o' cap cap' L : Nat) (fx fy : Nat → Int) (hL : L ≤ maxLen)
    (hcx : ∀ i, i < L → w.cell? ⟨b, o + i, none⟩ = some (.int .i64 (fx i))) (hcy : ∀ i, i < L → w.cell? ⟨b', o' + i, none⟩ = some (.int .i64 (fy i))) :
    Calls Tryz.prog 13 #[.slice (some ⟨b, o, none⟩) L cap, .slice (some ⟨b', o', none⟩) L cap'] w fun e w' => (∃ r : Bool, e = .returned (.bool r) ∧ (r = true ↔ ∀ i, i < L → fx i = fy i)) ∧ ∃ n, w' = w.drewN n := by
  unfold maxLen at hL
  go_enter Tryz.func13, Tryz.ntmps13
  go_wp2
  go_loopw [5] (fun k wr => ∃ n : Nat, n ≤ L ∧ (∀ i, i < n → fx i = fy i) ∧ k = .int .i64 n ∧ ∃ m, wr = w.drewN m) (fun k _ => L - (intOf k).toNat)
  case atStart => exact ⟨0, by omega, by omega, rfl, 0, rfl⟩
  case round =>
    obtain ⟨n, hn, ht, rfl, m, rfl⟩ := hrel
    have HT : Hid (∀ i, i < n → fx i = fy i) := ht
    clear ht
    by_cases hlt : n < L
    · have h1 := hcx n hlt
      have h2 := hcy n hlt
      have hi : (n : Int) < (L : Int) := by omega
      generalize hfx : fx n = p at h1
      generalize hfy : fy n = q at h2
      have HX : Hid (fx n = p) := hfx
      have HY : Hid (fy n = q) := hfy
      clear hfx hfy hcx hcy
      by_cases e : p = q
      · subst e
        go_wp2
        go_quiet (fail)
        go_wp2
        go_roundw
        case rel => exact ⟨n + 1, by omega, take_upto HT.out (HX.out.trans HY.out.symm), by go_num, _, rfl⟩
        case measure => simp [intOf]; omega
      · go_wp2
        go_quiet (fail)
        go_wp2
        go_ret
        exact ⟨⟨false, rfl, by simp; exact ⟨n, hlt, by rw [HX.out, HY.out]; exact e⟩⟩, _, World.drewN_drewN _ _ _⟩
    · have hn' : n = L := by omega
      subst hn'
      go_wp2
      go_ret
      exact ⟨⟨true, rfl, by simpa using HT.out⟩, m, rfl⟩
end Go.Proofs.YtniipgaacdpncaaGreatDoor
