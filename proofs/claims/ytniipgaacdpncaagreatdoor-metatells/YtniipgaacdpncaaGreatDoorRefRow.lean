/-
  The contracts of the document's own functions on rows: IsName, IsFar, RowError, IsLess, InInts.
-/
import Derived.Test.YtniipgaacdpncaaGreatDoorRowLaw
namespace Go.Proofs.YtniipgaacdpncaaGreatDoor
open Go.RowKit Go.Extern.Stop Go.Stop Go.Extern Go.Sort Go.Shelf Go.Lib

theorem ne_succ_at {zs : List Int} {n : Nat} {x : Int} (h : ∀ j (h : j < zs.length), j < n → zs[j] ≠ x) (hn : n < zs.length) (e : zs[n] ≠ x) : ∀ j (h : j < zs.length), j < n + 1 → zs[j] ≠ x := fun j hj hjn => by
  rcases Nat.lt_or_ge j n with h' | h'
  · exact h j hj h'
  · obtain rfl : j = n := by omega
    exact e

set_option maxHeartbeats 1000000 in
theorem inInts_any (v : Value) (zs : List Int) (x : Int) (w : World) (h : KeysAt w v zs) (hl : zs.length ≤ maxLen) :
    Calls Tryz.prog 18 #[.int .i64 x, v] w fun e w' => e = .returned (.bool (zs.contains x)) ∧ w' = w := by
  unfold maxLen at hl
  rcases h with ⟨p, c, rfl, rfl⟩ | ⟨b, o, cap, rfl, hc⟩
  · clear hl
    go_enter Tryz.func18, Tryz.ntmps18
    go_wp2
    refine wp_loop_rounds 1 ?_
    rw [rounds_succ]
    go_wp2
    go_ret
    exact ⟨rfl, rfl⟩
  · generalize hL : zs.length = L at hl ⊢
    have HL : Hid (zs.length = L) := hL
    clear hL
    generalize hr : zs.contains x = r
    have HR : Hid (zs.contains x = r) := hr
    clear hr
    go_enter Tryz.func18, Tryz.ntmps18
    go_wp2
    go_loop [5] (fun k => ∃ n : Nat, n ≤ L ∧ (∀ j (h : j < zs.length), j < n → zs[j] ≠ x) ∧ k = .int .i64 n) (fun k => L - (intOf k).toNat)
    case atStart => exact ⟨0, by omega, by omega, rfl⟩
    case round =>
      obtain ⟨n, hn, ht, rfl⟩ := hrel
      have HT : Hid (∀ j (h : j < zs.length), j < n → zs[j] ≠ x) := ht
      clear ht
      by_cases hlt : n < L
      · have hlt' : n < zs.length := by rw [HL.out]; exact hlt
        have c1 := hc n hlt'
        generalize hp : zs[n] = y at c1
        have HP : Hid (zs[n] = y) := hp
        clear hp hc
        have hi : (n : Int) < (L : Int) := by omega
        by_cases e : y = x
        · have hr : r = true := by
            rw [← HR.out]
            simp only [List.contains_iff_mem]
            rw [← e, ← HP.out]; exact List.getElem_mem _
          subst hr e
          go_wp2
          go_ret
          exact ⟨rfl, rfl⟩
        · have e' : (y == x) = false := by simpa using e
          have E : Hid (¬ y = x) := e
          clear e
          go_wp2
          go_round
          case rel => exact ⟨n + 1, by omega, ne_succ_at HT.out hlt' (by rw [HP.out]; exact E.out), by go_num⟩
          case measure => simp [intOf]; omega
      · have hr : r = false := by
          rw [← HR.out]
          rw [Bool.eq_false_iff]
          intro hm
          rw [List.contains_iff_mem] at hm
          obtain ⟨j, hj, e⟩ := List.mem_iff_getElem.1 hm
          exact HT.out j hj (by rw [HL.out] at hj; omega) e
        subst hr
        have hn' : n = L := by omega
        subst hn'
        go_wp2
        go_ret
        exact ⟨rfl, rfl⟩

theorem cb_lt_iff (a b : List UInt8) : (Lib.compareBytes a b < 0) ↔ Lib.compareBytes a b = -1 := by
  rcases cb_three a b with h | h | h <;> omega
end Go.Proofs.YtniipgaacdpncaaGreatDoor
