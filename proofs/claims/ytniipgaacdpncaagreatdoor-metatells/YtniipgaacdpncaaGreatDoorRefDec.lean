/-
  The contracts of the document's own Decimal and RowText.
-/
import Derived.Test.YtniipgaacdpncaaGreatDoorRefText
namespace Go.Proofs.YtniipgaacdpncaaGreatDoor
open Go.RowKit Go.Extern.Stop Go.Stop Go.Extern Go.Sort Go.Shelf Go.Lib

set_option maxRecDepth 100000 in
set_option maxHeartbeats 1000000 in
theorem decimal_any (n : Int) (w : World) (h0 : -9223372036854775808 ≤ n) (h1 : n ≤ 9223372036854775807) :
    Calls Tryz.prog 25 #[.int .i64 n] w fun e w' => e = .returned (.string (bytesOf (itoa n))) ∧ Grew w w' := by
  unfold itoa
  by_cases hs : n < 0
  · rw [if_pos hs]
    have hb := below_any (n.natAbs + 1) n w (by omega) (by omega) (by omega)
    have hE : bytesOf (45 :: decDigits n.natAbs) = ⟨#[45]⟩ ++ bytesOf (decDigits n.natAbs) := by
      have := bytesOf_append [45] (decDigits n.natAbs)
      exact this.symm
    rw [hE]
    have hlen : (bytesOf (decDigits n.natAbs)).size ≤ 20 := by
      rw [bytesOf_size]
      exact digits_len 19 _ (by omega)
    clear hE
    generalize bytesOf (decDigits n.natAbs) = D at hb hlen ⊢
    have nn : ¬ 9223372036854775807 < 1 + D.size := by omega
    have nn2 : ¬ 9223372036854775806 < D.size := by omega
    go_enter Tryz.func25, Tryz.ntmps25
    go_wp2_with (go_at_call 40; refine hb.mono ?_; rintro e w1 ⟨rfl, hg⟩)
    go_ret
    exact ⟨rfl, hg⟩
  · rw [if_neg hs]
    have hb := below_any (n.natAbs + 1) (-n) w (by omega) (by omega) (by omega)
    have e : (-n).natAbs = n.toNat := by omega
    rw [e] at hb
    clear e
    generalize bytesOf (decDigits n.toNat) = D at hb ⊢
    have hw : IntKind.i64.wrap (-n) = -n := IntWalk.i64_in _ (by omega)
    go_enter Tryz.func25, Tryz.ntmps25
    go_wp2_with (go_at_call 40; refine hb.mono ?_; rintro e w1 ⟨rfl, hg⟩)
    go_ret
    exact ⟨rfl, hg⟩

end Go.Proofs.YtniipgaacdpncaaGreatDoor
