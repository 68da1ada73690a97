/-
  The contracts of the document's own Decimal and RowText.
-/
import Derived.Test.YtgffkkijfmoooaaGreatDoorRefText
namespace Go.Proofs.YtgffkkijfmoooaaGreatDoor
open Go.RowKit Go.Extern.Stop Go.Stop Go.Extern Go.Sort Go.Shelf Go.Lib

set_option maxRecDepth 100000 in
set_option maxHeartbeats 1000000 in
theorem decimal_any (n : Int) (w : World) (h0 : -9223372036854775808 ≤ n) (h1 : n ≤ 9223372036854775807) :
    Calls Tryz.prog 60 #[.int .i64 n] w fun e w' => e = .returned (.string (bytesOf (itoa n))) ∧ Grew w w' := by
  unfold itoa
  by_cases hs : n < 0
  · rw [if_pos hs]
    have hb := below_any (n.natAbs + 1) n w (by omega) (by omega) (by omega)
    have hE : bytesOf (45 :: decDigits n.natAbs) = ⟨#[45]⟩ ++ bytesOf (decDigits n.natAbs) := by
      have := bytesOf_append [45] (decDigits n.natAbs)
      exact this.symm
    rw [hE]
    have hlen : (bytesOf (decDigits n.natAbs)).size ≤ 20 := by
      rw [bytesOf_size]
      exact digits_len 19 _ (by omega)
    clear hE
    generalize bytesOf (decDigits n.natAbs) = D at hb hlen ⊢
    have nn : ¬ 9223372036854775807 < 1 + D.size := by omega
    have nn2 : ¬ 9223372036854775806 < D.size := by omega
    go_enter Tryz.func60, Tryz.ntmps60
    go_wp2_with (go_at_call 86; refine hb.mono ?_; rintro e w1 ⟨rfl, hg⟩)
    go_ret
    exact ⟨rfl, hg⟩
  · rw [if_neg hs]
    have hb := below_any (n.natAbs + 1) (-n) w (by omega) (by omega) (by omega)
    have e : (-n).natAbs = n.toNat := by omega
    rw [e] at hb
    clear e
    generalize bytesOf (decDigits n.toNat) = D at hb ⊢
    have hw : IntKind.i64.wrap (-n) = -n := IntWalk.i64_in _ (by omega)
    go_enter Tryz.func60, Tryz.ntmps60
    go_wp2_with (go_at_call 86; refine hb.mono ?_; rintro e w1 ⟨rfl, hg⟩)
    go_ret
    exact ⟨rfl, hg⟩

set_option maxHeartbeats 1000000 in
theorem rowText_any (x : Rw) (w : World) (hs : x.1.size ≤ maxLen) :
    Calls Tryz.prog 25 #[.agg #[.string x.1, .int .i64 x.2.1, .int .i64 x.2.2]] w fun e w' => e = .returned (.string (textB x)) ∧ Below w.heap.size w w' := by
  have hb : Below w.heap.size w (w.alloc (.cells #[.string x.1, .int .i64 x.2.1, .int .i64 x.2.2] 30)) := (Below.refl _ _).alloc (Nat.le_refl _) _
  have hc := rowError_any x (w.alloc (.cells #[.string x.1, .int .i64 x.2.1, .int .i64 x.2.2] 30)) hs
  unfold textB
  by_cases he : rowE x = 0
  · rw [if_pos he]
    rw [he] at hc
    have hbd : inNum x.2.1 = true ∧ inNum x.2.2 = true := by
      unfold rowE at he
      split at he
      · split at he
        · rename_i h'; simpa using h'
        · omega
      · omega
    obtain ⟨p, k, v⟩ := x
    dsimp only at *
    have hp8 : p.size ≤ 8 := by
      unfold rowE at he
      split at he
      · rename_i h'
        simp only [nameB, Bool.and_eq_true, decide_eq_true_eq] at h'
        rw [size_list] at h'
        exact h'.1.2
      · omega
    clear he hs
    have sk : (bytesOf (itoa k)).size ≤ 11 := by
      have := hbd.1
      simp only [inNum, Bool.and_eq_true, decide_eq_true_eq] at this
      simpa [bytesOf, ByteArray.size] using itoa_len k this.1 this.2
    have sv : (bytesOf (itoa v)).size ≤ 11 := by
      have := hbd.2
      simp only [inNum, Bool.and_eq_true, decide_eq_true_eq] at this
      simpa [bytesOf, ByteArray.size] using itoa_len v this.1 this.2
    unfold sp
    have hk1 : inNum k = true := hbd.1
    have hv1 : inNum v = true := hbd.2
    have hm : Tryz.prog.follows .mixedOrders = true := by kernel_rfl
    clear hbd
    go_enter Tryz.func25, Tryz.ntmps25
    go_wp2_with (go_at_call 24; refine hc.mono ?_; rintro e w1 ⟨rfl, hb1⟩)
    have c0 : w1.cell? ⟨w.heap.size, 0, none⟩ = some (.string p) := below_keep hb1 (by simp)
    have c1 : w1.cell? ⟨w.heap.size, 1, none⟩ = some (.int .i64 k) := below_keep hb1 (by simp)
    have c2 : w1.cell? ⟨w.heap.size, 2, none⟩ = some (.int .i64 v) := below_keep hb1 (by simp)
    have d0 := fun n os => cell_grown (cell_lt c0) c0 n os
    have d1 := fun n os => cell_grown (cell_lt c1) c1 n os
    have d2 := fun n os => cell_grown (cell_lt c2) c2 n os
    have hB : Below w.heap.size w w1 := hb.trans (hb1.mono hb.size)
    have hI : ∀ m : Int, inNum m = true → ∀ n os, Calls Tryz.prog 60 #[.int .i64 m] (grow (w1.drewN n) os) fun e w' => e = .returned (.string (bytesOf (itoa m))) ∧ ∃ q os', w' = grow ((grow (w1.drewN n) os).drewN q) os' := fun m hm n os => by
      simp only [inNum, Bool.and_eq_true, decide_eq_true_eq] at hm
      exact decimal_any m _ (by omega) (by omega)
    clear c0 c1 c2 hc
    have n1 : ¬ 9223372036854775807 < p.size + 1 := by omega
    have n2 : ¬ 9223372036854775807 < p.size + 1 + (bytesOf (itoa k)).size := by omega
    have n3 : ¬ 9223372036854775807 < p.size + 1 + (bytesOf (itoa k)).size + 1 := by omega
    have n4 : ¬ 9223372036854775807 < p.size + 1 + (bytesOf (itoa k)).size + 1 + (bytesOf (itoa v)).size := by omega
    have m1 : ¬ 9223372036854775806 < p.size := by omega
    have m3 : ¬ 9223372036854775806 < p.size + 1 + (bytesOf (itoa k)).size := by omega
    go_quiet_grown ((go_at_call 60; exact Calls.grown_of (hI _ (by assumption) _ _)))
    go_wp2
    go_ret
    exact ⟨rfl, hB.trans ((grow_below nq osq).mono hB.size)⟩
  · rw [if_neg he]
    obtain ⟨p, k, v⟩ := x
    dsimp only at *
    generalize rowE (p, k, v) = E at he hc
    have hE : (0 : Int) < (E : Int) := by omega
    clear he hs
    go_enter Tryz.func25, Tryz.ntmps25
    go_wp2_with (go_at_call 24; refine hc.mono ?_; rintro e w1 ⟨rfl, hb1⟩)
    go_ret
    exact ⟨rfl, hb.trans (hb1.mono hb.size)⟩
end Go.Proofs.YtgffkkijfmoooaaGreatDoor
