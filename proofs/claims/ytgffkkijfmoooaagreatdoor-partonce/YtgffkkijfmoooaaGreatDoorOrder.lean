/-
  The contract of row.order: by Part, then by Key, then by Val.
-/
import Derived.Test.YtgffkkijfmoooaaGreatDoorShelf
import Derived.Test.YtgffkkijfmoooaaGreatDoorPure
import Derived.WalkKit
import Derived.StillTailTactics
import Derived.Sort.Grow
namespace Go.Proofs.YtgffkkijfmoooaaGreatDoor
open Go.RowKit Go.Extern.Stop Go.Stop Go.Extern Go.Sort

set_option maxHeartbeats 1000000 in
/-- cmp.Or of three numbers: the first that is not 0. -/
theorem or3 (x y z : Int) (b : Nat) (w : World) (h0 : w.cell? ⟨b, 0, none⟩ = some (.int .i64 x)) (h1 : w.cell? ⟨b, 1, none⟩ = some (.int .i64 y)) (h2 : w.cell? ⟨b, 2, none⟩ = some (.int .i64 z)) :
    Calls Tryz.prog 74 #[.slice (some ⟨b, 0, none⟩) 3 3] w fun e w' => e = .returned (.int .i64 (orOf x y z)) ∧ w' = w := by
  unfold orOf
  by_cases e0 : x = 0
  · subst e0
    by_cases e1 : y = 0
    · subst e1
      by_cases e2 : z = 0
      · subst e2
        go_enter Tryz.func74, Tryz.ntmps74
        go_wp2
        refine wp_loop_rounds 4 ?_
        rw [rounds_succ]
        go_wp2
        rw [rounds_succ]
        go_wp2
        rw [rounds_succ]
        go_wp2
        rw [rounds_succ]
        go_wp2
        go_ret
        exact ⟨rfl, rfl⟩
      · go_enter Tryz.func74, Tryz.ntmps74
        go_wp2
        refine wp_loop_rounds 3 ?_
        rw [rounds_succ]
        go_wp2
        rw [rounds_succ]
        go_wp2
        rw [rounds_succ]
        go_wp2
        go_ret
        exact ⟨rfl, rfl⟩
    · go_enter Tryz.func74, Tryz.ntmps74
      go_wp2
      refine wp_loop_rounds 2 ?_
      rw [rounds_succ]
      go_wp2
      rw [rounds_succ]
      go_wp2
      go_ret
      exact ⟨by simp, rfl⟩
  · go_enter Tryz.func74, Tryz.ntmps74
    go_wp2
    refine wp_loop_rounds 1 ?_
    rw [rounds_succ]
    go_wp2
    go_ret
    exact ⟨by simp, rfl⟩

theorem grow_alloc {V w : World} {n : Nat} {os : Array Obj} {o : Obj} (h : V = grow (w.drewN n) os) : ∃ q os', V.alloc o = grow (w.drewN q) os' := ⟨n, os ++ #[o], by rw [alloc_eq_grow, h, grow_grow]⟩

/-- A region whose first n operations only read, and whose others stand in a forced order. -/
theorem still_tail {P : Program} {id : Nat} {Q : Exit → Act → World → Prop} {a : Act} {w : World} {l : List Oper} (n : Nat) (hm : P.follows .mixedOrders = true) (hB : Region.lexTailB .any l.toArray n = true)
    (h : wpStill P l.toArray w.drew (fun a' => wpList P l.toArray Q (l.drop n) a' w.drew) (l.take n) a) : (Code.region id l.toArray true).wp P Q a w := wp_region_still_tail n hm hB h

set_option maxRecDepth 100000 in
set_option maxHeartbeats 2000000 in
theorem order_any (x y : Rw) (w : World) :
    Calls Tryz.prog 43 #[.agg #[.string x.1, .int .i64 x.2.1, .int .i64 x.2.2], .agg #[.string y.1, .int .i64 y.2.1, .int .i64 y.2.2]] w fun e w' => e = .returned (.int .i64 (cfR x y)) ∧ ∃ q os, w' = grow (w.drewN q) os := by
  obtain ⟨xp, xk, xv⟩ := x
  obtain ⟨yp, yk, yv⟩ := y
  have hcb := Tryz.strings_Compare xp yp
  have hck := Tryz.cmp_Compare_int xk yk
  have hcv := Tryz.cmp_Compare_int xv yv
  show Calls Tryz.prog 43 #[.agg #[.string xp, .int .i64 xk, .int .i64 xv], .agg #[.string yp, .int .i64 yk, .int .i64 yv]] w fun e w' => e = .returned (.int .i64 (cfR (xp, xk, xv) (yp, yk, yv))) ∧ ∃ q os, w' = grow (w.drewN q) os
  unfold cfR
  dsimp only
  generalize Lib.compareBytes xp.data.toList yp.data.toList = cb at hcb ⊢
  generalize Lib.compareInt xk yk = ck at hck ⊢
  generalize Lib.compareInt xv yv = cv at hcv ⊢
  have ho := or3 cb ck cv
  generalize orOf cb ck cv = r at ho ⊢
  have hm : Tryz.prog.follows .mixedOrders = true := by kernel_rfl
  go_enter Tryz.func43, Tryz.ntmps43
  go_wp2
  refine still_tail 15 hm (by kernel_rfl) ?_
  have c0 : ((w.alloc (.cells #[.string xp, .int .i64 xk, .int .i64 xv] 30)).alloc (.cells #[.string yp, .int .i64 yk, .int .i64 yv] 30)).drew.cell? ⟨w.heap.size, 0, none⟩ = some (.string xp) := by simp
  have c1 : ((w.alloc (.cells #[.string xp, .int .i64 xk, .int .i64 xv] 30)).alloc (.cells #[.string yp, .int .i64 yk, .int .i64 yv] 30)).drew.cell? ⟨w.heap.size, 1, none⟩ = some (.int .i64 xk) := by simp
  have c2 : ((w.alloc (.cells #[.string xp, .int .i64 xk, .int .i64 xv] 30)).alloc (.cells #[.string yp, .int .i64 yk, .int .i64 yv] 30)).drew.cell? ⟨w.heap.size, 2, none⟩ = some (.int .i64 xv) := by simp
  have c3 : ((w.alloc (.cells #[.string xp, .int .i64 xk, .int .i64 xv] 30)).alloc (.cells #[.string yp, .int .i64 yk, .int .i64 yv] 30)).drew.cell? ⟨w.heap.size + 1, 0, none⟩ = some (.string yp) := by simp
  have c4 : ((w.alloc (.cells #[.string xp, .int .i64 xk, .int .i64 xv] 30)).alloc (.cells #[.string yp, .int .i64 yk, .int .i64 yv] 30)).drew.cell? ⟨w.heap.size + 1, 1, none⟩ = some (.int .i64 yk) := by simp
  have c5 : ((w.alloc (.cells #[.string xp, .int .i64 xk, .int .i64 xv] 30)).alloc (.cells #[.string yp, .int .i64 yk, .int .i64 yv] 30)).drew.cell? ⟨w.heap.size + 1, 2, none⟩ = some (.int .i64 yv) := by simp
  have hV : Hid (((w.alloc (.cells #[.string xp, .int .i64 xk, .int .i64 xv] 30)).alloc (.cells #[.string yp, .int .i64 yk, .int .i64 yv] 30)).drew = grow (w.drewN 1) #[.cells #[.string xp, .int .i64 xk, .int .i64 xv] 30, .cells #[.string yp, .int .i64 yk, .int .i64 yv] 30]) := by
    show _ = _
    rw [alloc_eq_grow, alloc_eq_grow, grow_grow]; rfl
  generalize ((w.alloc (.cells #[.string xp, .int .i64 xk, .int .i64 xv] 30)).alloc (.cells #[.string yp, .int .i64 yk, .int .i64 yv] 30)).drew = V at c0 c1 c2 c3 c4 c5 hV ⊢
  simp only [List.take_succ_cons, List.take_zero, List.drop_succ_cons, List.drop_zero]
  still_step
  still_step
  still_step
  still_step
  still_call (hcb _)
  still_step
  still_step
  still_step
  still_step
  still_call (hck _)
  still_step
  still_step
  still_step
  still_step
  still_call (hcv _)
  refine wpStill_nil ?_
  go_wp2_with (go_at_call 74; refine (ho V.heap.size _ (by simp) (by simp) (by simp)).mono ?_; rintro e w' ⟨rfl, rfl⟩)
  go_ret
  exact ⟨rfl, grow_alloc hV.out⟩
end Go.Proofs.YtgffkkijfmoooaaGreatDoor
