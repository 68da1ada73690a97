/-
  The contract of the document's own DataOf.
-/
import Derived.Test.YtniipgaacdpncaaGreatDoorRefEnds
import Derived.Test.YtniipgaacdpncaaGreatDoorRefNums
import Derived.BigRegion
import Derived.Test.YtniipgaacdpncaaGreatDoorRowLaw
import Derived.Test.YtniipgaacdpncaaGreatDoorSortsWalk
import Derived.Deep.Onto
import Derived.Test.YtniipgaacdpncaaGreatDoorCode
import Derived.Test.YtniipgaacdpncaaGreatDoorFaulted
import Derived.Lib.QuietBelow
import Derived.BigQuiet
import Derived.Test.YtniipgaacdpncaaGreatDoorDataMake
namespace Go.Proofs.YtniipgaacdpncaaGreatDoor
open Go.RowKit Go.Extern.Stop Go.Stop Go.Extern Go.Sort Go.Shelf Go.Lib

theorem fine_of (w : World) : Calls Tryz.prog 19 #[] w fun e w' => e = .returned (.agg #[.int .i64 0, .int .i64 (-1)]) ∧ Below w.heap.size w w' := by
  go_enter Tryz.func19, Tryz.ntmps19
  go_wp2
  refine bodyPost_ret (v := .agg #[.int .i64 0, .int .i64 (-1)]) (by simp [results, Tryz.results19, go_sem]) rfl ⟨rfl, ?_⟩
  exact (Below.refl _ _).alloc (Nat.le_refl _) _

theorem bare_of (n : Int) (w : World) : Calls Tryz.prog 16 #[.int .i64 n] w fun e w' => e = .returned (.agg #[.int .i64 n, .int .i64 (-1)]) ∧ Below w.heap.size w w' := by
  go_enter Tryz.func16, Tryz.ntmps16
  go_wp2
  refine bodyPost_ret (v := .agg #[.int .i64 n, .int .i64 (-1)]) (by simp [results, Tryz.results16, go_sem]) rfl ⟨rfl, ?_⟩
  exact (Below.refl _ _).alloc (Nat.le_refl _) _

/-- The cell of a fault. -/
def FC (W : World) (F : Nat) (x y : Int) : Prop := W.heap[F]? = some (.cells #[.int .i64 x, .int .i64 y] 25 (0, 0))
theorem FC.lt {W : World} {F : Nat} {x y : Int} (h : FC W F x y) : F < W.heap.size := lt_of_block h
theorem FC.below {W W' : World} {F : Nat} {x y : Int} (h : FC W F x y) (hb : Below W.heap.size W W') : FC W' F x y := (hb.block F h.lt).trans h
theorem FC.c0 {W : World} {F : Nat} {x y : Int} (h : FC W F x y) : W.cell? ⟨F, 0, none⟩ = some (.int .i64 x) := by rw [cell_of_row _ _ _ _ _ _ h]; rfl
theorem FC.c1 {W : World} {F : Nat} {x y : Int} (h : FC W F x y) : W.cell? ⟨F, 1, none⟩ = some (.int .i64 y) := by rw [cell_of_row _ _ _ _ _ _ h]; rfl
theorem FC.fz {W : World} {F : Nat} {x y : Int} (h : FC W F x y) (o : Nat) : W.frozen? ⟨F, o, none⟩ = false := frozen_of_row _ _ _ _ _ h
theorem FC.new (w : World) : FC (w.alloc (.cells #[.int .i64 0, .int .i64 0] 25)) w.heap.size 0 0 := heap_alloc_new _ _
theorem FC.set {W : World} {F : Nat} {x y : Int} (h : FC W F x y) (a b : Int) : FC ((W.setCell ⟨F, 0, none⟩ (.int .i64 a)).setCell ⟨F, 1, none⟩ (.int .i64 b)) F a b := by
  have h1 : (W.setCell ⟨F, 0, none⟩ (.int .i64 a)).heap[F]? = some (.cells #[.int .i64 a, .int .i64 y] 25 (0, 0)) := by
    rw [heap_setCell_same _ _ _ _ _ _ h]; rfl
  show _ = _
  rw [heap_setCell_same _ _ _ _ _ _ h1]; rfl

theorem lines_take (xs : List Rw) (n : Nat) (h : n < xs.length) : linesL (xs.take (n + 1)) = linesL (xs.take n) ++ (textL xs[n] ++ [10]) := by
  rw [← List.take_append_getElem h, lines_snoc]

end Go.Proofs.YtniipgaacdpncaaGreatDoor
