/-
  Lists of rows in memory; the equality of two rows; the statements' helpers LongRows, SameRows and OwnRows.
-/
import Derived.Shelf.Lay
import Derived.Shelf.LaySoft
import Derived.Shelf.SlGeneric
import Derived.Shelf.Slices.Clone
import Derived.Lib.SlBy2
import Derived.Test.YtmcfklkpdhgjdaaDoorProg
import Derived.Test.YtmcfklkpdhgjdaaDoorPure
import Derived.WalkKit
import Derived.StillTailTactics
import Derived.Sort.Grow
import Derived.Deep.QuietTactic
import Derived.BigQuiet
import Derived.Laws.StructEq
namespace Go.Proofs.YtmcfklkpdhgjdaaDoor
open Go.RowKit Go.Extern.Stop Go.Stop Go.Extern Go.Sort Go.Shelf Go.Lib

theorem cell_lt {W : World} {p : Addr} {v : Value} (h : W.cell? p = some v) : p.block < W.heap.size := by
  rcases Nat.lt_or_ge p.block W.heap.size with h' | h'
  · exact h'
  · simp [World.cell?, Array.getElem?_eq_none h'] at h

theorem below_keep {W W' : World} (hb : Below W.heap.size W W') {p : Addr} {v : Value} (h : W.cell? p = some v) : W'.cell? p = some v :=
  (hb.cell (cell_lt h)).trans h

theorem below_drewN {B : Nat} {a w : World} (h : Below B a w) (n : Nat) : Below B a (w.drewN n) := ⟨h.os, h.tape, h.output, h.size, h.block⟩

theorem below_grow {w : World} (os : Array Obj) : Below w.heap.size w (grow w os) :=
  ⟨rfl, rfl, rfl, by simp [grow], fun k hk => by simp [grow, Array.getElem?_append, hk]⟩

/-- Rows, one behind the other, from o on. -/
def RowCells (w : World) (b o : Nat) (xs : List Rw) : Prop :=
  ∀ j (h : j < xs.length), w.cell? ⟨b, o + j * 3, none⟩ = some (.string xs[j].1) ∧ w.cell? ⟨b, o + j * 3 + 1, none⟩ = some (.int .i64 xs[j].2.1) ∧ w.cell? ⟨b, o + j * 3 + 2, none⟩ = some (.int .i64 xs[j].2.2)

/-- A slice of rows, as it reads. -/
def RowsAt (w : World) (v : Value) (xs : List Rw) : Prop :=
  (∃ p c, v = .slice p 0 c ∧ xs = []) ∨ ∃ b o cap, v = .slice (some ⟨b, o, none⟩) xs.length cap ∧ RowCells w b o xs

theorem RowCells.below {w w' : World} {b o : Nat} {xs : List Rw} (h : RowCells w b o xs) (hb : Below w.heap.size w w') : RowCells w' b o xs :=
  fun j hj => ⟨below_keep hb (h j hj).1, below_keep hb (h j hj).2.1, below_keep hb (h j hj).2.2⟩

theorem RowsAt.below {w w' : World} {v : Value} {xs : List Rw} (h : RowsAt w v xs) (hb : Below w.heap.size w w') : RowsAt w' v xs := by
  rcases h with h | ⟨b, o, cap, hv, hc⟩
  · exact Or.inl h
  · exact Or.inr ⟨b, o, cap, hv, hc.below hb⟩

/-- Are they too many, or is one of their Parts too long? -/
def longB (m : Int) (xs : List Rw) : Bool := decide (m < xs.length) || xs.any fun x => decide (30 < x.1.size)

def longN (m : Int) (xs : List Rw) : Int := if longB m xs then 1 else 0

theorem longN_yes {m : Int} {xs : List Rw} (h : longB m xs = true) : longN m xs = 1 := by simp [longN, h]
theorem longN_no {m : Int} {xs : List Rw} (h : longB m xs = false) : longN m xs = 0 := by simp [longN, h]

theorem longB_len {m : Int} {xs : List Rw} (h : longB m xs = false) : (xs.length : Int) ≤ m := by
  simp [longB] at h; omega

theorem longB_part {m : Int} {xs : List Rw} (h : longB m xs = false) (x : Rw) (hx : x ∈ xs) : x.1.size ≤ 30 := by
  simp [longB] at h
  obtain ⟨p, k, v⟩ := x
  exact h.2 p k v hx

theorem parts_succ {xs : List Rw} {n : Nat} (h : ∀ j (h : j < xs.length), j < n → xs[j].1.size ≤ 30) (hn : n < xs.length) (e : xs[n].1.size ≤ 30) : ∀ j (h : j < xs.length), j < n + 1 → xs[j].1.size ≤ 30 := fun j hj hjn => by
  rcases Nat.lt_or_ge j n with h' | h'
  · exact h j hj h'
  · obtain rfl : j = n := by omega
    exact e

end Go.Proofs.YtmcfklkpdhgjdaaDoor
