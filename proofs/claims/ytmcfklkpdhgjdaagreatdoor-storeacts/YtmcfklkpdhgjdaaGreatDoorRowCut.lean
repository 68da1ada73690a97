/-
  The contracts of row.cut, row.Within and row.Drop: the rows that are kept, in the list's order, in new memory.
-/
import Derived.Test.YtmcfklkpdhgjdaaGreatDoorRowFlat
import Derived.Lib.OwnBridge
import Derived.Shelf.Abstract
namespace Go.Proofs.YtmcfklkpdhgjdaaGreatDoor
open Go.RowKit Go.Extern.Stop Go.Stop Go.Extern Go.Sort Go.Shelf Go.Lib

theorem own_below {w w' : World} {base : Nat} {e : TypeId} {size : Nat} {v : Value} {n : Nat} {xs : List Value} (h : w.ownsRow base e size v n xs) (hb : Below w.heap.size w w') : w'.ownsRow base e size v n xs := by
  obtain ⟨h1, h2⟩ := h
  refine ⟨h1, ?_⟩
  rcases h2 with h2 | ⟨g, cap, cur, hv, hg, hc, r⟩
  · exact Or.inl h2
  · refine Or.inr ⟨g, cap, cur, hv, hg, ?_, r⟩
    have hlt : g < w.heap.size := by
      rcases Nat.lt_or_ge g w.heap.size with h' | h'
      · exact h'
      · rw [Array.getElem?_eq_none h'] at hc; cases hc
    rw [hb.block g hlt]; exact hc

theorem flat_single (x : Rw) : flatR [x] = encR x := by simp [flatR]

theorem filter_snoc (p : Rw → Bool) (xs : List Rw) (n : Nat) (h : n < xs.length) : (xs.take (n + 1)).filter p = (xs.take n).filter p ++ if p xs[n] then [xs[n]] else [] := by
  rw [List.take_succ_eq_append_getElem h, List.filter_append]
  cases hp : p xs[n] <;> simp [hp]

/-- What is asked of the function that cuts: in every world behind w it tells p, and turns nothing that was there. -/
def Tells (g : Nat) (cb : Array Value) (p : Rw → Bool) (w : World) : Prop :=
  ∀ (x : Rw) (W : World), Below w.heap.size w W → Calls Tryz.prog g (#[.agg #[.string x.1, .int .i64 x.2.1, .int .i64 x.2.2]] ++ cb) W fun e w' => e = .returned (.bool (p x)) ∧ Below W.heap.size W w'

/-- The key is from lo to hi. -/
def inB (lo hi : Int) (x : Rw) : Bool := decide (lo ≤ x.2.1) && decide (x.2.1 ≤ hi)

end Go.Proofs.YtmcfklkpdhgjdaaGreatDoor
