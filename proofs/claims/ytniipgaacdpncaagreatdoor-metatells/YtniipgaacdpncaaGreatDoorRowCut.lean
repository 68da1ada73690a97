/-
  The contracts of row.cut, row.Within and row.Drop: the rows that are kept, in the list's order, in new memory.
  The contract of row.Drop: the rows whose keys are not among the keys, in the list's order.
-/
import Derived.Test.YtniipgaacdpncaaGreatDoorRowSort
import Derived.Shelf.Abstract
namespace Go.Proofs.YtniipgaacdpncaaGreatDoor
open Go.RowKit Go.Extern.Stop Go.Stop Go.Extern Go.Sort Go.Shelf Go.Lib

theorem own_below {w w' : World} {base : Nat} {e : TypeId} {size : Nat} {v : Value} {n : Nat} {xs : List Value} (h : w.ownsRow base e size v n xs) (hb : Below w.heap.size w w') : w'.ownsRow base e size v n xs := by
  obtain ⟨h1, h2⟩ := h
  refine ⟨h1, ?_⟩
  rcases h2 with h2 | ⟨g, cap, cur, hv, hg, hc, r⟩
  · exact Or.inl h2
  · refine Or.inr ⟨g, cap, cur, hv, hg, ?_, r⟩
    have hlt : g < w.heap.size := by
      rcases Nat.lt_or_ge g w.heap.size with h' | h'
      · exact h'
      · rw [Array.getElem?_eq_none h'] at hc; cases hc
    rw [hb.block g hlt]; exact hc

theorem flat_single (x : Rw) : flatR [x] = encR x := by simp [flatR]

theorem filter_snoc (p : Rw → Bool) (xs : List Rw) (n : Nat) (h : n < xs.length) : (xs.take (n + 1)).filter p = (xs.take n).filter p ++ if p xs[n] then [xs[n]] else [] := by
  rw [List.take_succ_eq_append_getElem h, List.filter_append]
  cases hp : p xs[n] <;> simp [hp]

/-- What is asked of the function that cuts: in every world behind w it tells p, and turns nothing that was there. -/
def Tells (g : Nat) (cb : Array Value) (p : Rw → Bool) (w : World) : Prop :=
  ∀ (x : Rw) (W : World), Below w.heap.size w W → Calls Tryz.prog g (#[.agg #[.string x.1, .int .i64 x.2.1, .int .i64 x.2.2]] ++ cb) W fun e w' => e = .returned (.bool (p x)) ∧ Below W.heap.size W w'

/-- The key is from lo to hi. -/
def inB (lo hi : Int) (x : Rw) : Bool := decide (lo ≤ x.2.1) && decide (x.2.1 ≤ hi)

end Go.Proofs.YtniipgaacdpncaaGreatDoor
namespace Go.Proofs.YtniipgaacdpncaaGreatDoor
open Go.RowKit Go.Extern.Stop Go.Stop Go.Extern Go.Sort Go.Shelf Go.Lib

/-- A slice of whole numbers, as it reads. -/
def KeysAt (w : World) (v : Value) (zs : List Int) : Prop :=
  (∃ p c, v = .slice p 0 c ∧ zs = []) ∨ ∃ b o cap, v = .slice (some ⟨b, o, none⟩) zs.length cap ∧ ∀ j (h : j < zs.length), w.cell? ⟨b, o + j, none⟩ = some (.int .i64 zs[j])

theorem KeysAt.below {w w' : World} {v : Value} {zs : List Int} (h : KeysAt w v zs) (hb : Below w.heap.size w w') : KeysAt w' v zs := by
  rcases h with h | ⟨b, o, cap, hv, hc⟩
  · exact Or.inl h
  · exact Or.inr ⟨b, o, cap, hv, fun j hj => below_keep hb (hc j hj)⟩

theorem getD_of {zs : List Int} {j : Nat} (h : j < zs.length) : zs.getD j 0 = zs[j] := by simp [List.getD, List.getElem?_eq_getElem h]

theorem cloneInts_any (v : Value) (zs : List Int) (w : World) (h : KeysAt w v zs) (hl : zs.length ≤ 1000) :
    Calls Tryz.prog 33 #[v] w fun e w' => ∃ v', e = .returned v' ∧ w'.ownsRow w.heap.size 3 1 v' zs.length (zs.map (Value.int .i64)) ∧ Below w.heap.size w w' := by
  rcases h with ⟨p, c, rfl, rfl⟩ | ⟨b, o, cap, rfl, hc⟩
  · cases p with
    | none =>
      refine (Tryz.slices_Clone_int_nil 0 c w).mono fun e w' ⟨he, hw⟩ => ⟨_, he, World.ownsRow_nil _ _ _ _, ?_⟩
      subst hw; exact Below.refl _ _
    | some ad => exact (Tryz.slices_Clone_int_zero ad c w).mono fun e w' ⟨v', he, ho, _, hb⟩ => ⟨v', he, ho, hb⟩
  · refine (Tryz.slices_Clone_int b o zs.length cap zs w (Nat.le_refl _) (by omega) (fun j hj => by rw [getD_of hj]; exact hc j hj)).mono fun e w' ⟨v', he, ho, _, hb⟩ => ⟨v', he, ?_, hb⟩
    rw [List.take_length] at ho
    exact ho

/-- The keys, rising. -/
def sortZ (zs : List Int) : List Int := zs.mergeSort fun x y => decide (x ≤ y)
theorem sortZ_len (zs : List Int) : (sortZ zs).length = zs.length := by simp [sortZ]
theorem sortZ_mem (zs : List Int) (x : Int) : x ∈ sortZ zs ↔ x ∈ zs := (List.mergeSort_perm _ _).mem_iff
theorem sortZ_sorted (zs : List Int) : (sortZ zs).Pairwise (· ≤ ·) := by
  have h := List.pairwise_mergeSort (le := fun x y : Int => decide (x ≤ y)) (fun a b c h1 h2 => by simp at *; omega) (fun a b => by simp; omega) zs
  exact h.imp fun h => by simpa using h

/-- Its key is none of them. -/
def outB (zs : List Int) (x : Rw) : Bool := !zs.contains x.2.1

theorem contains_sortZ (zs : List Int) (x : Int) : (sortZ zs).contains x = zs.contains x := by
  rw [Bool.eq_iff_iff]; simp [sortZ_mem]

end Go.Proofs.YtniipgaacdpncaaGreatDoor
