/-
  The contract of the document's own ReadData.
-/
import Derived.Test.YtgffkkijfmoooacDoorRefHead
import Derived.Test.YtgffkkijfmoooacDoorRefWords
import Derived.BigRegion
namespace Go.Proofs.YtgffkkijfmoooacDoor
open Go.RowKit Go.Extern.Stop Go.Stop Go.Extern Go.Sort Go.Shelf Go.Lib

/-- What ReadData hands back. -/
def ReadPost (w : World) (D : List Rw × Nat × Option Nat) (e : Ending) (w' : World) : Prop :=
  Below w.heap.size w w' ∧ ((D.2.1 = 0 ∧ ∃ v, e = .returned (.tuple #[v, .agg #[.int .i64 0, .int .i64 (-1)]]) ∧ RowsAt w' v D.1) ∨
    (D.2.1 ≠ 0 ∧ ∃ j : Int, e = .returned (.tuple #[.slice none 0 0, .agg #[.int .i64 D.2.1, .int .i64 j]]) ∧ (D.2.2 = none → j = -1) ∧ ∀ k : Nat, D.2.2 = some k → j = k))

theorem own_slice {W : World} {base : Nat} {e : TypeId} {size : Nat} {v : Value} {n : Nat} {xs : List Value} (h : W.ownsRow base e size v n xs) : ∃ q c, v = .slice q n c := by
  rcases h.2 with ⟨rfl, rfl⟩ | ⟨g, cap, cur, rfl, _⟩
  · exact ⟨_, _, rfl⟩
  · exact ⟨_, _, rfl⟩

theorem pieces_len (d : UInt8) : ∀ (l : List UInt8), ∀ x ∈ pieces d l, x.length ≤ l.length
  | [], x, h => by simp [pieces] at h; simp [h]
  | c :: r, x, h => by
    have ih := pieces_len d r
    unfold pieces at h
    split at h
    · rw [List.mem_cons] at h
      rcases h with rfl | h
      · simp
      · have := ih x h; simp; omega
    · split at h
      · rw [List.mem_singleton] at h; subst h; simp
      · rename_i w ws e
        rw [e] at ih
        rw [List.mem_cons] at h
        rcases h with rfl | h
        · have := ih w List.mem_cons_self; simp; omega
        · have := ih x (List.mem_cons_of_mem _ h); simp; omega

theorem blk_other {W : World} {g b : Nat} {o : Nat} {v : Value} {x : Option Obj} (h : W.heap[g]? = x) (hne : g ≠ b) : (W.setCell ⟨b, o, none⟩ v).heap[g]? = x := by
  rw [heap_setCell_other _ _ _ _ hne]; exact h

theorem headF_end (n lo hi : Int) (acc : List Rw) : endO n lo hi (acc, 0, 0) = if headF n lo hi (keysR acc) = 0 then (acc, 0, none) else ([], headF n lo hi (keysR acc), none) := by
  have e : (keysR acc).length = acc.length := by simp [keysG]
  unfold endO endG headF
  rw [e]
  simp only [ne_eq, not_true_eq_false, if_false]
  split
  · simp
  · split <;> simp

end Go.Proofs.YtgffkkijfmoooacDoor
