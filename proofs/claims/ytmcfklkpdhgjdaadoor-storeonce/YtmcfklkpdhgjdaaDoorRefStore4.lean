/-
  The contract of Drop of the document's own store.
-/
import Derived.Test.YtmcfklkpdhgjdaaDoorRefStore3
namespace Go.Proofs.YtmcfklkpdhgjdaaDoor
open Go.RowKit Go.Extern.Stop Go.Stop Go.Extern Go.Sort Go.Shelf Go.Lib

theorem obCells_take {w : World} {b o : Nat} {fs : List Ob} (h : ObCells w b o fs) (n : Nat) : ObCells w b o (fs.take n) := fun j hj => by
  rw [List.length_take] at hj
  have := h j (by omega)
  rw [List.getElem_take]
  exact this
theorem obCells_drop {w : World} {b o : Nat} {fs : List Ob} (h : ObCells w b o fs) (n : Nat) : ObCells w b (o + n * 3) (fs.drop n) := fun j hj => by
  rw [List.length_drop] at hj
  have := h (n + j) (by omega)
  rw [List.getElem_drop]
  have e : o + n * 3 + j * 3 = o + (n + j) * 3 := by omega
  rw [e]
  exact this

theorem drop_at {l : List Ob} {n : ByteArray} {j : Nat} (h : l.Pairwise fun a b => a.1.data.toList < b.1.data.toList) (hj : j < l.length) (e : l[j].1 = n) : (l.filter fun o => decide (o.1 ≠ n)) = l.take j ++ l.drop (j + 1) := by
  have hs : l = l.take j ++ l[j] :: l.drop (j + 1) := by rw [List.getElem_cons_drop, List.take_append_drop]
  have h' := h
  rw [hs] at h'
  obtain ⟨h1, h2, h3⟩ := List.pairwise_append.1 h'
  obtain ⟨h4, h5⟩ := List.pairwise_cons.1 h2
  have hx : ∀ p ∈ l.take j, p.1 ≠ n := fun p hp ep => by
    have := h3 p hp l[j] List.mem_cons_self
    rw [e, ep] at this
    exact lt_irr_l _ this
  have hy : ∀ p ∈ l.drop (j + 1), p.1 ≠ n := fun p hp ep => by
    have := h4 p hp
    rw [e, ep] at this
    exact lt_irr_l _ this
  conv => lhs; rw [hs]
  rw [List.filter_append, List.filter_cons, if_neg (by simpa using e), List.filter_eq_self.2 (fun p hp => by simpa using hx p hp), List.filter_eq_self.2 (fun p hp => by simpa using hy p hp)]

end Go.Proofs.YtmcfklkpdhgjdaaDoor
