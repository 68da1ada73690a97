/-
  Do of the statements' own: a copy of the program's store.
-/
import Derived.Test.YtmcfklkpdhgjdaaDoorStoreActs3
import Derived.Deep.RegionHeld3
namespace Go.Proofs.YtmcfklkpdhgjdaaDoor
open Go.RowKit Go.Extern.Stop Go.Stop Go.Extern Go.Sort Go.Shelf Go.Lib

theorem copy_step {SAt : World → Value → (Nat → Prop) → St → Prop} {N : Nat} {W1 Wi w' : World} {v : Value} {FP : Nat → Prop} {s' : St} (hfr : Below N W1 Wi) (hN : N ≤ W1.heap.size) (hnew : ∀ k, FP k → N ≤ k) (hp : SPost SAt Wi v FP s' w') : ∃ FP', SAt w' v FP' s' ∧ (∀ k, FP' k → N ≤ k) ∧ Below N W1 w' := by
  obtain ⟨FP', h1, h2, h3⟩ := hp
  have hs := Nat.le_trans hN hfr.size
  refine ⟨FP', h1, fun k hk => ?_, hfr.trans (h2.below hs hnew)⟩
  rcases h3 k hk with h | h
  · exact hnew k h
  · omega
theorem nm_lit {k : ByteArray} {l : List UInt8} (h : k ≠ ⟨l.toArray⟩) : (k.toList == l) = false := by
  rw [beq_eq_false_iff_ne]
  intro e
  apply h
  apply name_ext
  rw [ByteArray.toList_eq] at e
  rw [e]
theorem sameS_self (s : St) : sameS s s = true := by unfold sameS; simp

end Go.Proofs.YtmcfklkpdhgjdaaDoor
