/-
  The contracts of Names of the document's own store, and of the document's own SameTexts.
-/
import Derived.Test.YtmcfklkpdhgjdaaDoorRefStore2
import Derived.Test.YtmcfklkpdhgjdaaDoorRefWords
namespace Go.Proofs.YtmcfklkpdhgjdaaDoor
open Go.RowKit Go.Extern.Stop Go.Stop Go.Extern Go.Sort Go.Shelf Go.Lib

/-- A slice of texts, as it reads (none may point nowhere). -/
def TxsAt (w : World) (v : Value) (ts : List ByteArray) : Prop :=
  (∃ p c, v = .slice p 0 c ∧ ts = []) ∨ ∃ b o cap, v = .slice (some ⟨b, o, none⟩) ts.length cap ∧ ∀ j (h : j < ts.length), w.cell? ⟨b, o + j, none⟩ = some (.string ts[j])
theorem TxsAt.below {w w' : World} {v : Value} {ts : List ByteArray} (h : TxsAt w v ts) (hb : Below w.heap.size w w') : TxsAt w' v ts := by
  rcases h with h | ⟨b, o, cap, hv, hc⟩
  · exact Or.inl h
  · exact Or.inr ⟨b, o, cap, hv, fun j hj => below_keep hb (hc j hj)⟩
theorem TxsAt.form {w : World} {v : Value} {ts : List ByteArray} (h : TxsAt w v ts) : ∃ q c, v = .slice q ts.length c := by
  rcases h with ⟨p, c, rfl, rfl⟩ | ⟨b, o, cap, rfl, _⟩
  · exact ⟨p, c, rfl⟩
  · exact ⟨_, cap, rfl⟩
theorem TxsAt.at {w : World} {q : Option Addr} {n c : Nat} {ts : List ByteArray} (h : TxsAt w (.slice q n c) ts) (hne : ts ≠ []) : ∃ b o, q = some ⟨b, o, none⟩ ∧ ∀ j (h : j < ts.length), w.cell? ⟨b, o + j, none⟩ = some (.string ts[j]) := by
  rcases h with ⟨p, c', _, e⟩ | ⟨b, o, cap, e, hc⟩
  · exact absurd e hne
  · injection e with e1
    exact ⟨b, o, e1, hc⟩
theorem txs_of_own {w : World} {base : Nat} {v : Value} {ts : List ByteArray} (h : w.ownsRow base 9 1 v ts.length (ts.map Value.string)) : TxsAt w v ts := by
  obtain ⟨hl, h⟩ := h
  rcases h with ⟨hv, hn⟩ | ⟨g, cap, cur, rfl, _, hg, hcp, _, _, ht⟩
  · exact Or.inl ⟨none, 0, by rw [hv], List.length_eq_zero_iff.1 hn⟩
  · refine Or.inr ⟨g, 0, cap, rfl, fun j hj => ?_⟩
    have hu : (ts.map Value.string)[j]? = some (.string ts[j]) := by simp [hj]
    rw [← ht, List.getElem?_take, if_pos (by simpa using hj)] at hu
    simp only [World.cell?, hg, Nat.zero_add]
    simpa using hu

theorem ob_take {l : List Ob} {n : Nat} (h : n < l.length) : ((l.take (n + 1)).map (·.1)).map Value.string = ((l.take n).map (·.1)).map Value.string ++ [Value.string l[n].1] := by
  rw [List.take_succ_eq_append_getElem h, List.map_append, List.map_append]
  rfl

end Go.Proofs.YtmcfklkpdhgjdaaDoor
