/-
  The contracts of the document's own Cut, by any byte, and of NumbersOf, of any texts.
-/
import Derived.Test.YtniipgaacdpncaaDoorRefEnds
import Derived.Test.YtniipgaacdpncaaDoorLinePure
namespace Go.Proofs.YtniipgaacdpncaaDoor
open Go.RowKit Go.Extern.Stop Go.Stop Go.Extern Go.Sort Go.Shelf Go.Lib

/-- Cut so far: the pieces ts before f, no d from f to n. -/
def CutInvD (d : UInt8) (l : List UInt8) (f n : Nat) (ts : List ByteArray) : Prop :=
  f ≤ n ∧ ts.length ≤ f ∧ (∀ c ∈ (l.drop f).take (n - f), c ≠ d) ∧ ts.map (·.data.toList) ++ pieces d (l.drop f) = pieces d l

theorem cutd_zero (d : UInt8) (l : List UInt8) : CutInvD d l 0 0 [] := ⟨Nat.le_refl _, Nat.le_refl _, by simp, by simp⟩

theorem cutd_skip {d : UInt8} {l : List UInt8} {f n : Nat} {ts : List ByteArray} {c : UInt8} (h : CutInvD d l f n ts) (hc : l[n]? = some c) (hne : c ≠ d) : CutInvD d l f (n + 1) ts := by
  obtain ⟨h1, h2, h3, h4⟩ := h
  refine ⟨by omega, h2, fun g hd => ?_, h4⟩
  obtain ⟨k, hk⟩ := List.mem_iff_getElem?.1 hd
  rw [List.getElem?_take] at hk
  split at hk
  · rename_i hlt
    rw [List.getElem?_drop] at hk
    rcases Nat.lt_or_ge k (n - f) with h' | h'
    · refine h3 g (List.mem_iff_getElem?.2 ⟨k, ?_⟩)
      rw [List.getElem?_take, if_pos h', List.getElem?_drop, hk]
    · rw [show f + k = n by omega, hc] at hk
      rw [← Option.some.inj hk]; exact hne
  · cases hk

theorem cutd_hit {d : UInt8} {s : ByteArray} {f n : Nat} {ts : List ByteArray} (h : CutInvD d s.data.toList f n ts) (hc : s.data.toList[n]? = some d) : CutInvD d s.data.toList (n + 1) (n + 1) (ts ++ [s.extract f n]) := by
  obtain ⟨h1, h2, h3, h4⟩ := h
  refine ⟨Nat.le_refl _, by simp; omega, by simp, ?_⟩
  have hn : n < s.data.toList.length := by
    rcases Nat.lt_or_ge n s.data.toList.length with h | h
    · exact h
    · rw [List.getElem?_eq_none h] at hc; cases hc
  have hsp : s.data.toList.drop f = (s.data.toList.drop f).take (n - f) ++ d :: s.data.toList.drop (n + 1) := by
    have e1 := List.take_append_drop (n - f) (s.data.toList.drop f)
    rw [List.drop_drop, show f + (n - f) = n by omega, List.drop_eq_getElem_cons hn] at e1
    rw [List.getElem?_eq_getElem hn] at hc
    rw [Option.some.inj hc] at e1
    exact e1.symm
  rw [hsp, pieces_append d _ _ h3] at h4
  rw [← h4, List.map_append, List.append_assoc]
  congr 1
  simp only [List.map_cons, List.map_nil, List.cons_append, List.nil_append]
  rw [extract_data]

theorem cutd_end {d : UInt8} {s : ByteArray} {f : Nat} {ts : List ByteArray} (h : CutInvD d s.data.toList f s.size ts) : (ts ++ [s.extract f s.size]).map (·.data.toList) = pieces d s.data.toList := by
  obtain ⟨h1, h2, h3, h4⟩ := h
  rw [List.take_of_length_le (by rw [List.length_drop, size_list]; omega)] at h3
  rw [pieces_none d _ h3] at h4
  rw [← h4, List.map_append]
  simp only [List.map_cons, List.map_nil, extract_to_end]

/-- What texts are: numbers, or one that is none. -/
def NumsPost (w : World) (e : Ending) (ts : List ByteArray) : Prop :=
  (∃ (zs : List Int) (v : Value), zs.length = ts.length ∧ (∀ (j : Nat) (t : ByteArray), ts[j]? = some t → numO t.data.toList = zs[j]?) ∧ e = .returned (.tuple #[v, .bool true]) ∧ KeysAt w v zs) ∨
  (∃ (j : Nat) (t : ByteArray), ts[j]? = some t ∧ numO t.data.toList = none ∧ e = .returned (.tuple #[.slice none 0 0, .bool false]))
/-- .. in a list that is new. -/
def NumsPostN (B : Nat) (w : World) (e : Ending) (ts : List ByteArray) : Prop :=
  (∃ (zs : List Int) (v : Value), zs.length = ts.length ∧ (∀ (j : Nat) (t : ByteArray), ts[j]? = some t → numO t.data.toList = zs[j]?) ∧ e = .returned (.tuple #[v, .bool true]) ∧ KeysAt w v zs ∧ ∀ k, v.ownBlock = some k → B ≤ k) ∨
  (∃ (j : Nat) (t : ByteArray), ts[j]? = some t ∧ numO t.data.toList = none ∧ e = .returned (.tuple #[.slice none 0 0, .bool false]))
theorem NumsPostN.weak {B : Nat} {w : World} {e : Ending} {ts : List ByteArray} (h : NumsPostN B w e ts) : NumsPost w e ts := by
  rcases h with ⟨zs, g, h1, h2, h3, h4, _⟩ | h
  · exact Or.inl ⟨zs, g, h1, h2, h3, h4⟩
  · exact Or.inr h

end Go.Proofs.YtniipgaacdpncaaDoor
