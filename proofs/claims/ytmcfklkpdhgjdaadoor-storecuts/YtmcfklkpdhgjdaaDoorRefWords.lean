/-
  The contract of the document's own Cut.
-/
import Derived.Test.YtmcfklkpdhgjdaaDoorTextPure
import Derived.Test.YtmcfklkpdhgjdaaDoorRefText
namespace Go.Proofs.YtmcfklkpdhgjdaaDoor
open Go.RowKit Go.Extern.Stop Go.Stop Go.Extern Go.Sort Go.Shelf Go.Lib

/-- A slice of texts, as it reads. -/
def TextsAt (w : World) (v : Value) (ts : List ByteArray) : Prop :=
  ∃ b cap, v = .slice (some ⟨b, 0, none⟩) ts.length cap ∧ ts.length ≤ cap ∧ ∀ j (h : j < ts.length), w.cell? ⟨b, j, none⟩ = some (.string ts[j])

theorem TextsAt.below {w w' : World} {v : Value} {ts : List ByteArray} (h : TextsAt w v ts) (hb : Below w.heap.size w w') : TextsAt w' v ts := by
  obtain ⟨b, cap, hv, hc, h⟩ := h
  exact ⟨b, cap, hv, hc, fun j hj => below_keep hb (h j hj)⟩

theorem textsAt_of_own {w : World} {base : Nat} {v : Value} {ts : List ByteArray} (hne : ts ≠ []) (h : w.ownsRow base 9 1 v ts.length (ts.map Value.string)) : TextsAt w v ts := by
  obtain ⟨hl, h⟩ := h
  rcases h with ⟨hv, hn⟩ | ⟨g, cap, cur, rfl, _, hg, hc, _, _, ht⟩
  · exact absurd (List.length_eq_zero_iff.1 hn) hne
  · refine ⟨g, cap, rfl, hc, fun j hj => ?_⟩
    have hu : (ts.map Value.string)[j]? = some (.string ts[j]) := by simp [hj]
    rw [← ht, List.getElem?_take, if_pos (by omega)] at hu
    simp only [World.cell?, hg]
    simpa using hu

theorem Tryd.strInfo3 : (Tryd.prog.info? 9).map (fun i => (i.zero, i.size, i.bytes)) = some (some (.string ⟨#[]⟩), 1, 16) := by kernel_rfl
theorem Tryd.strInfo : ∃ i0 : TypeInfo, Tryd.prog.info? 9 = some i0 ∧ i0.zero = some (.string ⟨#[]⟩) ∧ i0.size = 1 ∧ i0.bytes = 16 := by
  obtain ⟨i, hi, h⟩ := Option.map_eq_some_iff.1 Tryd.strInfo3
  simp only [Prod.mk.injEq] at h
  exact ⟨i, hi, h.1, h.2.1, h.2.2⟩

theorem cell_one (w : World) (x : Value) (t : TypeId) : ∀ j u, [x][j]? = some u → (w.alloc (.cells #[x] t)).cell? ((⟨w.heap.size, 0, none⟩ : Addr).add j) = some u := by
  intro j u hj
  rw [Addr.add_lit, Nat.zero_add]
  match j, hj with
  | 0, hj => simp at hj; subst hj; simp
  | j + 1, hj => simp at hj

/-- Cut so far: the pieces ts before f, no blank from f to n. -/
def CutInv (l : List UInt8) (f n : Nat) (ts : List ByteArray) : Prop :=
  f ≤ n ∧ ts.length ≤ f ∧ (∀ c ∈ (l.drop f).take (n - f), c ≠ 32) ∧ ts.map (·.data.toList) ++ words (l.drop f) = words l

theorem cut_zero (l : List UInt8) : CutInv l 0 0 [] := ⟨Nat.le_refl _, Nat.le_refl _, by simp, by simp⟩

theorem cut_skip {l : List UInt8} {f n : Nat} {ts : List ByteArray} {c : UInt8} (h : CutInv l f n ts) (hc : l[n]? = some c) (hne : c ≠ 32) : CutInv l f (n + 1) ts := by
  obtain ⟨h1, h2, h3, h4⟩ := h
  refine ⟨by omega, h2, fun d hd => ?_, h4⟩
  obtain ⟨k, hk⟩ := List.mem_iff_getElem?.1 hd
  rw [List.getElem?_take] at hk
  split at hk
  · rename_i hlt
    rw [List.getElem?_drop] at hk
    rcases Nat.lt_or_ge k (n - f) with h' | h'
    · refine h3 d (List.mem_iff_getElem?.2 ⟨k, ?_⟩)
      rw [List.getElem?_take, if_pos h', List.getElem?_drop, hk]
    · rw [show f + k = n by omega, hc] at hk
      rw [← Option.some.inj hk]; exact hne
  · cases hk

theorem cut_hit {s : ByteArray} {f n : Nat} {ts : List ByteArray} (h : CutInv s.data.toList f n ts) (hc : s.data.toList[n]? = some 32) : CutInv s.data.toList (n + 1) (n + 1) (ts ++ [s.extract f n]) := by
  obtain ⟨h1, h2, h3, h4⟩ := h
  refine ⟨Nat.le_refl _, by simp; omega, by simp, ?_⟩
  have hn : n < s.data.toList.length := by
    rcases Nat.lt_or_ge n s.data.toList.length with h | h
    · exact h
    · rw [List.getElem?_eq_none h] at hc; cases hc
  have hsp : s.data.toList.drop f = (s.data.toList.drop f).take (n - f) ++ 32 :: s.data.toList.drop (n + 1) := by
    have e1 := List.take_append_drop (n - f) (s.data.toList.drop f)
    rw [List.drop_drop, show f + (n - f) = n by omega, List.drop_eq_getElem_cons hn] at e1
    rw [List.getElem?_eq_getElem hn] at hc
    rw [Option.some.inj hc] at e1
    exact e1.symm
  rw [hsp, words_append _ _ h3] at h4
  rw [← h4, List.map_append, List.append_assoc]
  congr 1
  simp only [List.map_cons, List.map_nil, List.cons_append, List.nil_append]
  rw [extract_data]

theorem cut_end {s : ByteArray} {f : Nat} {ts : List ByteArray} (h : CutInv s.data.toList f s.size ts) : (ts ++ [s.extract f s.size]).map (·.data.toList) = words s.data.toList := by
  obtain ⟨h1, h2, h3, h4⟩ := h
  rw [List.take_of_length_le (by rw [List.length_drop, size_list]; omega)] at h3
  rw [words_none _ h3] at h4
  rw [← h4, List.map_append]
  simp only [List.map_cons, List.map_nil, extract_to_end]

end Go.Proofs.YtmcfklkpdhgjdaaDoor
