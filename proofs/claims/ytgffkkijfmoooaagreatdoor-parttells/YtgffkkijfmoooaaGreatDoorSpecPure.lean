/-
  Plain facts of specs: the document's words of a spec, and what package part cuts.
-/
import Derived.Test.YtgffkkijfmoooaaGreatDoorPartOf
import Derived.Test.YtgffkkijfmoooaaGreatDoorRefRead
namespace Go.Proofs.YtgffkkijfmoooaaGreatDoor
open Go.RowKit Go.Extern.Stop Go.Stop Go.Extern Go.Sort Go.Shelf Go.Lib

/-- A text, cut at its first blank. -/
theorem cut_words (l : List UInt8) : (words l = [l] ∧ cutK l = l ∧ cutW l = []) ∨ (words l = cutK l :: words (cutW l)) := by
  have h1 := index_one l 32
  unfold cutK cutW Lib.cut
  rcases index_spec l [32] with ⟨h, _⟩ | ⟨i, h, hi, _, _⟩
  · rw [h] at h1
    have hno := indexByte_none h1.symm
    refine Or.inl ⟨words_none l fun c hc e => ?_, ?_, ?_⟩
    · obtain ⟨k, hk⟩ := List.mem_iff_getElem?.1 hc
      exact hno k (by rw [hk, e])
    · rw [if_neg (by omega)]
    · rw [if_neg (by omega)]
  · rw [h] at h1
    obtain ⟨hc, hno⟩ := indexByte_some h1.symm
    refine Or.inr ?_
    rw [if_pos (by omega), h]
    simp only [Int.toNat_natCast, List.length_cons, List.length_nil, Nat.zero_add]
    have hlt : i < l.length := by
      rcases Nat.lt_or_ge i l.length with h' | h'
      · exact h'
      · rw [List.getElem?_eq_none h'] at hc; cases hc
    have hsp : l = l.take i ++ 32 :: l.drop (i + 1) := by
      have e1 := List.take_append_drop i l
      rw [List.drop_eq_getElem_cons hlt] at e1
      rw [List.getElem?_eq_getElem hlt] at hc
      rw [Option.some.inj hc] at e1
      exact e1.symm
    conv => lhs; rw [hsp]
    refine words_append _ _ fun c hc' e => ?_
    obtain ⟨k, hk⟩ := List.mem_iff_getElem?.1 hc'
    rw [List.getElem?_take] at hk
    split at hk
    · rename_i hki
      exact hno k hki (by rw [hk, e])
    · cases hk

theorem numO_blank {l : List UInt8} (h : (words l).length ≠ 1) : numO l = none := by
  cases hn : numO l with
  | none => rfl
  | some n =>
    exfalso
    apply h
    have e : itoa n = l := by
      unfold numO at hn
      split at hn
      · split at hn
        · split at hn
          · rename_i e; simp only [Option.some.injEq] at hn; rw [← hn]; exact e
          · cases hn
        · cases hn
      · cases hn
    rw [← e, words_none _ (itoa_no_blank n)]
    rfl

theorem numO_nil : numO [] = none := by
  cases hn : numO [] with
  | none => rfl
  | some n =>
    exfalso
    unfold numO at hn
    split at hn
    · split at hn
      · split at hn
        · rename_i e
          have h0 := congrArg List.length e
          unfold itoa at h0
          split at h0
          · simp at h0
          · exact digits_ne _ (List.length_eq_zero_iff.1 h0)
        · cases hn
      · cases hn
    · cases hn

theorem spec_two {l k n : List UInt8} (hp : l ≠ kPart) (h : words l = [k, n]) :
    specO l = if k = kBucket then (if (nO n).1 = 0 then (0, 1, (nO n).2) else ((nO n).1, 0, 0)) else if k = kTrunc then (if (nO n).1 = 0 then (0, 2, (nO n).2) else ((nO n).1, 0, 0)) else (1, 0, 0) := by
  rcases cut_words l with ⟨h1, _⟩ | h1
  · rw [h1] at h; cases h
  · rw [h1] at h
    simp only [List.cons.injEq] at h
    obtain ⟨rfl, h2⟩ := h
    have hW : cutW l = n := by
      rcases cut_words (cutW l) with ⟨h3, _⟩ | h3
      · rw [h3] at h2; simpa using h2
      · have : (words (cutW (cutW l))).length = 0 := by rw [h3] at h2; simp only [List.cons.injEq] at h2; rw [h2.2]; rfl
        rcases cut_words (cutW (cutW l)) with ⟨h4, _⟩ | h4 <;> (rw [h4] at this; simp at this)
    unfold specO
    rw [if_neg hp, hW]

theorem spec_other {l : List UInt8} (hp : l ≠ kPart) (h : (words l).length ≠ 2) : specO l = (1, 0, 0) := by
  have e : nO (cutW l) = (1, 0) := by
    unfold nO
    rcases cut_words l with ⟨_, _, h1⟩ | h1
    · rw [h1, numO_nil]
    · rw [h1] at h
      rw [numO_blank (fun e => h (by rw [List.length_cons, e]))]
  unfold specO
  rw [if_neg hp, e]
  simp

/-- The document's word of a right spec. -/
def specW (l : List UInt8) : ByteArray := if (specO l).1 = 0 then (if (specO l).2.1 = 0 then bytesOf kPart else if (specO l).2.1 = 1 then bytesOf kBucket else bytesOf kTrunc) else bytesOf []

theorem nO_fit {l : List UInt8} (h : (nO l).1 = 0) : ∃ n, numO l = some n ∧ ¬ n < 0 ∧ ¬ 9 < l.length ∧ ¬ n < 1 ∧ ¬ 1000 < n ∧ nO l = (0, n) := by
  unfold nO at h ⊢
  split at h
  · cases h
  · split at h
    · cases h
    · split at h
      · cases h
      · rename_i n hn h1 h2
        exact ⟨n, hn, by omega, by omega, by omega, by omega, by rw [if_neg h1, if_neg h2]⟩

/-- Back from a floor: the quotient to the lower side. -/
theorem low_div (k n : Int) (hn : 1 ≤ n) : (k - k % n).tdiv n = k / n := by
  have e : k - k % n = n * (k / n) := by have := Int.mul_ediv_add_emod k n; omega
  rw [e, Int.mul_tdiv_cancel_left _ (by omega)]
end Go.Proofs.YtgffkkijfmoooaaGreatDoor
