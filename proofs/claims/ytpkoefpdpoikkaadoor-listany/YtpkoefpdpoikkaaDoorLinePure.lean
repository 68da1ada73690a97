/-
  Plain mathematics of texts that are cut by any byte.
-/
import Derived.Test.YtpkoefpdpoikkaaDoorTextPure
import Derived.Lib.IndexMore
namespace Go.Proofs.YtpkoefpdpoikkaaDoor
open Go Go.Lib

def pieces (d : UInt8) : List UInt8 → List (List UInt8)
  | [] => [[]]
  | c :: r => if c = d then [] :: pieces d r else match pieces d r with
    | [] => [[c]]
    | w :: ws => (c :: w) :: ws

theorem pieces_append (d : UInt8) : ∀ a b : List UInt8, (∀ c ∈ a, c ≠ d) → pieces d (a ++ d :: b) = a :: pieces d b
  | [], b, _ => by simp [pieces]
  | c :: r, b, h => by
    have hr := pieces_append d r b (fun e he => h e (List.mem_cons_of_mem _ he))
    rw [List.cons_append, pieces, if_neg (h c List.mem_cons_self), hr]

theorem cut_cases (d : UInt8) (l : List UInt8) : ((∀ c ∈ l, c ≠ d) ∧ Lib.cut l [d] = (l, [], false)) ∨ ∃ a b, l = a ++ d :: b ∧ (∀ c ∈ a, c ≠ d) ∧ Lib.cut l [d] = (a, b, true) := by
  have h1 := index_one l d
  rcases index_spec l [d] with ⟨h, _⟩ | ⟨i, h, hi, _, _⟩
  · rw [h] at h1
    have hno := indexByte_none h1.symm
    refine Or.inl ⟨fun c hc e => ?_, ?_⟩
    · obtain ⟨k, hk⟩ := List.mem_iff_getElem?.1 hc
      exact hno k (by rw [hk, e])
    · unfold Lib.cut
      rw [if_neg (by omega)]
  · rw [h] at h1
    obtain ⟨hc, hno⟩ := indexByte_some h1.symm
    have hlt : i < l.length := by
      rcases Nat.lt_or_ge i l.length with h' | h'
      · exact h'
      · rw [List.getElem?_eq_none h'] at hc; cases hc
    have hsp : l = l.take i ++ d :: l.drop (i + 1) := by
      have e1 := List.take_append_drop i l
      rw [List.drop_eq_getElem_cons hlt] at e1
      rw [List.getElem?_eq_getElem hlt] at hc
      rw [Option.some.inj hc] at e1
      exact e1.symm
    refine Or.inr ⟨l.take i, l.drop (i + 1), hsp, fun c hc' e => ?_, ?_⟩
    · obtain ⟨k, hk⟩ := List.mem_iff_getElem?.1 hc'
      rw [List.getElem?_take] at hk
      split at hk
      · rename_i hki
        exact hno k hki (by rw [hk, e])
      · cases hk
    · unfold Lib.cut
      rw [if_pos (by omega), h]
      simp

theorem cut_split (d : UInt8) {l a b a' b' : List UInt8} (h : l = a ++ d :: b) (hn : ∀ c ∈ a, c ≠ d) (h' : Lib.cut l [d] = (a', b', true)) : a' = a ∧ b' = b := by
  rcases cut_cases d l with ⟨_, h2⟩ | ⟨x, y, e, hx, h2⟩
  · rw [h2] at h'; cases h'
  · rw [h2] at h'
    simp only [Prod.mk.injEq, and_true] at h'
    obtain ⟨rfl, rfl⟩ := h'
    have p1 := pieces_append d a b hn
    have p2 := pieces_append d x y hx
    rw [← h] at p1
    rw [← e] at p2
    have e1 : x = a := by rw [p1] at p2; simpa using (List.cons.inj p2).1.symm
    subst e1
    rw [h] at e
    have e2 := List.append_cancel_left e
    exact ⟨rfl, (List.cons.inj e2).2.symm⟩

theorem cut_at (d : UInt8) (a b : List UInt8) (hn : ∀ c ∈ a, c ≠ d) : Lib.cut (a ++ d :: b) [d] = (a, b, true) := by
  rcases cut_cases d (a ++ d :: b) with ⟨h, _⟩ | ⟨x, y, e, hx, h⟩
  · exact absurd rfl (h d (by simp))
  · obtain ⟨e1, e2⟩ := cut_split d rfl hn h
    rw [h, e1, e2]
theorem numO_spelt {l : List UInt8} {n : Int} (h : numO l = some n) : itoa n = l ∧ l.length ≤ 11 := by
  unfold numO at h
  split at h
  · rename_i hl
    split at h
    · split at h
      · rename_i e; simp only [Option.some.injEq] at h; rw [← h]; exact ⟨e, hl⟩
      · cases h
    · cases h
  · cases h

end Go.Proofs.YtpkoefpdpoikkaaDoor
