/-
  Plain mathematics of the document's own NumberOf: a number is its own numeral, read digit by digit.
-/
import Derived.Test.YtniipgaacdpncaaGreatDoorTextPure
namespace Go.Proofs.YtniipgaacdpncaaGreatDoor
open Go Go.Lib

theorem digitVal_is {c : UInt8} {d : Nat} (h : digitVal c = some d) : d < 10 ∧ c = UInt8.ofNat (48 + d) := by
  unfold digitVal at h
  split at h
  · rename_i hc
    have e := Option.some.inj h
    refine ⟨by omega, ?_⟩
    apply UInt8.toNat_inj.1
    rw [UInt8.toNat_ofNat']
    omega
  · cases h

theorem digits_zero : decDigits 0 = [48] := by rw [decDigits, dif_pos (by omega)]; rfl

theorem head_append {l r : List UInt8} (h : l ≠ []) : (l ++ r).head? = l.head? := by
  cases l with
  | nil => exact absurd rfl h
  | cons a l => rfl

theorem digits_head (u : Nat) (h : 1 ≤ u) : (decDigits u).head? ≠ some 48 := by
  induction u using Nat.strongRecOn with
  | _ u ih =>
    rw [decDigits]
    by_cases h' : u < 10
    · rw [dif_pos h']
      intro e
      simp only [List.head?_cons, Option.some.injEq] at e
      have := congrArg UInt8.toNat e
      rw [UInt8.toNat_ofNat'] at this
      simp at this
      omega
    · rw [dif_neg h', head_append (digits_ne _)]
      exact ih (u / 10) (by omega) (by omega)

/-- Digits with no idle zero in front are the numeral of what they spell. -/
theorem digits_of : ∀ (k : Nat) (l : List UInt8) (m : Nat), l.length = k → l ≠ [] → (l.head? = some 48 → l.length = 1) → decFrom 0 l = some m → decDigits m = l := by
  intro k
  induction k with
  | zero => intro l m hl hne; exact absurd (List.length_eq_zero_iff.1 hl) hne
  | succ k ih =>
    intro l m hl hne hz h
    obtain ⟨r, c, rfl⟩ : ∃ r c, l = r ++ [c] := ⟨l.dropLast, l.getLast hne, (List.dropLast_concat_getLast hne).symm⟩
    rw [decFrom_append] at h
    by_cases hr : r = []
    · subst hr
      simp only [decFrom, Option.bind_some] at h
      cases hd : digitVal c with
      | none => rw [hd] at h; cases h
      | some d =>
        rw [hd] at h
        obtain ⟨h1, rfl⟩ := digitVal_is hd
        simp at h
        subst h
        rw [decDigits, dif_pos h1]
        rfl
    · cases hm : decFrom 0 r with
      | none => rw [hm] at h; cases h
      | some q =>
        rw [hm] at h
        simp only [Option.bind_some, decFrom] at h
        have hrl : r.length = k := by simp at hl; omega
        have hr1 : 1 ≤ r.length := List.length_pos_iff.2 hr
        rw [head_append hr] at hz
        have hz' : r.head? ≠ some 48 := fun e => by have := hz e; rw [List.length_append, List.length_singleton] at this; omega
        have hq := ih r q hrl hr (fun e => absurd e hz') hm
        have hq1 : 1 ≤ q := by
          rcases Nat.eq_zero_or_pos q with e | e
          · subst e; rw [digits_zero] at hq; rw [← hq] at hz'; exact absurd rfl hz'
          · exact e
        cases hd : digitVal c with
        | none => rw [hd] at h; cases h
        | some d =>
          rw [hd] at h
          obtain ⟨h1, rfl⟩ := digitVal_is hd
          have h := Option.some.inj h
          subst h
          rw [decDigits, dif_neg (by omega), show (q * 10 + d) / 10 = q by omega, show (q * 10 + d) % 10 = d by omega, hq]

/-- The document's reading: the digits d of the text s. -/
def digsOf (s : List UInt8) : List UInt8 := if s.head? = some 45 then s.tail else s

def numP (s : List UInt8) : Option Int :=
  if (digsOf s).length < 1 ∨ 11 < s.length then none
  else if (digsOf s).head? = some 48 ∧ 1 < s.length then none
  else (decFrom 0 (digsOf s)).map fun (m : Nat) => if (digsOf s).length < s.length then -(m : Int) else (m : Int)

theorem numP_is (s : List UInt8) : numP s = numO s := by
  unfold numP numO
  by_cases hl : s.length ≤ 11
  · rw [if_pos hl]
    cases s with
    | nil => simp [digsOf, atoi]
    | cons b r =>
      by_cases hb : b = 45
      · subst hb
        have hd : digsOf (45 :: r) = r := by simp [digsOf]
        rw [hd]
        have ha : atoi (45 :: r) = (decNat r).map fun (m : Nat) => -(m : Int) := by simp [atoi]
        rw [ha]
        unfold decNat
        by_cases hr : r = []
        · subst hr; simp
        · have hr1 : 1 ≤ r.length := List.length_pos_iff.2 hr
          rw [if_neg (show ¬ (r.length < 1 ∨ 11 < (45 :: r).length) by omega), if_neg (show ¬ r.isEmpty = true by simp [hr])]
          cases hm : decFrom 0 r with
          | none => simp
          | some m =>
            simp only [Option.map_some]
            by_cases hz : r.head? = some 48
            · rw [if_pos ⟨hz, by simp; omega⟩]
              rw [if_neg]
              intro e
              unfold itoa at e
              by_cases hm0 : -(m : Int) < 0
              · rw [if_pos hm0] at e
                have e2 := (List.cons.inj e).2
                rw [show (-(m : Int)).natAbs = m by omega] at e2
                exact digits_head m (by omega) (by rw [e2]; exact hz)
              · rw [if_neg hm0] at e
                have := digits_are (-(m : Int)).toNat 45 (by rw [e]; exact List.mem_cons_self)
                simp at this
            · rw [if_neg (fun h => hz h.1)]
              have hq := digits_of _ r m rfl hr (fun e => absurd e hz) hm
              have hm1 : 1 ≤ m := by
                rcases Nat.eq_zero_or_pos m with e | e
                · subst e; rw [digits_zero] at hq; rw [← hq] at hz; exact absurd rfl hz
                · exact e
              rw [if_pos (by simp)]
              rw [if_pos]
              unfold itoa
              rw [if_pos (by omega), show (-(m : Int)).natAbs = m by omega, hq]
      · have hd : digsOf (b :: r) = b :: r := by simp [digsOf, hb]
        rw [hd]
        by_cases hp : b = 43
        · subst hp
          have ha : atoi (43 :: r) = (decNat r).map fun (m : Nat) => (m : Int) := by simp [atoi]
          rw [ha]
          have hf : decFrom 0 (43 :: r) = none := by
            unfold decFrom
            have : digitVal 43 = none := by decide
            rw [this]
          rw [hf]
          cases hm : decNat r with
          | none => simp
          | some m =>
            simp only [Option.map_some]
            have : ¬ itoa (m : Int) = 43 :: r := by
              intro e
              unfold itoa at e
              rw [if_neg (by omega)] at e
              have := digits_are (m : Int).toNat 43 (by rw [e]; exact List.mem_cons_self)
              simp at this
            rw [if_neg this]
            simp
        · have ha : atoi (b :: r) = (decNat (b :: r)).map fun (m : Nat) => (m : Int) := by simp [atoi, hb, hp]
          rw [ha]
          have hdn : decNat (b :: r) = decFrom 0 (b :: r) := by simp [decNat]
          rw [hdn, if_neg (by simp; simpa using hl)]
          cases hm : decFrom 0 (b :: r) with
          | none => simp
          | some m =>
            simp only [Option.map_some]
            have hi : itoa (m : Int) = decDigits m := by
              unfold itoa
              rw [if_neg (by omega)]
              rfl
            rw [hi]
            by_cases hz : (b :: r).head? = some 48 ∧ 1 < (b :: r).length
            · rw [if_pos hz, if_neg]
              intro e
              rcases Nat.eq_zero_or_pos m with e0 | e0
              · subst e0
                rw [digits_zero] at e
                have := hz.2
                rw [← e] at this
                simp at this
              · exact digits_head m e0 (by rw [e]; exact hz.1)
            · rw [if_neg hz]
              have hq := digits_of _ (b :: r) m rfl (by simp) (fun e => by
                have : ¬ 1 < (b :: r).length := fun h => hz ⟨e, h⟩
                simp at this ⊢
                exact this) hm
              rw [if_neg (by omega), if_pos hq]
  · rw [if_neg hl, if_pos (Or.inr (by omega))]
end Go.Proofs.YtniipgaacdpncaaGreatDoor
