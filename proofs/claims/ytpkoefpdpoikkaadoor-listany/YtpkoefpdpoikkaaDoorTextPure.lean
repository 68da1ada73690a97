/-
  Plain mathematics of a row's text: words, numerals, and that a row is read as it was written.
-/
import Derived.Test.YtpkoefpdpoikkaaDoorPure
import Derived.Lib.Split
import Derived.Lib.SplitLaws
import Derived.Lib.IndexLaws
import Derived.Lib.IndexBytes
import Derived.Lib.Atoi
import Derived.Lib.AtoiBound
import Derived.Lib.ItoaNum
import Derived.Lib.ItoaMem
namespace Go.Proofs.YtpkoefpdpoikkaaDoor
open Go Go.Lib

def sp : ByteArray := ⟨#[32]⟩

theorem decFrom_append : ∀ (l : List UInt8) (acc : Nat) (r : List UInt8), decFrom acc (l ++ r) = (decFrom acc l).bind fun m => decFrom m r
  | [], _, _ => rfl
  | b :: l, acc, r => by
    simp only [List.cons_append, decFrom]
    cases digitVal b with
    | none => rfl
    | some d => exact decFrom_append l _ r

theorem digit_ofNat (d : Nat) (h : d < 10) : digitVal (UInt8.ofNat (48 + d)) = some d := by
  have e : (UInt8.ofNat (48 + d)).toNat = 48 + d := by simp; omega
  unfold digitVal
  rw [e, if_pos (by omega)]
  congr 1; omega

theorem decFrom_digits (u : Nat) : decFrom 0 (decDigits u) = some u := by
  induction u using Nat.strongRecOn with
  | _ u ih =>
    rw [decDigits]
    by_cases h : u < 10
    · rw [dif_pos h]
      simp only [decFrom, digit_ofNat u h]
      congr 1; omega
    · rw [dif_neg h, decFrom_append, ih (u / 10) (by omega)]
      simp only [Option.bind_some, decFrom, digit_ofNat (u % 10) (by omega)]
      congr 1; omega

theorem digits_ne (u : Nat) : decDigits u ≠ [] := by
  rw [decDigits]
  by_cases h : u < 10
  · rw [dif_pos h]; simp
  · rw [dif_neg h]; simp

theorem digits_are (u : Nat) : ∀ c ∈ decDigits u, 48 ≤ c.toNat ∧ c.toNat ≤ 57 := by
  induction u using Nat.strongRecOn with
  | _ u ih =>
    rw [decDigits]
    by_cases h : u < 10
    · rw [dif_pos h]
      intro c hc
      simp only [List.mem_singleton] at hc
      subst hc
      have e : (UInt8.ofNat (48 + u)).toNat = 48 + u := by simp; omega
      omega
    · rw [dif_neg h]
      intro c hc
      rw [List.mem_append] at hc
      rcases hc with hc | hc
      · exact ih (u / 10) (by omega) c hc
      · simp only [List.mem_singleton] at hc
        subst hc
        have e : (UInt8.ofNat (48 + u % 10)).toNat = 48 + u % 10 := by simp; omega
        omega

theorem digits_len : ∀ (k u : Nat), u < 10 ^ (k + 1) → (decDigits u).length ≤ k + 1
  | 0, u, h => by
    rw [decDigits, dif_pos (by simpa using h)]; simp
  | k + 1, u, h => by
    rw [decDigits]
    by_cases h' : u < 10
    · rw [dif_pos h']; simp
    · rw [dif_neg h']
      have := digits_len k (u / 10) (by rw [Nat.pow_succ] at h; omega)
      simp; omega

theorem decNat_digits (u : Nat) : decNat (decDigits u) = some u := by
  unfold decNat
  rw [if_neg (by simp [digits_ne]), decFrom_digits]

theorem atoi_itoa (n : Int) : atoi (itoa n) = some n := by
  unfold itoa
  by_cases h : n < 0
  · rw [if_pos h]
    simp only [atoi, beq_self_eq_true, if_true, decNat_digits, Option.map_some]
    congr 1; omega
  · rw [if_neg h]
    cases hd : decDigits n.toNat with
    | nil => exact absurd hd (digits_ne _)
    | cons b r =>
      have hb := digits_are n.toNat b (by rw [hd]; exact List.mem_cons_self)
      have h1 : ¬ (b == 45) = true := by
        intro e; rw [beq_iff_eq] at e; subst e; simp at hb
      have h2 : ¬ (b == 43) = true := by
        intro e; rw [beq_iff_eq] at e; subst e; simp at hb
      simp only [atoi, if_neg h1, if_neg h2]
      rw [← hd, decNat_digits]
      simp only [Option.map_some]
      congr 1; omega

theorem itoa_len (n : Int) (h0 : -1073741824 ≤ n) (h1 : n ≤ 1073741824) : (itoa n).length ≤ 11 := by
  unfold itoa
  split
  · have := digits_len 9 n.natAbs (by omega)
    simp; omega
  · have := digits_len 9 n.toNat (by omega)
    omega

/-! A row's checks, its text, and what a text is -/

def nbI (n : Int) : Bool := (decide (97 ≤ n) && decide (n ≤ 122)) || (decide (48 ≤ n) && decide (n ≤ 57))

def wordB (m : Nat) (s : List UInt8) : Bool := decide (1 ≤ s.length) && decide (s.length ≤ m) && s.all fun c => nbI c.toNat

def inNum (n : Int) : Bool := decide (-1073741824 ≤ n) && decide (n ≤ 1073741824)

def numO (s : List UInt8) : Option Int :=
  if s.length ≤ 11 then (match atoi s with
    | some n => if itoa n = s then some n else none
    | none => none) else none

def bytesOf (l : List UInt8) : ByteArray := ⟨l.toArray⟩

theorem numO_itoa (n : Int) (h : inNum n = true) : numO (itoa n) = some n := by
  simp only [inNum, Bool.and_eq_true, decide_eq_true_eq] at h
  unfold numO
  rw [if_pos (itoa_len n h.1 h.2), atoi_itoa]
  simp

theorem bytesOf_data (s : ByteArray) : bytesOf s.data.toList = s := by
  cases s; simp [bytesOf]

end Go.Proofs.YtpkoefpdpoikkaaDoor
