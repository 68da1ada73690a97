/-
  Plain mathematics of a row's text: words, numerals, and that a row is read as it was written.
-/
import Derived.Test.YtpkoefpdpoikkaaGreatDoorPure
import Derived.Lib.Split
import Derived.Lib.SplitLaws
import Derived.Lib.IndexLaws
import Derived.Lib.IndexBytes
import Derived.Lib.Atoi
import Derived.Lib.AtoiBound
import Derived.Lib.ItoaNum
import Derived.Lib.ItoaMem
namespace Go.Proofs.YtpkoefpdpoikkaaGreatDoor
open Go Go.Lib

def words : List UInt8 → List (List UInt8)
  | [] => [[]]
  | c :: r => if c = 32 then [] :: words r else match words r with
    | [] => [[c]]
    | w :: ws => (c :: w) :: ws

theorem words_none : ∀ a : List UInt8, (∀ c ∈ a, c ≠ 32) → words a = [a]
  | [], _ => rfl
  | c :: r, h => by
    have hr := words_none r (fun d hd => h d (List.mem_cons_of_mem _ hd))
    unfold words
    rw [if_neg (h c List.mem_cons_self), hr]

theorem words_append : ∀ a b : List UInt8, (∀ c ∈ a, c ≠ 32) → words (a ++ 32 :: b) = a :: words b
  | [], b, _ => by simp [words]
  | c :: r, b, h => by
    have hr := words_append r b (fun d hd => h d (List.mem_cons_of_mem _ hd))
    rw [List.cons_append, words, if_neg (h c List.mem_cons_self), hr]

def sp : ByteArray := ⟨#[32]⟩

theorem index_sp (s : ByteArray) : indexB s sp = indexByte s.data.toList 32 := one s sp rfl

theorem split_words : ∀ n (s : ByteArray), s.size ≤ n → (splitB sp 0 (countB s sp) s).map (·.data.toList) = words s.data.toList ∧ countB s sp + 1 = (words s.data.toList).length := by
  intro n
  induction n with
  | zero =>
    intro s hs
    have he : s.data.toList = [] := by
      cases s with | mk d => simp [ByteArray.size] at hs; simp [hs]
    have hi : indexB s sp = -1 := by rw [index_sp, he]; rfl
    rw [countB_miss s sp hi, splitB_zero, he]
    simp [words, he]
  | succ n ih =>
    intro s hs
    rcases indexB_cases s sp with hi | ⟨i, hi, hle⟩
    · have hno : ∀ c ∈ s.data.toList, c ≠ 32 := by
        intro c hc e
        rw [index_sp] at hi
        obtain ⟨k, hk⟩ := List.mem_iff_getElem?.1 hc
        exact indexByte_none hi k (by rw [hk, e])
      rw [countB_miss s sp hi, splitB_zero, words_none _ hno]
      simp
    · have hsz : sp.size = 1 := rfl
      have hi' := hi
      rw [index_sp] at hi'
      obtain ⟨hat, hbefore⟩ := indexByte_some hi'
      have hil : i < s.data.toList.length := by
        rcases Nat.lt_or_ge i s.data.toList.length with h | h
        · exact h
        · rw [List.getElem?_eq_none h] at hat; cases hat
      have hsplit : s.data.toList = s.data.toList.take i ++ 32 :: s.data.toList.drop (i + 1) := by
        have h1 := List.take_append_drop i s.data.toList
        rw [List.drop_eq_getElem_cons hil] at h1
        rw [List.getElem?_eq_getElem hil] at hat
        rw [Option.some.inj hat] at h1
        exact h1.symm
      have hno : ∀ c ∈ s.data.toList.take i, c ≠ 32 := by
        intro c hc e
        obtain ⟨k, hk⟩ := List.mem_iff_getElem?.1 hc
        rw [List.getElem?_take] at hk
        split at hk
        · rename_i hki
          exact hbefore k hki (by rw [hk, e])
        · cases hk
      have hsz2 : (s.extract (i + sp.size) s.size).size ≤ n := by
        rw [ByteArray.size_extract, hsz]; omega
      obtain ⟨e1, e2⟩ := ih (s.extract (i + sp.size) s.size) hsz2
      have hd : (s.extract (i + sp.size) s.size).data.toList = s.data.toList.drop (i + 1) := by
        rw [extract_to_end, hsz]
      rw [hd] at e1 e2
      have hw : words s.data.toList = s.data.toList.take i :: words (s.data.toList.drop (i + 1)) := by
        conv => lhs; rw [hsplit]
        exact words_append _ _ hno
      rw [countB_hit s sp i (by rw [hsz]; omega) hi, Nat.add_comm 1, splitB_hit sp 0 _ s i hi, hw, List.map_cons, e1, extract_from_zero]
      refine ⟨by simp, ?_⟩
      rw [List.length_cons, ← e2]

/-! Numerals -/

theorem decFrom_append : ∀ (l : List UInt8) (acc : Nat) (r : List UInt8), decFrom acc (l ++ r) = (decFrom acc l).bind fun m => decFrom m r
  | [], _, _ => rfl
  | b :: l, acc, r => by
    simp only [List.cons_append, decFrom]
    cases digitVal b with
    | none => rfl
    | some d => exact decFrom_append l _ r

theorem digit_ofNat (d : Nat) (h : d < 10) : digitVal (UInt8.ofNat (48 + d)) = some d := by
  have e : (UInt8.ofNat (48 + d)).toNat = 48 + d := by simp; omega
  unfold digitVal
  rw [e, if_pos (by omega)]
  congr 1; omega

theorem decFrom_digits (u : Nat) : decFrom 0 (decDigits u) = some u := by
  induction u using Nat.strongRecOn with
  | _ u ih =>
    rw [decDigits]
    by_cases h : u < 10
    · rw [dif_pos h]
      simp only [decFrom, digit_ofNat u h]
      congr 1; omega
    · rw [dif_neg h, decFrom_append, ih (u / 10) (by omega)]
      simp only [Option.bind_some, decFrom, digit_ofNat (u % 10) (by omega)]
      congr 1; omega

theorem digits_ne (u : Nat) : decDigits u ≠ [] := by
  rw [decDigits]
  by_cases h : u < 10
  · rw [dif_pos h]; simp
  · rw [dif_neg h]; simp

theorem digits_are (u : Nat) : ∀ c ∈ decDigits u, 48 ≤ c.toNat ∧ c.toNat ≤ 57 := by
  induction u using Nat.strongRecOn with
  | _ u ih =>
    rw [decDigits]
    by_cases h : u < 10
    · rw [dif_pos h]
      intro c hc
      simp only [List.mem_singleton] at hc
      subst hc
      have e : (UInt8.ofNat (48 + u)).toNat = 48 + u := by simp; omega
      omega
    · rw [dif_neg h]
      intro c hc
      rw [List.mem_append] at hc
      rcases hc with hc | hc
      · exact ih (u / 10) (by omega) c hc
      · simp only [List.mem_singleton] at hc
        subst hc
        have e : (UInt8.ofNat (48 + u % 10)).toNat = 48 + u % 10 := by simp; omega
        omega

theorem digits_len : ∀ (k u : Nat), u < 10 ^ (k + 1) → (decDigits u).length ≤ k + 1
  | 0, u, h => by
    rw [decDigits, dif_pos (by simpa using h)]; simp
  | k + 1, u, h => by
    rw [decDigits]
    by_cases h' : u < 10
    · rw [dif_pos h']; simp
    · rw [dif_neg h']
      have := digits_len k (u / 10) (by rw [Nat.pow_succ] at h; omega)
      simp; omega

theorem decNat_digits (u : Nat) : decNat (decDigits u) = some u := by
  unfold decNat
  rw [if_neg (by simp [digits_ne]), decFrom_digits]

theorem atoi_itoa (n : Int) : atoi (itoa n) = some n := by
  unfold itoa
  by_cases h : n < 0
  · rw [if_pos h]
    simp only [atoi, beq_self_eq_true, if_true, decNat_digits, Option.map_some]
    congr 1; omega
  · rw [if_neg h]
    cases hd : decDigits n.toNat with
    | nil => exact absurd hd (digits_ne _)
    | cons b r =>
      have hb := digits_are n.toNat b (by rw [hd]; exact List.mem_cons_self)
      have h1 : ¬ (b == 45) = true := by
        intro e; rw [beq_iff_eq] at e; subst e; simp at hb
      have h2 : ¬ (b == 43) = true := by
        intro e; rw [beq_iff_eq] at e; subst e; simp at hb
      simp only [atoi, if_neg h1, if_neg h2]
      rw [← hd, decNat_digits]
      simp only [Option.map_some]
      congr 1; omega

theorem itoa_no_blank (n : Int) : ∀ c ∈ itoa n, c ≠ 32 := by
  intro c hc e
  subst e
  unfold itoa at hc
  split at hc
  · rw [List.mem_cons] at hc
    rcases hc with hc | hc
    · simp at hc
    · have := digits_are _ _ hc; simp at this
  · have := digits_are _ _ hc; simp at this

theorem itoa_len (n : Int) (h0 : -1073741824 ≤ n) (h1 : n ≤ 1073741824) : (itoa n).length ≤ 11 := by
  unfold itoa
  split
  · have := digits_len 9 n.natAbs (by omega)
    simp; omega
  · have := digits_len 9 n.toNat (by omega)
    omega

/-! A row's checks, its text, and what a text is -/

def nbI (n : Int) : Bool := (decide (97 ≤ n) && decide (n ≤ 122)) || (decide (48 ≤ n) && decide (n ≤ 57))

def wordB (m : Nat) (s : List UInt8) : Bool := decide (1 ≤ s.length) && decide (s.length ≤ m) && s.all fun c => nbI c.toNat

def nameB (s : List UInt8) : Bool := decide (1 ≤ s.length) && decide (s.length ≤ 8) && s.all fun c => nbI c.toNat

def inNum (n : Int) : Bool := decide (-1073741824 ≤ n) && decide (n ≤ 1073741824)

def rowE (x : Rw) : Nat := if nameB x.1.data.toList then (if inNum x.2.1 && inNum x.2.2 then 0 else 2) else 5

def numO (s : List UInt8) : Option Int :=
  if s.length ≤ 11 then (match atoi s with
    | some n => if itoa n = s then some n else none
    | none => none) else none

def bytesOf (l : List UInt8) : ByteArray := ⟨l.toArray⟩

def readO (s : List UInt8) : Rw × Nat :=
  match words s with
  | [p, k, v] => (match numO k, numO v with
    | some a, some b => if rowE (bytesOf p, a, b) = 0 then ((bytesOf p, a, b), 0) else ((bytesOf [], 0, 0), rowE (bytesOf p, a, b))
    | _, _ => ((bytesOf [], 0, 0), 1))
  | _ => ((bytesOf [], 0, 0), 1)

def textL (x : Rw) : List UInt8 := x.1.data.toList ++ 32 :: (itoa x.2.1 ++ 32 :: itoa x.2.2)

theorem numO_itoa (n : Int) (h : inNum n = true) : numO (itoa n) = some n := by
  simp only [inNum, Bool.and_eq_true, decide_eq_true_eq] at h
  unfold numO
  rw [if_pos (itoa_len n h.1 h.2), atoi_itoa]
  simp

theorem bytesOf_data (s : ByteArray) : bytesOf s.data.toList = s := by
  cases s; simp [bytesOf]

end Go.Proofs.YtpkoefpdpoikkaaGreatDoor
