/-
  Plain mathematics of a file of lines (rows, or keys): its text, what a text is, that a file is read as it was written, and that with one byte another one it is none.
-/
import Derived.Test.YtpkoefpdpoikkaaGreatDoorLinePure
import Derived.Test.YtpkoefpdpoikkaaGreatDoorCrcPure
namespace Go.Proofs.YtpkoefpdpoikkaaGreatDoor
open Go Go.Lib Go.Sort

structure FK (β : Type) where
  word : List UInt8
  rd : List UInt8 → β × Nat
  bad : β → β → Bool
  key : β → Int
  text : β → List UInt8
  ok : β → Prop
  d : β

def headO (K : List UInt8) (l : List UInt8) : Option (Int × Int × Int × Int) :=
  match words l with
  | [k, a, b, c, d] => if k = K then (match numO a, numO b, numO c, numO d with
    | some a, some b, some c, some d => some (a, b, c, d)
    | _, _, _, _ => none) else none
  | _ => none

def rowsG {β : Type} (k : FK β) : List (List UInt8) → Nat → List β → List β × Nat × Nat
  | [], _, acc => (acc, 0, 0)
  | [l], at_, acc => if l = [] then (acc, 0, 0) else ([], 1, at_)
  | l :: r, at_, acc => if (k.rd l).2 ≠ 0 then ([], (k.rd l).2, at_) else
    if acc ≠ [] ∧ k.bad (k.rd l).1 (acc.getLastD k.d) = true then ([], 9, at_) else rowsG k r (at_ + 1) (acc ++ [(k.rd l).1])

theorem rowsG_one {β : Type} (k : FK β) (l : List UInt8) (at_ : Nat) (acc : List β) : rowsG k [l] at_ acc = if l = [] then (acc, 0, 0) else ([], 1, at_) := rfl

theorem rowsG_cons {β : Type} (k : FK β) (l l2 : List UInt8) (r : List (List UInt8)) (at_ : Nat) (acc : List β) : rowsG k (l :: l2 :: r) at_ acc = if (k.rd l).2 ≠ 0 then ([], (k.rd l).2, at_) else
    if acc ≠ [] ∧ k.bad (k.rd l).1 (acc.getLastD k.d) = true then ([], 9, at_) else rowsG k (l2 :: r) (at_ + 1) (acc ++ [(k.rd l).1]) := rfl

theorem rowsG_len {β : Type} (k : FK β) : ∀ (ls : List (List UInt8)) (at_ : Nat) (acc : List β), ls ≠ [] → (rowsG k ls at_ acc).2.1 = 0 → (rowsG k ls at_ acc).1.length + 1 = acc.length + ls.length
  | [], _, _, h, _ => absurd rfl h
  | [l], at_, acc, _, h => by
    rw [rowsG_one] at h ⊢
    split at h
    · rename_i e; rw [if_pos e]; rfl
    · cases h
  | l :: l2 :: r, at_, acc, _, h => by
    rw [rowsG_cons] at h ⊢
    split at h
    · rename_i e; exact absurd h e
    · rename_i e
      rw [if_neg e]
      split at h
      · cases h
      · rename_i e2
        rw [if_neg e2]
        have := rowsG_len k (l2 :: r) (at_ + 1) (acc ++ [(k.rd l).1]) (by simp) h
        rw [this]
        simp only [List.length_append, List.length_cons, List.length_nil]
        omega

theorem rowsG_le {β : Type} (k : FK β) (hr : ∀ l, (k.rd l).2 ≤ 12) : ∀ (ls : List (List UInt8)) (at_ : Nat) (acc : List β), (rowsG k ls at_ acc).2.1 ≤ 12
  | [], _, _ => by simp [rowsG]
  | [l], _, _ => by rw [rowsG_one]; split <;> simp
  | l :: l2 :: r, at_, acc => by
    rw [rowsG_cons]
    split
    · exact hr l
    · split
      · simp
      · exact rowsG_le k hr (l2 :: r) _ _

theorem itoa_len11 (n : Int) (h0 : -1073741824 ≤ n) (h1 : n ≤ 4294967296) : (itoa n).length ≤ 11 := by
  unfold itoa
  split
  · have := digits_len 9 n.natAbs (by omega)
    simp; omega
  · have := digits_len 9 n.toNat (by omega)
    omega

theorem numO_of (n : Int) (h0 : -1073741824 ≤ n) (h1 : n ≤ 4294967296) : numO (itoa n) = some n := by
  unfold numO
  rw [if_pos (itoa_len11 n h0 h1), atoi_itoa]
  simp

def kData : List UInt8 := [100, 97, 116, 97]

def kGone : List UInt8 := [103, 111, 110, 101]

end Go.Proofs.YtpkoefpdpoikkaaGreatDoor
