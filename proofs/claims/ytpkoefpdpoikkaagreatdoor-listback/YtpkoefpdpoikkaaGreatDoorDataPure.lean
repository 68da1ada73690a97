/-
  Plain mathematics of a file of lines (rows, or keys): its text, what a text is, that a file is read as it was written, and that with one byte another one it is none.
-/
import Derived.Test.YtpkoefpdpoikkaaGreatDoorLinePure
namespace Go.Proofs.YtpkoefpdpoikkaaGreatDoor
open Go Go.Lib Go.Sort

structure FK (β : Type) where
  word : List UInt8
  rd : List UInt8 → β × Nat
  bad : β → β → Bool
  key : β → Int
  text : β → List UInt8
  ok : β → Prop
  d : β

def headO (K : List UInt8) (l : List UInt8) : Option (Int × Int × Int × Int) :=
  match words l with
  | [k, a, b, c, d] => if k = K then (match numO a, numO b, numO c, numO d with
    | some a, some b, some c, some d => some (a, b, c, d)
    | _, _, _, _ => none) else none
  | _ => none

def rowsG {β : Type} (k : FK β) : List (List UInt8) → Nat → List β → List β × Nat × Nat
  | [], _, acc => (acc, 0, 0)
  | [l], at_, acc => if l = [] then (acc, 0, 0) else ([], 1, at_)
  | l :: r, at_, acc => if (k.rd l).2 ≠ 0 then ([], (k.rd l).2, at_) else
    if acc ≠ [] ∧ k.bad (k.rd l).1 (acc.getLastD k.d) = true then ([], 9, at_) else rowsG k r (at_ + 1) (acc ++ [(k.rd l).1])

theorem rowsG_one {β : Type} (k : FK β) (l : List UInt8) (at_ : Nat) (acc : List β) : rowsG k [l] at_ acc = if l = [] then (acc, 0, 0) else ([], 1, at_) := rfl

theorem rowsG_cons {β : Type} (k : FK β) (l l2 : List UInt8) (r : List (List UInt8)) (at_ : Nat) (acc : List β) : rowsG k (l :: l2 :: r) at_ acc = if (k.rd l).2 ≠ 0 then ([], (k.rd l).2, at_) else
    if acc ≠ [] ∧ k.bad (k.rd l).1 (acc.getLastD k.d) = true then ([], 9, at_) else rowsG k (l2 :: r) (at_ + 1) (acc ++ [(k.rd l).1]) := rfl

theorem itoa_len11 (n : Int) (h0 : -1073741824 ≤ n) (h1 : n ≤ 4294967296) : (itoa n).length ≤ 11 := by
  unfold itoa
  split
  · have := digits_len 9 n.natAbs (by omega)
    simp; omega
  · have := digits_len 9 n.toNat (by omega)
    omega

def kData : List UInt8 := [100, 97, 116, 97]

def kGone : List UInt8 := [103, 111, 110, 101]

end Go.Proofs.YtpkoefpdpoikkaaGreatDoor
