/-
  Plain mathematics of rows: their order is a strict total order.
-/
import Derived.Lib.Bytealg
import Derived.Sort.Statements
import Derived.Shelf.SlSortCmp.Insertion
namespace Go.Proofs.YtpkoefpdpoikkaaGreatDoor
open Go Go.Sort

abbrev Rw := ByteArray × Int × Int

def encR (x : Rw) : List Value := [.string x.1, .int .i64 x.2.1, .int .i64 x.2.2]

theorem cb_self : ∀ a : List UInt8, Lib.compareBytes a a = 0
  | [] => rfl
  | a :: us => by
    unfold Lib.compareBytes
    rw [if_neg (by simp), if_neg (by simp)]
    exact cb_self us

theorem cb_eq : ∀ a b : List UInt8, Lib.compareBytes a b = 0 → a = b
  | [], [] => fun _ => rfl
  | [], _ :: _ => fun h => by simp [Lib.compareBytes] at h
  | _ :: _, [] => fun h => by simp [Lib.compareBytes] at h
  | a :: us, b :: vs => fun h => by
    unfold Lib.compareBytes at h
    by_cases h1 : a < b
    · rw [if_pos h1] at h; omega
    · rw [if_neg h1] at h
      by_cases h2 : b < a
      · rw [if_pos h2] at h; omega
      · rw [if_neg h2] at h
        have e : a = b := by
          rw [UInt8.lt_iff_toNat_lt] at h1 h2
          exact UInt8.toNat_inj.1 (by omega)
        rw [e, cb_eq us vs h]

def orOf (x y z : Int) : Int := if x = 0 then (if y = 0 then z else y) else x

def cfR (x y : Rw) : Int := orOf (Lib.compareBytes x.1.data.toList y.1.data.toList) (Lib.compareInt x.2.1 y.2.1) (Lib.compareInt x.2.2 y.2.2)

theorem ci_cases (a b : Int) : (a < b ∧ Lib.compareInt a b = -1) ∨ (a = b ∧ Lib.compareInt a b = 0) ∨ (b < a ∧ Lib.compareInt a b = 1) := by
  unfold Lib.compareInt
  rcases Int.lt_trichotomy a b with h | h | h
  · exact Or.inl ⟨h, by rw [if_pos h]⟩
  · subst h; exact Or.inr (Or.inl ⟨rfl, by simp⟩)
  · exact Or.inr (Or.inr ⟨h, by rw [if_neg (by omega), if_pos h]⟩)

theorem part_ext {x y : ByteArray} (h : x.data.toList = y.data.toList) : x = y := by
  cases x; cases y
  simp only [ByteArray.mk.injEq] at *
  exact Array.toList_inj.1 h

end Go.Proofs.YtpkoefpdpoikkaaGreatDoor
