/-
  The closed fact rowed; plain mathematics of sorted rows.
-/
import Derived.Test.YtniipgaacdpncaaGreatDoorRowNums
import Derived.BigRegion
import Derived.Test.YtniipgaacdpncaaGreatDoorRowCut
namespace Go.Proofs.YtniipgaacdpncaaGreatDoor
open Go.RowKit Go.Extern.Stop Go.Stop Go.Extern Go.Sort Go.Shelf Go.Lib

theorem leR_trans (x y z : Rw) (h1 : (!(ltOf cfR) y x) = true) (h2 : (!(ltOf cfR) z y) = true) : (!(ltOf cfR) z x) = true := by
  simp only [Bool.not_eq_true'] at *
  exact swoR.ntrans z y x h2 h1

theorem leR_total (x y : Rw) : ((!(ltOf cfR) y x) || (!(ltOf cfR) x y)) = true := by
  cases h : ltOf cfR y x
  · rfl
  · cases h' : ltOf cfR x y
    · rfl
    · have := swoR.trans x y x h' h
      rw [swoR.irrefl] at this
      cases this

theorem sortR_sorted (xs : List Rw) : (sortR xs).Pairwise fun x y => (!(ltOf cfR) y x) = true :=
  List.pairwise_mergeSort leR_trans leR_total xs

theorem sortR_of_perm {xs ys : List Rw} (h : xs.Perm ys) : sortR xs = sortR ys := by
  refine List.Perm.eq_of_pairwise (le := fun x y => (!(ltOf cfR) y x) = true) (fun a b _ _ h1 h2 => ?_) (sortR_sorted xs) (sortR_sorted ys) (((sortR_perm xs).trans h).trans (sortR_perm ys).symm)
  simp only [Bool.not_eq_true'] at h1 h2
  exact totR a b h2 h1

theorem sortR_twice (xs : List Rw) : sortR (sortR xs) = sortR xs := sortR_of_perm (sortR_perm xs)

theorem sortR_next (xs : List Rw) (i : Nat) (h : i + 1 < (sortR xs).length) : ltOf cfR (sortR xs)[i + 1] (sortR xs)[i] = false := by
  have := List.pairwise_iff_getElem.1 (sortR_sorted xs) i (i + 1) (by omega) h (by omega)
  simpa using this

theorem drop_twice (zs : List Int) (xs : List Rw) : (xs.filter (outB zs)).filter (outB zs) = xs.filter (outB zs) := by
  simp

/-- Its key is an int. -/
def okKey (x : Rw) : Prop := -9223372036854775808 ≤ x.2.1 ∧ x.2.1 ≤ 9223372036854775807

theorem within_all (xs : List Rw) (at_ : Int) (hx : ∀ x ∈ xs, okKey x) : (xs.filter (inB (-9223372036854775808) at_) ++ xs.filter (inB (at_ + 1) 9223372036854775807)).Perm xs := by
  have e1 : xs.filter (inB (-9223372036854775808) at_) = xs.filter fun x => decide (x.2.1 ≤ at_) := by
    refine List.filter_congr fun x h => ?_
    have := hx x h
    unfold okKey at this
    simp [inB]; omega
  have e2 : xs.filter (inB (at_ + 1) 9223372036854775807) = xs.filter fun x => !decide (x.2.1 ≤ at_) := by
    refine List.filter_congr fun x h => ?_
    have := hx x h
    unfold okKey at this
    unfold inB
    by_cases hh : x.2.1 ≤ at_
    · have h1 : ¬ (at_ + 1 ≤ x.2.1) := by omega
      simp [hh, h1]
    · have h1 : at_ + 1 ≤ x.2.1 := by omega
      simp [hh, h1, this.2]
  rw [e1, e2]
  exact List.filter_append_perm _ _

theorem within_top (xs : List Rw) (hx : ∀ x ∈ xs, okKey x) : xs.filter (inB (-9223372036854775808) 9223372036854775807) = xs := by
  rw [List.filter_eq_self]
  intro x h
  have := hx x h
  unfold okKey at this
  simp [inB, this.1, this.2]

/-! The closed fact -/

def euRow : Rw := (⟨#[101, 117]⟩, -5, 7)

theorem itoa_m5 : itoa (-5) = [45, 53] := by
  have h : decDigits 5 = [53] := by rw [decDigits, dif_pos (by decide)]; rfl
  simp [itoa, h]
theorem itoa_7 : itoa 7 = [55] := by
  have h : decDigits 7 = [55] := by rw [decDigits, dif_pos (by decide)]; rfl
  simp [itoa, h]
theorem eu_ok : rowE euRow = 0 := by decide
theorem eu_text : textL euRow = [101, 117, 32, 45, 53, 32, 55] := by
  simp [textL, euRow, itoa_m5, itoa_7]
theorem eu_read : readO [101, 117, 32, 45, 53, 32, 55] = (euRow, 0) := by rw [← eu_text]; exact read_text euRow eu_ok

theorem textB_ok (x : Rw) (h : rowE x = 0) : (textB x).data.toList = textL x := by
  unfold textB
  rw [if_pos h]
  simp [textL, sp, bytesOf, ByteArray.data_append]

theorem textB_eu : textB euRow = ⟨#[101, 117, 32, 45, 53, 32, 55]⟩ := by
  apply part_ext
  rw [textB_ok euRow eu_ok, eu_text]

end Go.Proofs.YtniipgaacdpncaaGreatDoor
