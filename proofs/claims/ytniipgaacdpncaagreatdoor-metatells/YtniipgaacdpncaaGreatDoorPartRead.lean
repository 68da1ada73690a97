/-
  The contracts of part's specs: divide, bucket, trunc, readN, read; what a spec is; a row's group.
-/
import Derived.Test.YtniipgaacdpncaaGreatDoorRowLaw
import Derived.Lib.QuietBelow
import Derived.BigQuiet
namespace Go.Proofs.YtniipgaacdpncaaGreatDoor
open Go.RowKit Go.Extern.Stop Go.Stop Go.Extern Go.Sort Go.Shelf Go.Lib

/-- Go's division, and the one to the lower side. -/
theorem floor_of (k n : Int) (hn : 1 ≤ n) : (k.tmod n < 0 ∧ k / n = k.tdiv n - 1 ∧ k % n = k.tmod n + n) ∨ (¬ k.tmod n < 0 ∧ k / n = k.tdiv n ∧ k % n = k.tmod n) := by
  have h3 := Int.emod_nonneg k (show n ≠ 0 by omega)
  have h4 := Int.emod_lt_of_pos k (show 0 < n by omega)
  have h5 := @Int.tdiv_eq_ediv k n
  have h6 := @Int.tmod_eq_emod k n
  have h7 : n.sign = 1 := Int.sign_eq_one_of_pos (by omega)
  by_cases c : 0 ≤ k ∨ n ∣ k
  · rw [if_pos c] at h5 h6
    exact Or.inr ⟨by omega, by omega, by omega⟩
  · rw [if_neg c] at h5 h6
    exact Or.inl ⟨by omega, by omega, by omega⟩
theorem tdiv_in (k n : Int) (h1 : -4611686018427387904 ≤ k) (h2 : k ≤ 4611686018427387904) : -4611686018427387904 ≤ k.tdiv n ∧ k.tdiv n ≤ 4611686018427387904 := by
  have h : (k.tdiv n).natAbs ≤ k.natAbs := by rw [Int.natAbs_tdiv]; exact Nat.div_le_self _ _
  omega
theorem tmod_in (k n : Int) (hn : 1 ≤ n) : -n ≤ k.tmod n ∧ k.tmod n < n := by
  have h := floor_of k n hn
  have h3 := Int.emod_nonneg k (show n ≠ 0 by omega)
  have h4 := Int.emod_lt_of_pos k (show 0 < n by omega)
  generalize k % n = r at *
  generalize k / n = q at *
  generalize k.tmod n = t at *
  generalize k.tdiv n = d at *
  omega

/-- A group's name, where it is a number: b, t, n and the number. -/
def markB (c : UInt8) (n : Int) : ByteArray := ⟨#[c]⟩ ++ bytesOf (itoa n)
theorem itoa_below (n : Int) (w : World) (a : Nat → Addr) (h : Env0 w a) (h0 : -9223372036854775808 ≤ n) (h1 : n ≤ 9223372036854775807) :
    Calls Tryz.prog 21 #[.int .i64 n] w fun e w' => e = .returned (.string (bytesOf (itoa n))) ∧ Below w.heap.size w w' :=
  (itoa_any n w h.tab h0 h1).mono fun e w' ⟨he, k, os, hw⟩ => ⟨he, by subst hw; exact grow_below k os⟩

theorem ediv_in (k n : Int) (hn : 1 ≤ n) (h1 : -1073741824 ≤ k) (h2 : k ≤ 1073741824) : -1073741824 ≤ k / n ∧ k / n ≤ 1073741824 := by
  have e := Int.mul_ediv_add_emod k n
  have h3 := Int.emod_nonneg k (show n ≠ 0 by omega)
  have h4 := Int.emod_lt_of_pos k (show 0 < n by omega)
  generalize k % n = r at *
  generalize k / n = q at *
  refine ⟨?_, ?_⟩
  · rcases Int.lt_or_le q (-1073741824) with hq | hq
    · exfalso
      have hh := Int.mul_nonneg (show 0 ≤ n - 1 by omega) (show 0 ≤ -(q + 1) by omega)
      rw [Int.sub_mul, Int.one_mul, Int.mul_neg, Int.mul_add, Int.mul_one] at hh
      generalize n * q = m at *
      omega
    · exact hq
  · rcases Int.lt_or_le 1073741824 q with hq | hq
    · exfalso
      have hh := Int.mul_nonneg (show 0 ≤ n - 1 by omega) (show 0 ≤ q by omega)
      rw [Int.sub_mul, Int.one_mul] at hh
      generalize n * q = m at *
      omega
    · exact hq

/-- .. of how many times. -/
def truncB (q : Int) : ByteArray := if q < 0 then markB 110 (-q) else markB 116 q

/-- A spec's number: an error's number, the number. -/
def nO (l : List UInt8) : Nat × Int := match numO l with
  | none => (1, 0)
  | some n => if n < 0 ∨ 9 < l.length then (1, 0) else if n < 1 ∨ 1000 < n then (2, 0) else (0, n)

def kPart : List UInt8 := [112, 97, 114, 116]
def kBucket : List UInt8 := [98, 117, 99, 107, 101, 116]
def kTrunc : List UInt8 := [116, 114, 117, 110, 99]
def cutK (s : List UInt8) : List UInt8 := (Lib.cut s [32]).1
def cutW (s : List UInt8) : List UInt8 := (Lib.cut s [32]).2.1

/-- What a spec is: an error's number, its kind (0: part, 1: bucket, 2: trunc), its N. -/
def specO (s : List UInt8) : Nat × Nat × Int :=
  if s = kPart then (0, 0, 0)
  else if cutK s = kBucket then (if (nO (cutW s)).1 = 0 then (0, 1, (nO (cutW s)).2) else ((nO (cutW s)).1, 0, 0))
  else if cutK s = kTrunc then (if (nO (cutW s)).1 = 0 then (0, 2, (nO (cutW s)).2) else ((nO (cutW s)).1, 0, 0))
  else (1, 0, 0)

/-- A row's group. -/
def grpB (k : Nat) (n : Int) (x : Rw) : ByteArray := if k = 0 then x.1 else if k = 1 then markB 98 (x.2.1 % n) else truncB (x.2.1 / n)

/-- A function value that names the groups of right rows. -/
def Namer (w : World) (fv : Value) (p : Rw → ByteArray) (a : Nat → Addr) : Prop :=
  ∃ g cb, fv = .func (.func g) #[] cb ∧ (∀ args w, (callFunc g args).run Tryz.prog w = .ok (.enter g args) w) ∧
    ∀ (x : Rw) (W : World), Below w.heap.size w W → Env W a → rowE x = 0 → Calls Tryz.prog g (#[.agg #[.string x.1, .int .i64 x.2.1, .int .i64 x.2.2]] ++ cb) W fun e w' => e = .returned (.string (p x)) ∧ Below W.heap.size W w'

theorem Namer.below {w w' : World} {fv : Value} {p : Rw → ByteArray} {a : Nat → Addr} (h : Namer w fv p a) (hb : Below w.heap.size w w') : Namer w' fv p a := by
  obtain ⟨g, cb, e, eg, hc⟩ := h
  exact ⟨g, cb, e, eg, fun x W hW => hc x W (hb.trans (hW.mono hb.size))⟩

theorem key_in {x : Rw} (h : rowE x = 0) : -1073741824 ≤ x.2.1 ∧ x.2.1 ≤ 1073741824 := by
  unfold rowE at h
  split at h
  · split at h
    · rename_i hnn
      simp only [Bool.and_eq_true, inNum, decide_eq_true_eq] at hnn
      exact hnn.1
    · omega
  · omega

theorem eqB_of {s : ByteArray} {l : List UInt8} (h : s.data.toList = l) : (s.toList == l) = true := by
  rw [ByteArray.toList_eq]; simpa using h
theorem neB_of {s : ByteArray} {l : List UInt8} (h : s.data.toList ≠ l) : (s.toList == l) = false := by
  rw [ByteArray.toList_eq]; simpa using h

end Go.Proofs.YtniipgaacdpncaaGreatDoor
