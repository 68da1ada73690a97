/-
  Plain mathematics of rows: their order is a strict total order.
-/
import Derived.Lib.Bytealg
import Derived.Sort.Statements
import Derived.Shelf.SlSortCmp.Insertion
namespace Go.Proofs.YtpkoefpdpoikkaaGreatDoor
open Go Go.Sort

abbrev Rw := ByteArray × Int × Int

def encR (x : Rw) : List Value := [.string x.1, .int .i64 x.2.1, .int .i64 x.2.2]

theorem cb_self : ∀ a : List UInt8, Lib.compareBytes a a = 0
  | [] => rfl
  | a :: us => by
    unfold Lib.compareBytes
    rw [if_neg (by simp), if_neg (by simp)]
    exact cb_self us

theorem cb_eq : ∀ a b : List UInt8, Lib.compareBytes a b = 0 → a = b
  | [], [] => fun _ => rfl
  | [], _ :: _ => fun h => by simp [Lib.compareBytes] at h
  | _ :: _, [] => fun h => by simp [Lib.compareBytes] at h
  | a :: us, b :: vs => fun h => by
    unfold Lib.compareBytes at h
    by_cases h1 : a < b
    · rw [if_pos h1] at h; omega
    · rw [if_neg h1] at h
      by_cases h2 : b < a
      · rw [if_pos h2] at h; omega
      · rw [if_neg h2] at h
        have e : a = b := by
          rw [UInt8.lt_iff_toNat_lt] at h1 h2
          exact UInt8.toNat_inj.1 (by omega)
        rw [e, cb_eq us vs h]

theorem cb_swap : ∀ a b : List UInt8, Lib.compareBytes a b = - Lib.compareBytes b a
  | [], [] => rfl
  | [], _ :: _ => rfl
  | _ :: _, [] => rfl
  | a :: us, b :: vs => by
    unfold Lib.compareBytes
    have hs := cb_swap us vs
    by_cases h1 : a < b
    · have h2 : ¬ b < a := by rw [UInt8.lt_iff_toNat_lt] at *; omega
      rw [if_pos h1, if_neg h2, if_pos h1]
    · by_cases h2 : b < a
      · rw [if_neg h1, if_pos h2, if_pos h2]; rfl
      · rw [if_neg h1, if_neg h2, if_neg h2, if_neg h1]; exact hs

theorem cb_three : ∀ a b : List UInt8, Lib.compareBytes a b = -1 ∨ Lib.compareBytes a b = 0 ∨ Lib.compareBytes a b = 1
  | [], [] => Or.inr (Or.inl rfl)
  | [], _ :: _ => Or.inl rfl
  | _ :: _, [] => Or.inr (Or.inr rfl)
  | a :: us, b :: vs => by
    unfold Lib.compareBytes
    split
    · exact Or.inl rfl
    · split
      · exact Or.inr (Or.inr rfl)
      · exact cb_three us vs

theorem cb_trans : ∀ a b c : List UInt8, Lib.compareBytes a b ≤ 0 → Lib.compareBytes b c ≤ 0 → Lib.compareBytes a c ≤ 0 ∧ (Lib.compareBytes a b < 0 ∨ Lib.compareBytes b c < 0 → Lib.compareBytes a c < 0)
  | [], [], [] => fun _ _ => by simp [Lib.compareBytes]
  | [], [], _ :: _ => fun _ _ => by simp [Lib.compareBytes]
  | [], _ :: _, [] => fun _ h => by simp [Lib.compareBytes] at h
  | [], _ :: _, _ :: _ => fun _ _ => by simp [Lib.compareBytes]
  | _ :: _, [], _ => fun h _ => by simp [Lib.compareBytes] at h
  | _ :: _, _ :: _, [] => fun _ h => by simp [Lib.compareBytes] at h
  | a :: us, b :: vs, c :: ws => fun h1 h2 => by
    have hr := cb_trans us vs ws
    unfold Lib.compareBytes at h1 h2 ⊢
    simp only [UInt8.lt_iff_toNat_lt] at *
    by_cases x1 : a.toNat < b.toNat
    · by_cases x2 : b.toNat < c.toNat
      · rw [if_pos (by omega)]; exact ⟨by omega, fun _ => by omega⟩
      · by_cases x3 : c.toNat < b.toNat
        · rw [if_neg x2, if_pos x3] at h2; omega
        · rw [if_pos (by omega)]; exact ⟨by omega, fun _ => by omega⟩
    · by_cases x1' : b.toNat < a.toNat
      · rw [if_neg x1, if_pos x1'] at h1; omega
      · rw [if_neg x1, if_neg x1'] at h1
        by_cases x2 : b.toNat < c.toNat
        · rw [if_pos (show a.toNat < c.toNat by omega)]; exact ⟨by omega, fun _ => by omega⟩
        · by_cases x3 : c.toNat < b.toNat
          · rw [if_neg x2, if_pos x3] at h2; omega
          · rw [if_neg x2, if_neg x3] at h2
            rw [if_neg (show ¬ a.toNat < c.toNat by omega), if_neg (show ¬ c.toNat < a.toNat by omega), if_neg x1, if_neg x1', if_neg x2, if_neg x3]
            exact hr h1 h2

def orOf (x y z : Int) : Int := if x = 0 then (if y = 0 then z else y) else x

def cfR (x y : Rw) : Int := orOf (Lib.compareBytes x.1.data.toList y.1.data.toList) (Lib.compareInt x.2.1 y.2.1) (Lib.compareInt x.2.2 y.2.2)

theorem ci_cases (a b : Int) : (a < b ∧ Lib.compareInt a b = -1) ∨ (a = b ∧ Lib.compareInt a b = 0) ∨ (b < a ∧ Lib.compareInt a b = 1) := by
  unfold Lib.compareInt
  rcases Int.lt_trichotomy a b with h | h | h
  · exact Or.inl ⟨h, by rw [if_pos h]⟩
  · subst h; exact Or.inr (Or.inl ⟨rfl, by simp⟩)
  · exact Or.inr (Or.inr ⟨h, by rw [if_neg (by omega), if_pos h]⟩)

theorem part_ext {x y : ByteArray} (h : x.data.toList = y.data.toList) : x = y := by
  cases x; cases y
  simp only [ByteArray.mk.injEq] at *
  exact Array.toList_inj.1 h

theorem cfR_self (x : Rw) : cfR x x = 0 := by
  unfold cfR orOf
  rw [if_pos (cb_self _)]
  rcases ci_cases x.2.1 x.2.1 with ⟨h, _⟩ | ⟨_, h⟩ | ⟨h, _⟩
  · omega
  · rw [if_pos h]
    rcases ci_cases x.2.2 x.2.2 with ⟨h, _⟩ | ⟨_, h⟩ | ⟨h, _⟩ <;> omega
  · omega

theorem ci_swap (a b : Int) : Lib.compareInt a b = - Lib.compareInt b a := by
  rcases ci_cases a b with ⟨h, e⟩ | ⟨h, e⟩ | ⟨h, e⟩ <;> rcases ci_cases b a with ⟨h', e'⟩ | ⟨h', e'⟩ | ⟨h', e'⟩ <;> omega

theorem cfR_swap (x y : Rw) : cfR x y = - cfR y x := by
  unfold cfR orOf
  have h1 := cb_swap x.1.data.toList y.1.data.toList
  have h2 := ci_swap x.2.1 y.2.1
  have h3 := ci_swap x.2.2 y.2.2
  by_cases h : Lib.compareBytes x.1.data.toList y.1.data.toList = 0
  · rw [if_pos h, if_pos (show Lib.compareBytes y.1.data.toList x.1.data.toList = 0 by omega)]
    by_cases k : Lib.compareInt x.2.1 y.2.1 = 0
    · rw [if_pos k, if_pos (show Lib.compareInt y.2.1 x.2.1 = 0 by omega)]; exact h3
    · rw [if_neg k, if_neg (show ¬ Lib.compareInt y.2.1 x.2.1 = 0 by omega)]; exact h2
  · rw [if_neg h, if_neg (show ¬ Lib.compareBytes y.1.data.toList x.1.data.toList = 0 by omega)]; exact h1

theorem cfR_eq (x y : Rw) (h : cfR x y = 0) : x = y := by
  unfold cfR orOf at h
  split at h
  · rename_i h1
    rcases ci_cases x.2.1 y.2.1 with ⟨a, b⟩ | ⟨a, b⟩ | ⟨a, b⟩
    · rw [b] at h; simp at h
    · rw [b] at h
      simp at h
      rcases ci_cases x.2.2 y.2.2 with ⟨c, d⟩ | ⟨c, d⟩ | ⟨c, d⟩
      · omega
      · exact Prod.ext (part_ext (cb_eq _ _ h1)) (Prod.ext a c)
      · omega
    · rw [b] at h; simp at h
  · rename_i h1; exact absurd h h1

theorem cfR_trans (x y z : Rw) (h1 : cfR x y ≤ 0) (h2 : cfR y z ≤ 0) : cfR x z ≤ 0 ∧ (cfR x y < 0 ∨ cfR y z < 0 → cfR x z < 0) := by
  have t1 := cb_three x.1.data.toList y.1.data.toList
  have t2 := cb_three y.1.data.toList z.1.data.toList
  have t3 := cb_three x.1.data.toList z.1.data.toList
  have p1 : Lib.compareBytes x.1.data.toList y.1.data.toList ≤ 0 := by
    unfold cfR orOf at h1; split at h1 <;> omega
  have p2 : Lib.compareBytes y.1.data.toList z.1.data.toList ≤ 0 := by
    unfold cfR orOf at h2; split at h2 <;> omega
  have hb := cb_trans _ _ _ p1 p2
  by_cases e1 : Lib.compareBytes x.1.data.toList y.1.data.toList = 0
  · by_cases e2 : Lib.compareBytes y.1.data.toList z.1.data.toList = 0
    · have e3 : Lib.compareBytes x.1.data.toList z.1.data.toList = 0 := by rw [cb_eq _ _ e1]; exact e2
      have c1 : cfR x y = if Lib.compareInt x.2.1 y.2.1 = 0 then Lib.compareInt x.2.2 y.2.2 else Lib.compareInt x.2.1 y.2.1 := by unfold cfR orOf; rw [if_pos e1]
      have c2 : cfR y z = if Lib.compareInt y.2.1 z.2.1 = 0 then Lib.compareInt y.2.2 z.2.2 else Lib.compareInt y.2.1 z.2.1 := by unfold cfR orOf; rw [if_pos e2]
      have c3 : cfR x z = if Lib.compareInt x.2.1 z.2.1 = 0 then Lib.compareInt x.2.2 z.2.2 else Lib.compareInt x.2.1 z.2.1 := by unfold cfR orOf; rw [if_pos e3]
      have k1 := ci_cases x.2.1 y.2.1
      have k2 := ci_cases y.2.1 z.2.1
      have k3 := ci_cases x.2.1 z.2.1
      have v1 := ci_cases x.2.2 y.2.2
      have v2 := ci_cases y.2.2 z.2.2
      have v3 := ci_cases x.2.2 z.2.2
      split at c1 <;> split at c2 <;> split at c3 <;> omega
    · have := hb.2 (Or.inr (by omega))
      unfold cfR orOf
      rw [if_neg (show ¬ Lib.compareBytes x.1.data.toList z.1.data.toList = 0 by omega)]
      exact ⟨by omega, fun _ => by omega⟩
  · have := hb.2 (Or.inl (by omega))
    unfold cfR orOf
    rw [if_neg (show ¬ Lib.compareBytes x.1.data.toList z.1.data.toList = 0 by omega)]
    exact ⟨by omega, fun _ => by omega⟩

theorem swoR : SWO (ltOf cfR) where
  irrefl x := by simp [ltOf, cfR_self]
  trans x y z h1 h2 := by
    simp only [ltOf, decide_eq_true_eq] at *
    exact (cfR_trans x y z (by omega) (by omega)).2 (Or.inl h1)
  ntrans x y z h1 h2 := by
    simp only [ltOf, decide_eq_false_iff_not] at *
    have a := cfR_swap x y
    have b := cfR_swap y z
    have c := cfR_swap x z
    have := (cfR_trans z y x (by omega) (by omega)).1
    omega

theorem totR (x y : Rw) (h1 : ltOf cfR x y = false) (h2 : ltOf cfR y x = false) : x = y := by
  simp only [ltOf, decide_eq_false_iff_not] at *
  have a := cfR_swap x y
  exact cfR_eq x y (by omega)
end Go.Proofs.YtpkoefpdpoikkaaGreatDoor
