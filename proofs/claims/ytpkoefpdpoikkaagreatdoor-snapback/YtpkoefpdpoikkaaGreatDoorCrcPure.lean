/-
  Plain mathematics of the sum: by bytes and by bits it is the same; two texts that part in one byte have two sums.
-/
import Derived.Lib.Bytealg
namespace Go.Proofs.YtpkoefpdpoikkaaGreatDoor

def crcF (x : Nat) : Nat := if x % 2 = 1 then (x / 2) ^^^ 3988292384 else x / 2

def crcF8 (x : Nat) : Nat := crcF (crcF (crcF (crcF (crcF (crcF (crcF (crcF x)))))))

def crcB (c : Nat) (b : UInt8) : Nat := crcF8 (c ^^^ b.toNat)

def crcL (l : List UInt8) : Nat := l.foldl crcB 4294967295

def sumL (l : List UInt8) : Nat := crcL l ^^^ 4294967295

theorem crcF_lt {x : Nat} (h : x < 4294967296) : crcF x < 4294967296 := by
  unfold crcF
  split
  · exact Nat.xor_lt_two_pow (n := 32) (by omega) (by omega)
  · omega

theorem crcF8_lt {x : Nat} (h : x < 4294967296) : crcF8 x < 4294967296 := by
  unfold crcF8
  exact crcF_lt (crcF_lt (crcF_lt (crcF_lt (crcF_lt (crcF_lt (crcF_lt (crcF_lt h)))))))

theorem crcB_lt {c : Nat} (b : UInt8) (h : c < 4294967296) : crcB c b < 4294967296 :=
  crcF8_lt (Nat.xor_lt_two_pow (n := 32) h (by have := b.toNat_lt; omega))

theorem foldB_lt : ∀ (l : List UInt8) (c : Nat), c < 4294967296 → l.foldl crcB c < 4294967296
  | [], _, h => h
  | b :: l, _, h => foldB_lt l _ (crcB_lt b h)

theorem crcL_lt (l : List UInt8) : crcL l < 4294967296 := foldB_lt l _ (by decide)

theorem sumL_lt (l : List UInt8) : sumL l < 4294967296 := Nat.xor_lt_two_pow (n := 32) (crcL_lt l) (by decide)

theorem crcF_even (k : Nat) : crcF (2 * k) = k := by
  unfold crcF
  rw [if_neg (by omega)]
  omega

theorem crcF8_high (k : Nat) : crcF8 (256 * k) = k := by
  unfold crcF8
  rw [show 256 * k = 2 * (2 * (2 * (2 * (2 * (2 * (2 * (2 * k))))))) by omega]
  simp only [crcF_even]

theorem crcF_xor (x y : Nat) : crcF (x ^^^ y) = crcF x ^^^ crcF y := by
  have hd : (x ^^^ y) / 2 = x / 2 ^^^ y / 2 := by simpa using Nat.xor_div_two_pow (a := x) (b := y) (n := 1)
  have hm : (x ^^^ y) % 2 = (x % 2) ^^^ (y % 2) := by simpa using Nat.xor_mod_two_pow (a := x) (b := y) (n := 1)
  unfold crcF
  rcases Nat.mod_two_eq_zero_or_one x with hx | hx <;> rcases Nat.mod_two_eq_zero_or_one y with hy | hy <;> rw [hx, hy] at hm
  · rw [if_neg (by simp [hm]), if_neg (by omega), if_neg (by omega), hd]
  · rw [if_pos (by simp [hm]), if_neg (by omega), if_pos hy, hd, Nat.xor_assoc]
  · rw [if_pos (by simp [hm]), if_pos hx, if_neg (by omega), hd, Nat.xor_assoc, Nat.xor_assoc, Nat.xor_comm 3988292384]
  · rw [if_neg (by simp [hm]), if_pos hx, if_pos hy, hd, Nat.xor_assoc, Nat.xor_comm 3988292384, Nat.xor_assoc, Nat.xor_self, Nat.xor_zero]

theorem crcF8_xor (x y : Nat) : crcF8 (x ^^^ y) = crcF8 x ^^^ crcF8 y := by
  unfold crcF8; simp only [crcF_xor]

theorem low_high (x : Nat) : x = (x % 256) ^^^ (256 * (x / 256)) := by
  have e := Nat.two_pow_add_eq_or_of_lt (i := 8) (b := x % 256) (by omega) (x / 256)
  have e2 : x = 2 ^ 8 * (x / 256) + x % 256 := by omega
  have e3 : (2 ^ 8 * (x / 256)) ^^^ (x % 256) = 2 ^ 8 * (x / 256) ||| x % 256 := by
    apply Nat.eq_of_testBit_eq
    intro i
    rw [Nat.testBit_xor, Nat.testBit_or, Nat.testBit_two_pow_mul, show x % 256 = x % 2 ^ 8 from rfl, Nat.testBit_mod_two_pow]
    by_cases h : 8 ≤ i
    · simp [h, show ¬ i < 8 by omega]
    · simp [h, show i < 8 by omega]
  rw [Nat.xor_comm, show (256 : Nat) = 2 ^ 8 from rfl, show x % 2 ^ 8 = x % 256 from rfl, show x / 2 ^ 8 = x / 256 from rfl, e3, ← e]
  exact e2

theorem crcB_table (c : Nat) (b : UInt8) : crcB c b = crcF8 ((c ^^^ b.toNat) % 256) ^^^ (c / 256) := by
  unfold crcB
  have hb := b.toNat_lt
  have hd : (c ^^^ b.toNat) / 256 = c / 256 := by
    have := Nat.xor_div_two_pow (a := c) (b := b.toNat) (n := 8)
    rw [show (2 : Nat) ^ 8 = 256 from rfl] at this
    rw [this, Nat.div_eq_of_lt (a := b.toNat) (by omega), Nat.xor_zero]
  conv => lhs; rw [low_high (c ^^^ b.toNat)]
  rw [crcF8_xor, crcF8_high, hd]

theorem crcF_inj {x y : Nat} (hx : x < 4294967296) (hy : y < 4294967296) (h : crcF x = crcF y) : x = y := by
  have top : ∀ z : Nat, z < 4294967296 → (crcF z).testBit 31 = decide (z % 2 = 1) := by
    intro z hz
    have h0 : (z / 2).testBit 31 = false := Nat.testBit_lt_two_pow (by omega)
    unfold crcF
    split
    · rename_i h1
      rw [Nat.testBit_xor, h0, h1]
      decide
    · rename_i h1
      rw [h0]
      simpa using h1
  have hp : decide (x % 2 = 1) = decide (y % 2 = 1) := by rw [← top x hx, ← top y hy, h]
  unfold crcF at h
  by_cases h1 : x % 2 = 1
  · have h2 : y % 2 = 1 := by simpa [h1] using hp
    rw [if_pos h1, if_pos h2] at h
    have h3 : x / 2 = y / 2 := by
      have := congrArg (· ^^^ 3988292384) h
      simpa [Nat.xor_assoc] using this
    omega
  · have h2 : ¬ y % 2 = 1 := by simpa [h1] using hp
    rw [if_neg h1, if_neg h2] at h
    omega

theorem crcF8_inj {x y : Nat} (hx : x < 4294967296) (hy : y < 4294967296) (h : crcF8 x = crcF8 y) : x = y := by
  unfold crcF8 at h
  have a1 := crcF_lt hx; have b1 := crcF_lt hy
  have a2 := crcF_lt a1; have b2 := crcF_lt b1
  have a3 := crcF_lt a2; have b3 := crcF_lt b2
  have a4 := crcF_lt a3; have b4 := crcF_lt b3
  have a5 := crcF_lt a4; have b5 := crcF_lt b4
  have a6 := crcF_lt a5; have b6 := crcF_lt b5
  have a7 := crcF_lt a6; have b7 := crcF_lt b6
  exact crcF_inj hx hy (crcF_inj a1 b1 (crcF_inj a2 b2 (crcF_inj a3 b3 (crcF_inj a4 b4 (crcF_inj a5 b5 (crcF_inj a6 b6 (crcF_inj a7 b7 h)))))))

theorem xor_cancel {a b c : Nat} (h : a ^^^ c = b ^^^ c) : a = b := by
  have := congrArg (· ^^^ c) h
  simpa [Nat.xor_assoc] using this

theorem crcB_inj {c d : Nat} (b : UInt8) (hc : c < 4294967296) (hd : d < 4294967296) (h : crcB c b = crcB d b) : c = d := by
  have hb := b.toNat_lt
  exact xor_cancel (crcF8_inj (Nat.xor_lt_two_pow (n := 32) hc (by omega)) (Nat.xor_lt_two_pow (n := 32) hd (by omega)) h)

theorem crcB_byte {c : Nat} {a b : UInt8} (hc : c < 4294967296) (h : crcB c a = crcB c b) : a = b := by
  have ha := a.toNat_lt
  have hb := b.toNat_lt
  have e := crcF8_inj (Nat.xor_lt_two_pow (n := 32) hc (by omega)) (Nat.xor_lt_two_pow (n := 32) hc (by omega)) h
  rw [Nat.xor_comm c, Nat.xor_comm c] at e
  exact UInt8.toNat_inj.1 (xor_cancel e)

theorem fold_inj : ∀ (l : List UInt8) (c d : Nat), c < 4294967296 → d < 4294967296 → l.foldl crcB c = l.foldl crcB d → c = d
  | [], _, _, _, _, h => h
  | b :: l, _, _, hc, hd, h => crcB_inj b hc hd (fold_inj l _ _ (crcB_lt b hc) (crcB_lt b hd) h)

theorem sum_parts (p q : List UInt8) (a b : UInt8) (h : sumL (p ++ a :: q) = sumL (p ++ b :: q)) : a = b := by
  have h1 : crcL (p ++ a :: q) = crcL (p ++ b :: q) := xor_cancel h
  unfold crcL at h1
  rw [List.foldl_append, List.foldl_append, List.foldl_cons, List.foldl_cons] at h1
  have hp := foldB_lt p 4294967295 (by decide)
  exact crcB_byte hp (fold_inj q _ _ (crcB_lt a hp) (crcB_lt b hp) h1)

theorem crcL_snoc (l : List UInt8) (b : UInt8) : crcL (l ++ [b]) = crcB (crcL l) b := by
  unfold crcL; rw [List.foldl_append]; rfl
end Go.Proofs.YtpkoefpdpoikkaaGreatDoor
