/-
  The contracts of part's specs: divide, bucket, trunc, readN, read; what a spec is; a row's group.
-/
import Derived.Test.YtgffkkijfmoooaaGreatDoorRowLaw
import Derived.Lib.QuietBelow
import Derived.BigQuiet
namespace Go.Proofs.YtgffkkijfmoooaaGreatDoor
open Go.RowKit Go.Extern.Stop Go.Stop Go.Extern Go.Sort Go.Shelf Go.Lib

/-- Go's division, and the one to the lower side. -/
theorem floor_of (k n : Int) (hn : 1 ≤ n) : (k.tmod n < 0 ∧ k / n = k.tdiv n - 1 ∧ k % n = k.tmod n + n) ∨ (¬ k.tmod n < 0 ∧ k / n = k.tdiv n ∧ k % n = k.tmod n) := by
  have h3 := Int.emod_nonneg k (show n ≠ 0 by omega)
  have h4 := Int.emod_lt_of_pos k (show 0 < n by omega)
  have h5 := @Int.tdiv_eq_ediv k n
  have h6 := @Int.tmod_eq_emod k n
  have h7 : n.sign = 1 := Int.sign_eq_one_of_pos (by omega)
  by_cases c : 0 ≤ k ∨ n ∣ k
  · rw [if_pos c] at h5 h6
    exact Or.inr ⟨by omega, by omega, by omega⟩
  · rw [if_neg c] at h5 h6
    exact Or.inl ⟨by omega, by omega, by omega⟩
theorem tdiv_in (k n : Int) (h1 : -4611686018427387904 ≤ k) (h2 : k ≤ 4611686018427387904) : -4611686018427387904 ≤ k.tdiv n ∧ k.tdiv n ≤ 4611686018427387904 := by
  have h : (k.tdiv n).natAbs ≤ k.natAbs := by rw [Int.natAbs_tdiv]; exact Nat.div_le_self _ _
  omega
theorem tmod_in (k n : Int) (hn : 1 ≤ n) : -n ≤ k.tmod n ∧ k.tmod n < n := by
  have h := floor_of k n hn
  have h3 := Int.emod_nonneg k (show n ≠ 0 by omega)
  have h4 := Int.emod_lt_of_pos k (show 0 < n by omega)
  generalize k % n = r at *
  generalize k / n = q at *
  generalize k.tmod n = t at *
  generalize k.tdiv n = d at *
  omega

set_option maxHeartbeats 1000000 in
theorem divide_any (k n : Int) (w : World) (hn1 : 1 ≤ n) (hn2 : n ≤ 1000) (hk1 : -4611686018427387904 ≤ k) (hk2 : k ≤ 4611686018427387904) :
    Calls Tryz.prog 138 #[.int .i64 k, .int .i64 n] w fun e w' => e = .returned (.tuple #[.int .i64 (k / n), .int .i64 (k % n)]) ∧ Below w.heap.size w w' := by
  have hne : n ≠ 0 := by omega
  have ht := tdiv_in k n hk1 hk2
  have hm := tmod_in k n hn1
  rcases floor_of k n hn1 with ⟨hr, e1, e2⟩ | ⟨hr, e1, e2⟩
  · rw [e1, e2]
    clear e1 e2
    go_enter Tryz.func138, Tryz.ntmps138
    go_wp2
    go_quiet (fail)
    go_wp2
    go_ret2
    exact ⟨rfl, below_drewN (Below.refl _ _) nq⟩
  · rw [e1, e2]
    clear e1 e2
    go_enter Tryz.func138, Tryz.ntmps138
    go_wp2
    go_quiet (fail)
    go_wp2
    go_ret2
    exact ⟨rfl, below_drewN (Below.refl _ _) nq⟩

/-- A group's name, where it is a number: b, t, n and the number. -/
def markB (c : UInt8) (n : Int) : ByteArray := ⟨#[c]⟩ ++ bytesOf (itoa n)
theorem itoa_below (n : Int) (w : World) (a : Nat → Addr) (h : Env0 w a) (h0 : -9223372036854775808 ≤ n) (h1 : n ≤ 9223372036854775807) :
    Calls Tryz.prog 54 #[.int .i64 n] w fun e w' => e = .returned (.string (bytesOf (itoa n))) ∧ Below w.heap.size w w' :=
  (itoa_any n w h.tab h0 h1).mono fun e w' ⟨he, k, os, hw⟩ => ⟨he, by subst hw; exact grow_below k os⟩

set_option maxHeartbeats 1000000 in
theorem bucket_any (k n : Int) (w : World) (a : Nat → Addr) (h : Env w a) (hn1 : 1 ≤ n) (hn2 : n ≤ 1000) (hk1 : -1073741824 ≤ k) (hk2 : k ≤ 1073741824) :
    Calls Tryz.prog 91 #[.int .i64 k, .int .i64 n] w fun e w' => e = .returned (.string (markB 98 (k % n))) ∧ Below w.heap.size w w' := by
  have hd := divide_any k n w hn1 hn2 (by omega) (by omega)
  have h3 := Int.emod_nonneg k (show n ≠ 0 by omega)
  have h4 := Int.emod_lt_of_pos k (show 0 < n by omega)
  generalize k % n = r at *
  generalize k / n = q at *
  have hit := fun W (hW : Env W a) => itoa_below r W a hW.weak (by omega) (by omega)
  have hlen := itoa_len r (by omega) (by omega)
  have hsz : (bytesOf (itoa r)).size ≤ 20 := by rw [← size_list]; simpa [bytesOf] using (by omega : (itoa r).length ≤ 20)
  unfold markB
  generalize bytesOf (itoa r) = t at *
  go_enter Tryz.func91, Tryz.ntmps91
  go_wp2_with fail
  refine hd.mono ?_
  rintro e w1 ⟨rfl, hb1⟩
  have hi1 := hit w1 (h.below hb1)
  clear hit hd
  have n1 : ¬ 9223372036854775807 < 1 + t.size := by omega
  go_wp2_with fail
  refine hi1.mono ?_
  rintro e w2 ⟨rfl, hb2⟩
  clear hi1
  go_wp2
  go_ret
  exact ⟨rfl, hb1.trans (hb2.mono hb1.size)⟩

theorem ediv_in (k n : Int) (hn : 1 ≤ n) (h1 : -1073741824 ≤ k) (h2 : k ≤ 1073741824) : -1073741824 ≤ k / n ∧ k / n ≤ 1073741824 := by
  have e := Int.mul_ediv_add_emod k n
  have h3 := Int.emod_nonneg k (show n ≠ 0 by omega)
  have h4 := Int.emod_lt_of_pos k (show 0 < n by omega)
  generalize k % n = r at *
  generalize k / n = q at *
  refine ⟨?_, ?_⟩
  · rcases Int.lt_or_le q (-1073741824) with hq | hq
    · exfalso
      have hh := Int.mul_nonneg (show 0 ≤ n - 1 by omega) (show 0 ≤ -(q + 1) by omega)
      rw [Int.sub_mul, Int.one_mul, Int.mul_neg, Int.mul_add, Int.mul_one] at hh
      generalize n * q = m at *
      omega
    · exact hq
  · rcases Int.lt_or_le 1073741824 q with hq | hq
    · exfalso
      have hh := Int.mul_nonneg (show 0 ≤ n - 1 by omega) (show 0 ≤ q by omega)
      rw [Int.sub_mul, Int.one_mul] at hh
      generalize n * q = m at *
      omega
    · exact hq

/-- .. of how many times. -/
def truncB (q : Int) : ByteArray := if q < 0 then markB 110 (-q) else markB 116 q

set_option maxHeartbeats 1000000 in
theorem trunc_any (k n : Int) (w : World) (a : Nat → Addr) (h : Env w a) (hn1 : 1 ≤ n) (hn2 : n ≤ 1000) (hk1 : -1073741824 ≤ k) (hk2 : k ≤ 1073741824) :
    Calls Tryz.prog 93 #[.int .i64 k, .int .i64 n] w fun e w' => e = .returned (.string (truncB (k / n))) ∧ Below w.heap.size w w' := by
  have hd := divide_any k n w hn1 hn2 (by omega) (by omega)
  have h5 := ediv_in k n hn1 hk1 hk2
  generalize k % n = r at *
  generalize k / n = q at *
  by_cases hq : q < 0
  · have e0 : truncB q = markB 110 (-q) := by unfold truncB; rw [if_pos hq]
    rw [e0]
    have hit := fun W (hW : Env W a) => itoa_below (-q) W a hW.weak (by omega) (by omega)
    have hlen := itoa_len (-q) (by omega) (by omega)
    have hsz : (bytesOf (itoa (-q))).size ≤ 20 := by rw [← size_list]; simpa [bytesOf] using (by omega : (itoa (-q)).length ≤ 20)
    unfold markB
    generalize bytesOf (itoa (-q)) = t at *
    clear e0 hlen
    go_enter Tryz.func93, Tryz.ntmps93
    go_wp2_with fail
    refine hd.mono ?_
    rintro e w1 ⟨rfl, hb1⟩
    have hi1 := hit w1 (h.below hb1)
    clear hit hd
    have n1 : ¬ 9223372036854775807 < 1 + t.size := by omega
    go_wp2_with fail
    refine hi1.mono ?_
    rintro e w2 ⟨rfl, hb2⟩
    clear hi1
    go_wp2
    go_ret
    exact ⟨rfl, hb1.trans (hb2.mono hb1.size)⟩
  · have e0 : truncB q = markB 116 q := by unfold truncB; rw [if_neg hq]
    rw [e0]
    have hit := fun W (hW : Env W a) => itoa_below q W a hW.weak (by omega) (by omega)
    have hlen := itoa_len q (by omega) (by omega)
    have hsz : (bytesOf (itoa q)).size ≤ 20 := by rw [← size_list]; simpa [bytesOf] using (by omega : (itoa q).length ≤ 20)
    unfold markB
    generalize bytesOf (itoa q) = t at *
    clear e0 hlen
    go_enter Tryz.func93, Tryz.ntmps93
    go_wp2_with fail
    refine hd.mono ?_
    rintro e w1 ⟨rfl, hb1⟩
    have hi1 := hit w1 (h.below hb1)
    clear hit hd
    have n1 : ¬ 9223372036854775807 < 1 + t.size := by omega
    go_wp2_with fail
    refine hi1.mono ?_
    rintro e w2 ⟨rfl, hb2⟩
    clear hi1
    go_wp2
    go_ret
    exact ⟨rfl, hb1.trans (hb2.mono hb1.size)⟩

/-- A spec's number: an error's number, the number. -/
def nO (l : List UInt8) : Nat × Int := match numO l with
  | none => (1, 0)
  | some n => if n < 0 ∨ 9 < l.length then (1, 0) else if n < 1 ∨ 1000 < n then (2, 0) else (0, n)

set_option maxHeartbeats 1000000 in
theorem readN_any (s : ByteArray) (w : World) (a : Nat → Addr) (h : Env w a) (hs : s.size ≤ maxLen) :
    Calls Tryz.prog 89 #[.string s] w fun e w' => e = .returned (.tuple #[.int .i64 (nO s.data.toList).2, errV a (nO s.data.toList).1]) ∧ Below w.heap.size w w' := by
  have hnm := number_any s w a h.weak hs
  have hsz := size_list s
  unfold maxLen at hs
  unfold numR at hnm
  unfold nO
  cases hn : numO s.data.toList with
  | none =>
    rw [hn] at hnm
    dsimp only at hnm ⊢
    clear hn hsz
    go_enter Tryz.func89, Tryz.ntmps89
    go_wp2_with fail
    refine hnm.mono ?_
    rintro e w1 ⟨rfl, hb1⟩
    have ht := (h.below hb1).text
    clear hnm
    go_wp2
    go_quiet (fail)
    go_wp2
    go_ret2
    exact ⟨rfl, below_drewN hb1 nq⟩
  | some n =>
    rw [hn] at hnm
    dsimp only at hnm ⊢
    clear hn
    by_cases h1 : n < 0
    · rw [if_pos (Or.inl h1)]
      dsimp only
      clear hsz
      go_enter Tryz.func89, Tryz.ntmps89
      go_wp2_with fail
      refine hnm.mono ?_
      rintro e w1 ⟨rfl, hb1⟩
      have ht := (h.below hb1).text
      clear hnm
      go_wp2
      go_quiet (fail)
      go_wp2
      go_ret2
      exact ⟨rfl, below_drewN hb1 nq⟩
    · by_cases h2 : 9 < s.size
      · rw [if_pos (Or.inr (by omega))]
        dsimp only
        clear hsz
        have h2' : (9 : Int) < (s.size : Int) := by omega
        go_enter Tryz.func89, Tryz.ntmps89
        go_wp2_with fail
        refine hnm.mono ?_
        rintro e w1 ⟨rfl, hb1⟩
        have ht := (h.below hb1).text
        clear hnm
        go_wp2
        go_quiet (fail)
        go_wp2
        go_ret2
        exact ⟨rfl, below_drewN hb1 nq⟩
      · have hno : ¬ (n < 0 ∨ 9 < s.data.toList.length) := by omega
        rw [if_neg hno]
        have h2' : ¬ (9 : Int) < (s.size : Int) := by omega
        clear hsz hno
        by_cases h3 : n < 1 ∨ 1000 < n
        · rw [if_pos h3]
          dsimp only
          rcases h3 with h3 | h3
          · go_enter Tryz.func89, Tryz.ntmps89
            go_wp2_with fail
            refine hnm.mono ?_
            rintro e w1 ⟨rfl, hb1⟩
            have ht := (h.below hb1).bound
            clear hnm
            go_wp2
            go_quiet (fail)
            go_wp2
            go_ret2
            exact ⟨rfl, below_drewN hb1 nq⟩
          · go_enter Tryz.func89, Tryz.ntmps89
            go_wp2_with fail
            refine hnm.mono ?_
            rintro e w1 ⟨rfl, hb1⟩
            have ht := (h.below hb1).bound
            clear hnm
            go_wp2
            go_quiet (fail)
            go_wp2
            go_ret2
            exact ⟨rfl, below_drewN hb1 nq⟩
        · rw [if_neg h3]
          dsimp only
          have h4 : ¬ n < 1 := by omega
          have h5 : ¬ 1000 < n := by omega
          clear h3
          go_enter Tryz.func89, Tryz.ntmps89
          go_wp2_with fail
          refine hnm.mono ?_
          rintro e w1 ⟨rfl, hb1⟩
          clear hnm
          go_wp2
          go_ret2
          exact ⟨rfl, hb1⟩

def kPart : List UInt8 := [112, 97, 114, 116]
def kBucket : List UInt8 := [98, 117, 99, 107, 101, 116]
def kTrunc : List UInt8 := [116, 114, 117, 110, 99]
def cutK (s : List UInt8) : List UInt8 := (Lib.cut s [32]).1
def cutW (s : List UInt8) : List UInt8 := (Lib.cut s [32]).2.1

/-- What a spec is: an error's number, its kind (0: part, 1: bucket, 2: trunc), its N. -/
def specO (s : List UInt8) : Nat × Nat × Int :=
  if s = kPart then (0, 0, 0)
  else if cutK s = kBucket then (if (nO (cutW s)).1 = 0 then (0, 1, (nO (cutW s)).2) else ((nO (cutW s)).1, 0, 0))
  else if cutK s = kTrunc then (if (nO (cutW s)).1 = 0 then (0, 2, (nO (cutW s)).2) else ((nO (cutW s)).1, 0, 0))
  else (1, 0, 0)

/-- A row's group. -/
def grpB (k : Nat) (n : Int) (x : Rw) : ByteArray := if k = 0 then x.1 else if k = 1 then markB 98 (x.2.1 % n) else truncB (x.2.1 / n)

/-- A function value that names the groups of right rows. -/
def Namer (w : World) (fv : Value) (p : Rw → ByteArray) (a : Nat → Addr) : Prop :=
  ∃ g cb, fv = .func (.func g) #[] cb ∧ (∀ args w, (callFunc g args).run Tryz.prog w = .ok (.enter g args) w) ∧
    ∀ (x : Rw) (W : World), Below w.heap.size w W → Env W a → rowE x = 0 → Calls Tryz.prog g (#[.agg #[.string x.1, .int .i64 x.2.1, .int .i64 x.2.2]] ++ cb) W fun e w' => e = .returned (.string (p x)) ∧ Below W.heap.size W w'

theorem Namer.below {w w' : World} {fv : Value} {p : Rw → ByteArray} {a : Nat → Addr} (h : Namer w fv p a) (hb : Below w.heap.size w w') : Namer w' fv p a := by
  obtain ⟨g, cb, e, eg, hc⟩ := h
  exact ⟨g, cb, e, eg, fun x W hW => hc x W (hb.trans (hW.mono hb.size))⟩

theorem key_in {x : Rw} (h : rowE x = 0) : -1073741824 ≤ x.2.1 ∧ x.2.1 ≤ 1073741824 := by
  unfold rowE at h
  split at h
  · split at h
    · rename_i hnn
      simp only [Bool.and_eq_true, inNum, decide_eq_true_eq] at hnn
      exact hnn.1
    · omega
  · omega

set_option maxHeartbeats 1000000 in
theorem read1_any (x : Rw) (w : World) : Calls Tryz.prog 87 #[.agg #[.string x.1, .int .i64 x.2.1, .int .i64 x.2.2]] w fun e w' => e = .returned (.string x.1) ∧ Below w.heap.size w w' := by
  obtain ⟨xp, xk, xv⟩ := x
  have hal : Below w.heap.size w (w.alloc (.cells #[.string xp, .int .i64 xk, .int .i64 xv] 30)) := (Below.refl _ _).alloc (Nat.le_refl _) _
  go_enter Tryz.func87, Tryz.ntmps87
  go_wp2
  go_ret
  exact ⟨rfl, hal⟩

set_option maxHeartbeats 1000000 in
theorem read2_any (x : Rw) (n : Int) (ad : Addr) (w : World) (a : Nat → Addr) (h : Env w a) (hc : w.cell? ad = some (.int .i64 n)) (hx : rowE x = 0) (hn1 : 1 ≤ n) (hn2 : n ≤ 1000) :
    Calls Tryz.prog 90 #[.agg #[.string x.1, .int .i64 x.2.1, .int .i64 x.2.2], .pointer (some ad)] w fun e w' => e = .returned (.string (markB 98 (x.2.1 % n))) ∧ Below w.heap.size w w' := by
  have hk := key_in hx
  obtain ⟨xp, xk, xv⟩ := x
  dsimp only at hk ⊢
  have hal : Below w.heap.size w (w.alloc (.cells #[.string xp, .int .i64 xk, .int .i64 xv] 30)) := (Below.refl _ _).alloc (Nat.le_refl _) _
  have hb := fun W (hW : Below w.heap.size w W) => bucket_any xk n W a (h.below hW) hn1 hn2 hk.1 hk.2
  generalize markB 98 (xk % n) = r at hb ⊢
  have hc1 := below_keep hal hc
  clear hx
  go_enter Tryz.func90, Tryz.ntmps90
  go_wp2_with fail
  refine (hb _ hal).mono ?_
  rintro e w2 ⟨rfl, hb2⟩
  go_wp2
  go_ret
  exact ⟨rfl, hal.trans (hb2.mono hal.size)⟩

set_option maxHeartbeats 1000000 in
theorem read3_any (x : Rw) (n : Int) (ad : Addr) (w : World) (a : Nat → Addr) (h : Env w a) (hc : w.cell? ad = some (.int .i64 n)) (hx : rowE x = 0) (hn1 : 1 ≤ n) (hn2 : n ≤ 1000) :
    Calls Tryz.prog 92 #[.agg #[.string x.1, .int .i64 x.2.1, .int .i64 x.2.2], .pointer (some ad)] w fun e w' => e = .returned (.string (truncB (x.2.1 / n))) ∧ Below w.heap.size w w' := by
  have hk := key_in hx
  obtain ⟨xp, xk, xv⟩ := x
  dsimp only at hk ⊢
  have hal : Below w.heap.size w (w.alloc (.cells #[.string xp, .int .i64 xk, .int .i64 xv] 30)) := (Below.refl _ _).alloc (Nat.le_refl _) _
  have hb := fun W (hW : Below w.heap.size w W) => trunc_any xk n W a (h.below hW) hn1 hn2 hk.1 hk.2
  generalize truncB (xk / n) = r at hb ⊢
  have hc1 := below_keep hal hc
  clear hx
  go_enter Tryz.func92, Tryz.ntmps92
  go_wp2_with fail
  refine (hb _ hal).mono ?_
  rintro e w2 ⟨rfl, hb2⟩
  go_wp2
  go_ret
  exact ⟨rfl, hal.trans (hb2.mono hal.size)⟩

theorem eqB_of {s : ByteArray} {l : List UInt8} (h : s.data.toList = l) : (s.toList == l) = true := by
  rw [ByteArray.toList_eq]; simpa using h
theorem neB_of {s : ByteArray} {l : List UInt8} (h : s.data.toList ≠ l) : (s.toList == l) = false := by
  rw [ByteArray.toList_eq]; simpa using h

set_option maxRecDepth 100000 in
set_option maxHeartbeats 2000000 in
theorem readSpec_any (s : ByteArray) (w : World) (a : Nat → Addr) (h : Env w a) (hs : s.size ≤ 1000) :
    Calls Tryz.prog 62 #[.string s] w fun e w' => ∃ fv, e = .returned (.tuple #[fv, errV a (specO s.data.toList).1]) ∧ ((specO s.data.toList).1 = 0 → Namer w' fv (grpB (specO s.data.toList).2.1 (specO s.data.toList).2.2) a) ∧ Below w.heap.size w w' := by
  by_cases hp : s.data.toList = kPart
  · have e0 : specO s.data.toList = (0, 0, 0) := by unfold specO; rw [if_pos hp]
    rw [e0]
    dsimp only
    have hpb := eqB_of hp
    unfold kPart at hpb
    have eg1 : ∀ args w, (callFunc 87 args).run Tryz.prog w = .ok (.enter 87 args) w := enters_of Tryz.func87 (by kernel_rfl) rfl
    clear e0 hp hs
    go_enter Tryz.func62, Tryz.ntmps62
    go_wp2
    go_ret2
    refine ⟨_, rfl, fun _ => ⟨_, _, rfl, eg1, fun x W _ _ _ => ?_⟩, Below.refl _ _⟩
    exact (read1_any x W).mono fun e w' ⟨he, hb⟩ => ⟨by rw [he]; simp [grpB], hb⟩
  · have hpb := neB_of hp
    unfold kPart at hpb
    obtain ⟨m, hm⟩ := h.maxl
    have hcut := Tryz.strings_Cut s ⟨#[32]⟩ m w (by omega) hm
    have hKs : (cutK s.data.toList).length ≤ s.size := by
      rw [← size_list]
      unfold cutK Lib.cut
      split
      · simp; omega
      · exact Nat.le_refl _
    have hWs : (cutW s.data.toList).length ≤ s.size := by
      rw [← size_list]
      unfold cutW Lib.cut
      split
      · simp
      · simp
    have eK : (⟨(Lib.cut s.data.toList [32]).1.toArray⟩ : ByteArray) = bytesOf (cutK s.data.toList) := rfl
    have eW : (⟨(Lib.cut s.data.toList [32]).2.1.toArray⟩ : ByteArray) = bytesOf (cutW s.data.toList) := rfl
    dsimp only at hcut
    rw [eK, eW] at hcut
    clear eK eW
    generalize (Lib.cut s.data.toList [32]).2.2 = found at hcut
    have hrn := fun W (hW : Env W a) => readN_any (bytesOf (cutW s.data.toList)) W a hW (by rw [← size_list]; simp [bytesOf]; unfold maxLen; omega)
    have eD : (bytesOf (cutW s.data.toList)).data.toList = cutW s.data.toList := by simp [bytesOf]
    rw [eD] at hrn
    have hKd : (bytesOf (cutK s.data.toList)).data.toList = cutK s.data.toList := by simp [bytesOf]
    have hnOb : (nO (cutW s.data.toList)).1 = 0 → 1 ≤ (nO (cutW s.data.toList)).2 ∧ (nO (cutW s.data.toList)).2 ≤ 1000 := by
      unfold nO
      split
      · intro h; cases h
      · split
        · intro h; cases h
        · split
          · intro h; cases h
          · intro _; dsimp only; omega
    have hsp : specO s.data.toList = if cutK s.data.toList = kBucket then (if (nO (cutW s.data.toList)).1 = 0 then (0, 1, (nO (cutW s.data.toList)).2) else ((nO (cutW s.data.toList)).1, 0, 0))
      else if cutK s.data.toList = kTrunc then (if (nO (cutW s.data.toList)).1 = 0 then (0, 2, (nO (cutW s.data.toList)).2) else ((nO (cutW s.data.toList)).1, 0, 0)) else (1, 0, 0) := by
      unfold specO; rw [if_neg hp]
    rw [hsp]
    clear hsp hKs hWs eD hp
    generalize hkk : bytesOf (cutK s.data.toList) = kB at hcut hKd
    generalize bytesOf (cutW s.data.toList) = wB at hcut hrn
    generalize cutK s.data.toList = kL at hKd ⊢
    generalize nO (cutW s.data.toList) = R at hrn hnOb ⊢
    obtain ⟨en, n⟩ := R
    dsimp only at hrn hnOb ⊢
    clear hkk
    have eg2 : ∀ args w, (callFunc 90 args).run Tryz.prog w = .ok (.enter 90 args) w := enters_of Tryz.func90 (by kernel_rfl) rfl
    have eg3 : ∀ args w, (callFunc 92 args).run Tryz.prog w = .ok (.enter 92 args) w := enters_of Tryz.func92 (by kernel_rfl) rfl
    by_cases hb : kL = kBucket
    · rw [if_pos hb]
      have hb1 := eqB_of (hKd.trans hb)
      unfold kBucket at hb1
      clear hKd
      by_cases he : en = 0
      · subst he
        rw [if_pos rfl]
        have hn := hnOb rfl
        clear hnOb hb
        simp only [errV] at hrn ⊢
        go_enter Tryz.func62, Tryz.ntmps62
        go_wp2_with fail
        refine hcut.mono ?_
        rintro e w1 ⟨rfl, q, rfl⟩
        have hB1 : Below w.heap.size w (w.drewN q) := below_drewN (Below.refl _ _) q
        have hr1 := hrn _ (h.below hB1)
        clear hcut hrn
        go_wp2_with fail
        refine hr1.mono ?_
        rintro e w2 ⟨rfl, hb2⟩
        clear hr1
        have hB2 : Below w.heap.size w w2 := hB1.trans (hb2.mono hB1.size)
        have hB3 : Below w.heap.size w (w2.alloc (.cells #[.int .i64 n] 3)) := hB2.alloc hB2.size _
        go_wp2
        go_ret2
        refine ⟨_, rfl, fun _ => ⟨_, _, rfl, eg2, fun x W hW hWE hx => ?_⟩, hB3⟩
        have hcell : W.cell? ⟨w2.heap.size, 0, none⟩ = some (.int .i64 n) := below_keep hW (by simp)
        exact (read2_any x n ⟨w2.heap.size, 0, none⟩ W a hWE hcell hx hn.1 hn.2).mono fun e w' ⟨he, hb⟩ => ⟨by rw [he]; simp [grpB], hb⟩
      · obtain ⟨j, rfl⟩ : ∃ j, en = j + 1 := ⟨en - 1, by omega⟩
        rw [if_neg he]
        clear hnOb he
        dsimp only
        simp only [errV] at hrn ⊢
        go_enter Tryz.func62, Tryz.ntmps62
        go_wp2_with fail
        refine hcut.mono ?_
        rintro e w1 ⟨rfl, q, rfl⟩
        have hB1 : Below w.heap.size w (w.drewN q) := below_drewN (Below.refl _ _) q
        have hr1 := hrn _ (h.below hB1)
        clear hcut hrn
        go_wp2_with fail
        refine hr1.mono ?_
        rintro e w2 ⟨rfl, hb2⟩
        clear hr1
        have hB2 : Below w.heap.size w w2 := hB1.trans (hb2.mono hB1.size)
        have hB3 : Below w.heap.size w (w2.alloc (.cells #[.int .i64 n] 3)) := hB2.alloc hB2.size _
        go_wp2
        go_ret2
        exact ⟨_, rfl, fun h => (by cases h), hB3⟩
    · rw [if_neg hb]
      have hb1 := neB_of (fun e => hb (hKd.symm.trans e))
      unfold kBucket at hb1
      by_cases ht : kL = kTrunc
      · rw [if_pos ht]
        have ht1 := eqB_of (hKd.trans ht)
        unfold kTrunc at ht1
        clear hKd
        by_cases he : en = 0
        · subst he
          rw [if_pos rfl]
          have hn := hnOb rfl
          clear hnOb
          simp only [errV] at hrn ⊢
          go_enter Tryz.func62, Tryz.ntmps62
          go_wp2_with fail
          refine hcut.mono ?_
          rintro e w1 ⟨rfl, q, rfl⟩
          have hB1 : Below w.heap.size w (w.drewN q) := below_drewN (Below.refl _ _) q
          have hr1 := hrn _ (h.below hB1)
          clear hcut hrn
          go_wp2_with fail
          refine hr1.mono ?_
          rintro e w2 ⟨rfl, hb2⟩
          clear hr1
          have hB2 : Below w.heap.size w w2 := hB1.trans (hb2.mono hB1.size)
          have hB3 : Below w.heap.size w (w2.alloc (.cells #[.int .i64 n] 3)) := hB2.alloc hB2.size _
          go_wp2
          go_ret2
          refine ⟨_, rfl, fun _ => ⟨_, _, rfl, eg3, fun x W hW hWE hx => ?_⟩, hB3⟩
          have hcell : W.cell? ⟨w2.heap.size, 0, none⟩ = some (.int .i64 n) := below_keep hW (by simp)
          exact (read3_any x n ⟨w2.heap.size, 0, none⟩ W a hWE hcell hx hn.1 hn.2).mono fun e w' ⟨he, hb⟩ => ⟨by rw [he]; simp [grpB], hb⟩
        · obtain ⟨j, rfl⟩ : ∃ j, en = j + 1 := ⟨en - 1, by omega⟩
          rw [if_neg he]
          clear hnOb he
          dsimp only
          simp only [errV] at hrn ⊢
          go_enter Tryz.func62, Tryz.ntmps62
          go_wp2_with fail
          refine hcut.mono ?_
          rintro e w1 ⟨rfl, q, rfl⟩
          have hB1 : Below w.heap.size w (w.drewN q) := below_drewN (Below.refl _ _) q
          have hr1 := hrn _ (h.below hB1)
          clear hcut hrn
          go_wp2_with fail
          refine hr1.mono ?_
          rintro e w2 ⟨rfl, hb2⟩
          clear hr1
          have hB2 : Below w.heap.size w w2 := hB1.trans (hb2.mono hB1.size)
          have hB3 : Below w.heap.size w (w2.alloc (.cells #[.int .i64 n] 3)) := hB2.alloc hB2.size _
          go_wp2
          go_ret2
          exact ⟨_, rfl, fun h => (by cases h), hB3⟩
      · rw [if_neg ht]
        have ht1 := neB_of (fun e => ht (hKd.symm.trans e))
        unfold kTrunc at ht1
        clear hKd hnOb hrn
        have htx := fun W (hW : Below w.heap.size w W) => (h.below hW).text
        dsimp only
        go_enter Tryz.func62, Tryz.ntmps62
        go_wp2_with fail
        refine hcut.mono ?_
        rintro e w1 ⟨rfl, q, rfl⟩
        have hB1 : Below w.heap.size w (w.drewN q) := below_drewN (Below.refl _ _) q
        have ht2 := htx _ hB1
        clear hcut htx
        generalize w.drewN q = wq at hB1 ht2 ⊢
        go_wp2
        go_quiet (fail)
        go_wp2
        go_ret2
        exact ⟨_, rfl, fun h => (by cases h), below_drewN hB1 nq⟩
end Go.Proofs.YtgffkkijfmoooaaGreatDoor
