/-
  The contract of the document's own SumOf.
-/
import Derived.Test.YtpiagofhgalklacGreatDoorDataSum
import Derived.Laws.Bits128
namespace Go.Proofs.YtpiagofhgalklacGreatDoor
open Go.RowKit Go.Extern.Stop Go.Stop Go.Extern Go.Sort Go.Shelf Go.Lib

theorem i64_xor_nat (a b : Nat) (ha : a < 4294967296) (hb : b < 4294967296) : bits .xor .i64 (a : Int) (b : Int) = ((a ^^^ b : Nat) : Int) := by
  have hx : a ^^^ b < 2 ^ 32 := Nat.xor_lt_two_pow (by omega) (by omega)
  have h1 : (BitVec.ofInt 64 (a : Int)).toNat = a := by
    rw [BitVec.ofInt_natCast, BitVec.toNat_ofNat]; exact Nat.mod_eq_of_lt (by omega)
  have h2 : (BitVec.ofInt 64 (b : Int)).toNat = b := by
    rw [BitVec.ofInt_natCast, BitVec.toNat_ofNat]; exact Nat.mod_eq_of_lt (by omega)
  show IntKind.i64.wrap ((BitVec.ofInt 64 (a : Int) ^^^ BitVec.ofInt 64 (b : Int)).toNat : Int) = _
  rw [BitVec.toNat_xor, h1, h2]
  exact IntWalk.i64_in _ (by omega)

set_option maxRecDepth 100000 in
set_option maxHeartbeats 2000000 in
theorem sumOf_any (s : ByteArray) (w : World) (hs : s.size ≤ maxLen) : Calls Tryz.prog 71 #[.string s] w fun e w' => e = .returned (.int .i64 (sumL s.data.toList : Nat)) ∧ w' = w := by
  unfold maxLen at hs
  go_enter Tryz.func71, Tryz.ntmps71
  go_wp2
  go_loop [3, 4] (fun c k => ∃ n : Nat, n ≤ s.size ∧ k = .int .i64 n ∧ c = .int .i64 (crcL (s.data.toList.take n) : Nat)) (fun _ k => s.size - (intOf k).toNat)
  case atStart => exact ⟨0, Nat.zero_le _, rfl, rfl⟩
  case round =>
    obtain ⟨n, hn, rfl, rfl⟩ := hrel
    have hlt4 := crcL_lt (s.data.toList.take n)
    by_cases hlt : n < s.size
    · have hi : (n : Int) < (s.size : Int) := by omega
      have hi0 : (0 : Int) ≤ (n : Int) := by omega
      have htk : s.data.toList.take (n + 1) = s.data.toList.take n ++ [s[n]] := by
        rw [List.take_succ_eq_append_getElem (by simpa using hlt)]; rfl
      have HN : Hid (crcL (s.data.toList.take (n + 1)) = crcI 8 (crcL (s.data.toList.take n) ^^^ s[n].toNat)) := by
        show _ = _
        rw [htk, crcL_snoc]
        rfl
      clear htk
      generalize crcL (s.data.toList.take n) = C at hlt4 HN ⊢
      have hb256 := s[n].toNat_lt
      have hx0 : bits .xor .i64 (C : Int) (s[n].toNat : Int) = ((C ^^^ s[n].toNat : Nat) : Int) := i64_xor_nat C s[n].toNat hlt4 (by omega)
      have hD : C ^^^ s[n].toNat < 4294967296 := Nat.xor_lt_two_pow (n := 32) hlt4 (by omega)
      have hw0 : IntKind.i64.wrap (s[n].toNat : Int) = (s[n].toNat : Int) := IntWalk.i64_in _ (by omega)
      generalize hDe : C ^^^ s[n].toNat = D at hx0 hD HN
      clear hDe
      go_wp2
      go_loop [3, 5] (fun c j => ∃ m : Nat, m ≤ 8 ∧ j = .int .i64 m ∧ c = .int .i64 (crcI m D : Nat)) (fun _ j => 8 - (intOf j).toNat)
      case atStart => exact ⟨0, by omega, rfl, rfl⟩
      case round =>
        obtain ⟨m, hm, rfl, rfl⟩ := hrel
        by_cases hmlt : m < 8
        · have hmi : (m : Int) < 8 := by omega
          have hcl := crcI_lt m hD
          have HS := crcI_succ m D
          generalize crcI m D = c at hcl HS ⊢
          have HS' : Hid (crcI (m + 1) D = crcF c) := HS
          clear HS
          have htd : (c : Int).tdiv 2 = ((c / 2 : Nat) : Int) := by rw [Int.tdiv_eq_ediv_of_nonneg (by omega)]; omega
          have htm : (c : Int).tmod 2 = ((c % 2 : Nat) : Int) := by rw [Int.tmod_eq_emod_of_nonneg (by omega)]; omega
          by_cases hpar : c % 2 = 1
          · rw [hpar] at htm
            have hx : bits .xor .i64 ((c / 2 : Nat) : Int) 3988292384 = ((c / 2 ^^^ 3988292384 : Nat) : Int) := by
              have := i64_xor_nat (c / 2) 3988292384 (by omega) (by decide)
              simpa using this
            have hw2 : wrap64 ((c / 2 : Nat) : Int) = ((c / 2 : Nat) : Int) := IntWalk.wrap64_in _ (by omega)
            generalize hc2 : c / 2 = c2 at htd hx hw2
            have HC2 : Hid (c / 2 = c2) := hc2
            clear hc2
            go_wp2
            go_round
            case rel => exact ⟨m + 1, by omega, by go_num, by rw [HS'.out]; unfold crcF; rw [if_pos hpar, HC2.out]⟩
            case measure => simp [intOf]; omega
          · rw [show c % 2 = 0 by omega] at htm
            have hw2 : wrap64 ((c / 2 : Nat) : Int) = ((c / 2 : Nat) : Int) := IntWalk.wrap64_in _ (by omega)
            generalize hc2 : c / 2 = c2 at htd hw2
            have HC2 : Hid (c / 2 = c2) := hc2
            clear hc2
            go_wp2
            go_round
            case rel => exact ⟨m + 1, by omega, by go_num, by rw [HS'.out]; unfold crcF; rw [if_neg hpar, HC2.out] <;> (first | rw [hw2] | simp [hw2])⟩
            case measure => simp [intOf]; omega
        · obtain rfl : m = 8 := by omega
          rw [← HN.out]
          go_wp2
          go_round
          case rel => exact ⟨n + 1, by omega, by go_num, rfl⟩
          case measure => simp [intOf]; omega
    · obtain rfl : n = s.size := by omega
      have hta : s.data.toList.take s.size = s.data.toList := List.take_of_length_le (by rw [size_list]; exact Nat.le_refl _)
      rw [hta] at hlt4 ⊢
      have hx : bits .xor .i64 (crcL s.data.toList : Int) 4294967295 = ((sumL s.data.toList : Nat) : Int) := i64_xor_nat _ _ hlt4 (by decide)
      clear hta
      go_wp2
      go_ret
      exact ⟨rfl, rfl⟩
end Go.Proofs.YtpiagofhgalklacGreatDoor
