/-
  The contracts of data.Sum and of the document's own SumOf: a text's sum.
  The contract of the document's own SumOf.
  Plain mathematics of the document's own NumberOf: a number is its own numeral, read digit by digit.
  The contracts of the document's own functions on rows: IsName, IsFar, RowError, IsLess, InInts.
  The contracts of the document's own IsLess, DropRows and WithinRows.
-/
import Derived.Test.YtoobgeekmaeccaaGreatDoorCrcPure
import Derived.Test.YtoobgeekmaeccaaGreatDoorRowRead
import Derived.Laws.BitsAll
import Derived.Laws.BitsAllLaws
import Derived.Laws.Rows
import Derived.Laws.CopyRow
import Derived.Laws.Tables
import Derived.Laws.Bits128
import Derived.Test.YtoobgeekmaeccaaGreatDoorTextPure
import Derived.Test.YtoobgeekmaeccaaGreatDoorAppendSrc
namespace Go.Proofs.YtoobgeekmaeccaaGreatDoor
open Go.RowKit Go.Extern.Stop Go.Stop Go.Extern Go.Sort Go.Shelf Go.Lib

def tabA (n : Nat) : Array Value := (Array.range 256).map fun i => .int .u32 (if i < n then (crcF8 i : Int) else 0)

theorem tabA_size (n : Nat) : (tabA n).size = 256 := by simp [tabA]
theorem tabA_at (n i : Nat) (h : i < 256) : (tabA n)[i]? = some (.int .u32 (if i < n then (crcF8 i : Int) else 0)) := by
  simp [tabA, h]
theorem tabA_set (n : Nat) (h : n < 256) : (tabA n).setIfInBounds n (.int .u32 (crcF8 n : Int)) = tabA (n + 1) := by
  apply Array.ext_getElem?
  intro i
  rw [Array.getElem?_setIfInBounds]
  by_cases hi : i < 256
  · rw [tabA_at _ _ hi, tabA_at _ _ hi, tabA_size]
    by_cases e : n = i
    · subst e; simp [h]
    · rw [if_neg e]
      by_cases h2 : i < n
      · rw [if_pos h2, if_pos (by omega)]
      · rw [if_neg h2, if_neg (by omega)]
  · have h1 : ∀ k, (tabA k)[i]? = none := fun k => Array.getElem?_eq_none (by rw [tabA_size]; omega)
    rw [h1, h1, tabA_size]
    by_cases e : n = i
    · subst e; omega
    · rw [if_neg e]
theorem tabA_zero : tabA 0 = Array.replicate 256 (.int .u32 0) := by
  apply Array.ext_getElem?
  intro i
  by_cases hi : i < 256
  · rw [tabA_at _ _ hi]; simp [hi]
  · rw [Array.getElem?_eq_none (by rw [tabA_size]; omega), Array.getElem?_eq_none (by simp; omega)]

def crcI (j : Nat) (x : Nat) : Nat := Nat.repeat crcF j x
theorem crcI_succ (j x : Nat) : crcI (j + 1) x = crcF (crcI j x) := rfl
theorem crcI_lt (j : Nat) {x : Nat} (h : x < 4294967296) : crcI j x < 4294967296 := by
  induction j with
  | zero => exact h
  | succ j ih => rw [crcI_succ]; exact crcF_lt ih
theorem crcI_eight (x : Nat) : crcI 8 x = crcF8 x := rfl

theorem Tryz.zeroTab : Tryz.zeroCells237 = tabA 0 := by rw [tabA_zero]; kernel_rfl
theorem Tryz.sizeTab : (Tryz.prog.info? 237).map (·.size) = some 256 := by kernel_rfl

theorem tabA_all (n : Nat) : (tabA n).all (·.oneCell') = true := by
  rw [Array.all_eq_true]
  intro i hi
  have h := tabA_at n i (by rw [tabA_size] at hi; exact hi)
  rw [Array.getElem?_eq_getElem hi] at h
  rw [Option.some.inj h]
  rfl

theorem below_setRow {B : Nat} {a w : World} (h : Below B a w) (g : Nat) (hg : B ≤ g) (cs : Array Value) : Below B a (w.setRow g cs) := by
  refine ⟨h.os, h.tape, h.output, by rw [size_setRow]; exact h.size, fun k hk => ?_⟩
  have e : (w.setRow g cs).heap[k]? = w.heap[k]? := by
    unfold World.setRow
    simp only [Array.getElem?_modify]
    rw [if_neg (by omega)]
  rw [e]
  exact h.block k hk

set_option maxRecDepth 100000 in
set_option maxHeartbeats 2000000 in
theorem byteSums_any (w : World) : Calls Tryz.prog 168 #[] w fun e w' => e = .returned (.agg (tabA 256)) ∧ Below w.heap.size w w' := by
  have hz := Tryz.zeroTab
  have hal : Below w.heap.size w ((w.alloc (.cells (tabA 0) 237)).alloc (.cells (tabA 0) 237)) := ((Below.refl _ _).alloc (Nat.le_refl _) _).alloc (by simp) _
  have hA := heap_alloc2_old w (.cells (tabA 0) 237) (.cells (tabA 0) 237)
  have hB := heap_alloc2_new w (.cells (tabA 0) 237) (.cells (tabA 0) 237)
  go_enter Tryz.func168, Tryz.ntmps168
  go_wp2
  clear hz
  go_loopw [5] (fun k wr => ∃ n : Nat, n ≤ 256 ∧ k = .int .i64 n ∧ Below w.heap.size w wr ∧ wr.heap[w.heap.size]? = some (.cells (tabA 0) 237 (0, 0)) ∧ wr.heap[w.heap.size + 1]? = some (.cells (tabA n) 237 (0, 0))) (fun k _ => 256 - (intOf k).toNat)
  case atStart => exact ⟨0, by omega, rfl, hal, hA, hB⟩
  case round =>
    clear hA hB hal
    obtain ⟨n, hn, rfl, hb, h0, h1⟩ := hrel
    have H0 : Hid (wr.heap[w.heap.size]? = some (.cells (tabA 0) 237 (0, 0))) := h0
    have H1 : Hid (wr.heap[w.heap.size + 1]? = some (.cells (tabA n) 237 (0, 0))) := h1
    clear h0 h1
    by_cases hlt : n < 256
    · have hi : (n : Int) < 256 := by omega
      have hi0 : (0 : Int) ≤ (n : Int) := by omega
      have hcell : wr.cell? ⟨w.heap.size + 1, n, none⟩ = some (.int .u32 0) := by rw [cell_of_row _ _ _ _ _ _ H1.out, tabA_at _ _ hlt, if_neg (by omega)]
      have hfz : wr.frozen? ⟨w.heap.size + 1, n, none⟩ = false := frozen_of_row _ _ _ _ _ H1.out
      have hw0 : IntKind.u32.wrap (n : Int) = (n : Int) := by rw [IntKind.wrap_u32']; omega
      go_wp2
      go_loop [3, 10] (fun s j => ∃ m : Nat, m ≤ 8 ∧ j = .int .i64 m ∧ s = .int .u32 (crcI m n : Nat)) (fun _ j => 8 - (intOf j).toNat)
      case atStart => exact ⟨0, by omega, rfl, rfl⟩
      case round =>
        obtain ⟨m, hm, rfl, rfl⟩ := hrel
        by_cases hmlt : m < 8
        · have hmi : (m : Int) < 8 := by omega
          have hcl := crcI_lt m (x := n) (by omega)
          have HS := crcI_succ m n
          generalize crcI m n = c at hcl HS ⊢
          have HS' : Hid (crcI (m + 1) n = crcF c) := HS
          clear HS
          have hand : bits .and .u32 (c : Int) 1 = ((c % 2 : Nat) : Int) := by
            have := u32_and_nat c 1 hcl (by decide)
            rw [nat_mask1] at this
            exact this
          by_cases hpar : c % 2 = 1
          · have hbit : (bits .and .u32 (c : Int) 1 == 1) = true := by rw [hand, hpar]; rfl
            have hx : bits .xor .u32 ((c : Int) / 2) 3988292384 = ((c / 2 ^^^ 3988292384 : Nat) : Int) := by
              have := u32_xor_nat (c / 2) 3988292384 (by omega) (by decide)
              simpa using this
            clear hand
            go_wp2
            go_round
            case rel => exact ⟨m + 1, by omega, by go_num, by rw [HS'.out]; unfold crcF; rw [if_pos hpar]⟩
            case measure => simp [intOf]; omega
          · have hbit : (bits .and .u32 (c : Int) 1 == 1) = false := by rw [hand, show c % 2 = 0 by omega]; rfl
            clear hand
            go_wp2
            go_round
            case rel => exact ⟨m + 1, by omega, by go_num, by rw [HS'.out]; unfold crcF; rw [if_neg hpar]; simp⟩
            case measure => simp [intOf]; omega
        · obtain rfl : m = 8 := by omega
          rw [crcI_eight]
          have hset := heap_setCell_same wr (w.heap.size + 1) n (tabA n) 237 (.int .u32 (crcF8 n : Nat)) H1.out
          have hsame := heap_setCell_other wr ⟨w.heap.size + 1, n, none⟩ w.heap.size (.int .u32 (crcF8 n : Nat)) (by simp)
          have HSET : Hid ((wr.setCell ⟨w.heap.size + 1, n, none⟩ (.int .u32 (crcF8 n : Nat))).heap[w.heap.size + 1]? = some (.cells (tabA (n + 1)) 237 (0, 0))) := by
            show _ = _
            rw [hset, tabA_set n hlt]
          have HSAME : Hid ((wr.setCell ⟨w.heap.size + 1, n, none⟩ (.int .u32 (crcF8 n : Nat))).heap[w.heap.size]? = some (.cells (tabA 0) 237 (0, 0))) := by
            show _ = _
            rw [hsame]; exact H0.out
          have hbS : Below w.heap.size w (wr.setCell ⟨w.heap.size + 1, n, none⟩ (.int .u32 (crcF8 n : Nat))) := hb.setCell (by simp) _
          clear hset hsame
          go_wp2
          go_roundw
          case rel => exact ⟨n + 1, by omega, by go_num, hbS, HSAME.out, HSET.out⟩
          case measure => simp [intOf]; omega
    · obtain rfl : n = 256 := by omega
      go_wp2_with (first
        | (refine wpList_load_row rfl 237 _ rfl (w.heap.size + 1) rfl 237 (tabA 256) (0, 0) _ H1.out Tryz.underlying237 rfl (by rw [tabA_size]; exact Tryz.sizeTab) ?_)
        | (refine wpList_store_row rfl 237 _ _ rfl w.heap.size (tabA 256) rfl rfl 237 (tabA 0) H0.out (by rw [tabA_size]; exact Tryz.sizeTab) (by rw [tabA_size, tabA_size]) (tabA_all _) ?_))
      refine bodyPost_ret (results_cell_row rfl _ _ w.heap.size 237 (tabA 256) (0, 0) _ rfl (setRow_heap wr w.heap.size (tabA 0) _ _ _ H0.out) Tryz.underlying237 rfl (by rw [tabA_size]; exact Tryz.sizeTab)) rfl ⟨rfl, ?_⟩
      exact below_setRow hb _ (Nat.le_refl _) _

set_option maxRecDepth 100000 in
set_option maxHeartbeats 2000000 in
theorem sum_any (s : ByteArray) (w : World) (hs : s.size ≤ maxLen) : Calls Tryz.prog 117 #[.string s] w fun e w' => e = .returned (.int .u32 (sumL s.data.toList : Nat)) ∧ Below w.heap.size w w' := by
  unfold maxLen at hs
  have hz := Tryz.zeroTab
  have hbs := byteSums_any w
  go_enter Tryz.func117, Tryz.ntmps117
  go_wp2_with fail
  refine hbs.mono ?_
  rintro e w1 ⟨rfl, hb1⟩
  clear hbs
  have hA := heap_alloc_new w1 (.cells (tabA 0) 237)
  have hbA : Below w.heap.size w (w1.alloc (.cells (tabA 0) 237)) := hb1.alloc hb1.size _
  go_wp2_with (refine wpList_store_row rfl 237 _ _ rfl w1.heap.size (tabA 256) rfl rfl 237 (tabA 0) hA (by rw [tabA_size]; exact Tryz.sizeTab) (by rw [tabA_size, tabA_size]) (tabA_all _) ?_)
  clear hz
  have hS := setRow_heap (w1.alloc (.cells (tabA 0) 237)) w1.heap.size (tabA 0) (tabA 256) _ _ hA
  have hbS : Below w.heap.size w ((w1.alloc (.cells (tabA 0) 237)).setRow w1.heap.size (tabA 256)) := below_setRow hbA _ hb1.size _
  generalize w1.heap.size = g at hS hbS ⊢
  generalize (w1.alloc (.cells (tabA 0) 237)).setRow g (tabA 256) = W2 at hS hbS ⊢
  have HC : Hid (∀ i, i < 256 → W2.cell? ⟨g, i, none⟩ = some (.int .u32 (crcF8 i : Nat))) := fun i hi => by
    rw [cell_of_row _ _ _ _ _ _ hS, tabA_at _ _ hi, if_pos hi]
  clear hA hbA hS
  go_loop [4, 5] (fun c k => ∃ n : Nat, n ≤ s.size ∧ k = .int .i64 n ∧ c = .int .u32 (crcL (s.data.toList.take n) : Nat)) (fun _ k => s.size - (intOf k).toNat)
  case atStart => exact ⟨0, Nat.zero_le _, rfl, rfl⟩
  case round =>
    obtain ⟨n, hn, rfl, rfl⟩ := hrel
    have hlt4 := crcL_lt (s.data.toList.take n)
    by_cases hlt : n < s.size
    · have hi : (n : Int) < (s.size : Int) := by omega
      have hi0 : (0 : Int) ≤ (n : Int) := by omega
      have htk : s.data.toList.take (n + 1) = s.data.toList.take n ++ [s[n]] := by
        rw [List.take_succ_eq_append_getElem (by simpa using hlt)]; rfl
      have HN : Hid (crcL (s.data.toList.take (n + 1)) = crcB (crcL (s.data.toList.take n)) s[n]) := by
        show _ = _
        rw [htk, crcL_snoc]
      clear htk
      have HT := crcB_table (crcL (s.data.toList.take n)) s[n]
      generalize crcL (s.data.toList.take n) = C at hlt4 HN HT ⊢
      have hb256 := s[n].toNat_lt
      obtain ⟨I, hI⟩ : ∃ I, (C ^^^ s[n].toNat) % 256 = I := ⟨_, rfl⟩
      have hI256 : I < 256 := by omega
      have hidx : bits .xor .u8 ((C : Int) % 256) (s[n].toNat : Int) = (I : Int) := by
        have h1 := u8_xor_nat (C % 256) s[n].toNat (by omega) (by omega)
        have h2 := Nat.xor_mod_two_pow (a := C) (b := s[n].toNat) (n := 8)
        rw [show (2 : Nat) ^ 8 = 256 from rfl, Nat.mod_eq_of_lt (a := s[n].toNat) (by omega)] at h2
        rw [← h2, hI] at h1
        simpa using h1
      have hcell := HC.out I hI256
      have hFl := crcF8_lt (x := I) (by omega)
      have hx : bits .xor .u32 (crcF8 I : Int) ((C : Int) / 256) = ((crcF8 I ^^^ C / 256 : Nat) : Int) := by
        have := u32_xor_nat (crcF8 I) (C / 256) hFl (by omega)
        simpa using this
      rw [hI] at HT
      have HT' : Hid (crcB C s[n] = crcF8 I ^^^ C / 256) := HT
      clear HT hI hFl
      generalize crcF8 I = FI at hcell hx HT'
      have hI1 : (I : Int) < 256 := by omega
      have hI0 : (0 : Int) ≤ (I : Int) := by omega
      go_wp2
      go_round
      case rel => exact ⟨n + 1, by omega, by go_num, by rw [HN.out, HT'.out]⟩
      case measure => simp [intOf]; omega
    · obtain rfl : n = s.size := by omega
      have hta : s.data.toList.take s.size = s.data.toList := List.take_of_length_le (by rw [size_list]; exact Nat.le_refl _)
      rw [hta] at hlt4 ⊢
      have hx : bits .xor .u32 IntKind.u32.max (crcL s.data.toList : Int) = ((sumL s.data.toList : Nat) : Int) := by
        have e : IntKind.u32.max = 4294967295 := by decide
        rw [e]
        have := u32_xor_nat 4294967295 (crcL s.data.toList) (by decide) hlt4
        unfold sumL
        rw [Nat.xor_comm]
        exact this
      clear hta
      go_wp2
      go_ret
      exact ⟨rfl, hbS⟩
end Go.Proofs.YtoobgeekmaeccaaGreatDoor
namespace Go.Proofs.YtoobgeekmaeccaaGreatDoor
open Go.RowKit Go.Extern.Stop Go.Stop Go.Extern Go.Sort Go.Shelf Go.Lib

theorem i64_xor_nat (a b : Nat) (ha : a < 4294967296) (hb : b < 4294967296) : bits .xor .i64 (a : Int) (b : Int) = ((a ^^^ b : Nat) : Int) := by
  have hx : a ^^^ b < 2 ^ 32 := Nat.xor_lt_two_pow (by omega) (by omega)
  have h1 : (BitVec.ofInt 64 (a : Int)).toNat = a := by
    rw [BitVec.ofInt_natCast, BitVec.toNat_ofNat]; exact Nat.mod_eq_of_lt (by omega)
  have h2 : (BitVec.ofInt 64 (b : Int)).toNat = b := by
    rw [BitVec.ofInt_natCast, BitVec.toNat_ofNat]; exact Nat.mod_eq_of_lt (by omega)
  show IntKind.i64.wrap ((BitVec.ofInt 64 (a : Int) ^^^ BitVec.ofInt 64 (b : Int)).toNat : Int) = _
  rw [BitVec.toNat_xor, h1, h2]
  exact IntWalk.i64_in _ (by omega)

set_option maxRecDepth 100000 in
set_option maxHeartbeats 2000000 in
theorem sumOf_any (s : ByteArray) (w : World) (hs : s.size ≤ maxLen) : Calls Tryz.prog 132 #[.string s] w fun e w' => e = .returned (.int .i64 (sumL s.data.toList : Nat)) ∧ w' = w := by
  unfold maxLen at hs
  go_enter Tryz.func132, Tryz.ntmps132
  go_wp2
  go_loop [3, 4] (fun c k => ∃ n : Nat, n ≤ s.size ∧ k = .int .i64 n ∧ c = .int .i64 (crcL (s.data.toList.take n) : Nat)) (fun _ k => s.size - (intOf k).toNat)
  case atStart => exact ⟨0, Nat.zero_le _, rfl, rfl⟩
  case round =>
    obtain ⟨n, hn, rfl, rfl⟩ := hrel
    have hlt4 := crcL_lt (s.data.toList.take n)
    by_cases hlt : n < s.size
    · have hi : (n : Int) < (s.size : Int) := by omega
      have hi0 : (0 : Int) ≤ (n : Int) := by omega
      have htk : s.data.toList.take (n + 1) = s.data.toList.take n ++ [s[n]] := by
        rw [List.take_succ_eq_append_getElem (by simpa using hlt)]; rfl
      have HN : Hid (crcL (s.data.toList.take (n + 1)) = crcI 8 (crcL (s.data.toList.take n) ^^^ s[n].toNat)) := by
        show _ = _
        rw [htk, crcL_snoc]
        rfl
      clear htk
      generalize crcL (s.data.toList.take n) = C at hlt4 HN ⊢
      have hb256 := s[n].toNat_lt
      have hx0 : bits .xor .i64 (C : Int) (s[n].toNat : Int) = ((C ^^^ s[n].toNat : Nat) : Int) := i64_xor_nat C s[n].toNat hlt4 (by omega)
      have hD : C ^^^ s[n].toNat < 4294967296 := Nat.xor_lt_two_pow (n := 32) hlt4 (by omega)
      have hw0 : IntKind.i64.wrap (s[n].toNat : Int) = (s[n].toNat : Int) := IntWalk.i64_in _ (by omega)
      generalize hDe : C ^^^ s[n].toNat = D at hx0 hD HN
      clear hDe
      go_wp2
      go_loop [3, 5] (fun c j => ∃ m : Nat, m ≤ 8 ∧ j = .int .i64 m ∧ c = .int .i64 (crcI m D : Nat)) (fun _ j => 8 - (intOf j).toNat)
      case atStart => exact ⟨0, by omega, rfl, rfl⟩
      case round =>
        obtain ⟨m, hm, rfl, rfl⟩ := hrel
        by_cases hmlt : m < 8
        · have hmi : (m : Int) < 8 := by omega
          have hcl := crcI_lt m hD
          have HS := crcI_succ m D
          generalize crcI m D = c at hcl HS ⊢
          have HS' : Hid (crcI (m + 1) D = crcF c) := HS
          clear HS
          have htd : (c : Int).tdiv 2 = ((c / 2 : Nat) : Int) := by rw [Int.tdiv_eq_ediv_of_nonneg (by omega)]; omega
          have htm : (c : Int).tmod 2 = ((c % 2 : Nat) : Int) := by rw [Int.tmod_eq_emod_of_nonneg (by omega)]; omega
          by_cases hpar : c % 2 = 1
          · rw [hpar] at htm
            have hx : bits .xor .i64 ((c / 2 : Nat) : Int) 3988292384 = ((c / 2 ^^^ 3988292384 : Nat) : Int) := by
              have := i64_xor_nat (c / 2) 3988292384 (by omega) (by decide)
              simpa using this
            have hw2 : wrap64 ((c / 2 : Nat) : Int) = ((c / 2 : Nat) : Int) := IntWalk.wrap64_in _ (by omega)
            generalize hc2 : c / 2 = c2 at htd hx hw2
            have HC2 : Hid (c / 2 = c2) := hc2
            clear hc2
            go_wp2
            go_round
            case rel => exact ⟨m + 1, by omega, by go_num, by rw [HS'.out]; unfold crcF; rw [if_pos hpar, HC2.out]⟩
            case measure => simp [intOf]; omega
          · rw [show c % 2 = 0 by omega] at htm
            have hw2 : wrap64 ((c / 2 : Nat) : Int) = ((c / 2 : Nat) : Int) := IntWalk.wrap64_in _ (by omega)
            generalize hc2 : c / 2 = c2 at htd hw2
            have HC2 : Hid (c / 2 = c2) := hc2
            clear hc2
            go_wp2
            go_round
            case rel => exact ⟨m + 1, by omega, by go_num, by rw [HS'.out]; unfold crcF; rw [if_neg hpar, HC2.out] <;> (first | rw [hw2] | simp [hw2])⟩
            case measure => simp [intOf]; omega
        · obtain rfl : m = 8 := by omega
          rw [← HN.out]
          go_wp2
          go_round
          case rel => exact ⟨n + 1, by omega, by go_num, rfl⟩
          case measure => simp [intOf]; omega
    · obtain rfl : n = s.size := by omega
      have hta : s.data.toList.take s.size = s.data.toList := List.take_of_length_le (by rw [size_list]; exact Nat.le_refl _)
      rw [hta] at hlt4 ⊢
      have hx : bits .xor .i64 (crcL s.data.toList : Int) 4294967295 = ((sumL s.data.toList : Nat) : Int) := i64_xor_nat _ _ hlt4 (by decide)
      clear hta
      go_wp2
      go_ret
      exact ⟨rfl, rfl⟩
end Go.Proofs.YtoobgeekmaeccaaGreatDoor
namespace Go.Proofs.YtoobgeekmaeccaaGreatDoor
open Go Go.Lib

theorem digitVal_is {c : UInt8} {d : Nat} (h : digitVal c = some d) : d < 10 ∧ c = UInt8.ofNat (48 + d) := by
  unfold digitVal at h
  split at h
  · rename_i hc
    have e := Option.some.inj h
    refine ⟨by omega, ?_⟩
    apply UInt8.toNat_inj.1
    rw [UInt8.toNat_ofNat']
    omega
  · cases h

theorem digits_zero : decDigits 0 = [48] := by rw [decDigits, dif_pos (by omega)]; rfl

theorem head_append {l r : List UInt8} (h : l ≠ []) : (l ++ r).head? = l.head? := by
  cases l with
  | nil => exact absurd rfl h
  | cons a l => rfl

theorem digits_head (u : Nat) (h : 1 ≤ u) : (decDigits u).head? ≠ some 48 := by
  induction u using Nat.strongRecOn with
  | _ u ih =>
    rw [decDigits]
    by_cases h' : u < 10
    · rw [dif_pos h']
      intro e
      simp only [List.head?_cons, Option.some.injEq] at e
      have := congrArg UInt8.toNat e
      rw [UInt8.toNat_ofNat'] at this
      simp at this
      omega
    · rw [dif_neg h', head_append (digits_ne _)]
      exact ih (u / 10) (by omega) (by omega)

theorem digits_of : ∀ (k : Nat) (l : List UInt8) (m : Nat), l.length = k → l ≠ [] → (l.head? = some 48 → l.length = 1) → decFrom 0 l = some m → decDigits m = l := by
  intro k
  induction k with
  | zero => intro l m hl hne; exact absurd (List.length_eq_zero_iff.1 hl) hne
  | succ k ih =>
    intro l m hl hne hz h
    obtain ⟨r, c, rfl⟩ : ∃ r c, l = r ++ [c] := ⟨l.dropLast, l.getLast hne, (List.dropLast_concat_getLast hne).symm⟩
    rw [decFrom_append] at h
    by_cases hr : r = []
    · subst hr
      simp only [decFrom, Option.bind_some] at h
      cases hd : digitVal c with
      | none => rw [hd] at h; cases h
      | some d =>
        rw [hd] at h
        obtain ⟨h1, rfl⟩ := digitVal_is hd
        simp at h
        subst h
        rw [decDigits, dif_pos h1]
        rfl
    · cases hm : decFrom 0 r with
      | none => rw [hm] at h; cases h
      | some q =>
        rw [hm] at h
        simp only [Option.bind_some, decFrom] at h
        have hrl : r.length = k := by simp at hl; omega
        have hr1 : 1 ≤ r.length := List.length_pos_iff.2 hr
        rw [head_append hr] at hz
        have hz' : r.head? ≠ some 48 := fun e => by have := hz e; rw [List.length_append, List.length_singleton] at this; omega
        have hq := ih r q hrl hr (fun e => absurd e hz') hm
        have hq1 : 1 ≤ q := by
          rcases Nat.eq_zero_or_pos q with e | e
          · subst e; rw [digits_zero] at hq; rw [← hq] at hz'; exact absurd rfl hz'
          · exact e
        cases hd : digitVal c with
        | none => rw [hd] at h; cases h
        | some d =>
          rw [hd] at h
          obtain ⟨h1, rfl⟩ := digitVal_is hd
          have h := Option.some.inj h
          subst h
          rw [decDigits, dif_neg (by omega), show (q * 10 + d) / 10 = q by omega, show (q * 10 + d) % 10 = d by omega, hq]

def digsOf (s : List UInt8) : List UInt8 := if s.head? = some 45 then s.tail else s

def numP (s : List UInt8) : Option Int :=
  if (digsOf s).length < 1 ∨ 11 < s.length then none
  else if (digsOf s).head? = some 48 ∧ 1 < s.length then none
  else (decFrom 0 (digsOf s)).map fun (m : Nat) => if (digsOf s).length < s.length then -(m : Int) else (m : Int)

theorem numP_is (s : List UInt8) : numP s = numO s := by
  unfold numP numO
  by_cases hl : s.length ≤ 11
  · rw [if_pos hl]
    cases s with
    | nil => simp [digsOf, atoi]
    | cons b r =>
      by_cases hb : b = 45
      · subst hb
        have hd : digsOf (45 :: r) = r := by simp [digsOf]
        rw [hd]
        have ha : atoi (45 :: r) = (decNat r).map fun (m : Nat) => -(m : Int) := by simp [atoi]
        rw [ha]
        unfold decNat
        by_cases hr : r = []
        · subst hr; simp
        · have hr1 : 1 ≤ r.length := List.length_pos_iff.2 hr
          rw [if_neg (show ¬ (r.length < 1 ∨ 11 < (45 :: r).length) by omega), if_neg (show ¬ r.isEmpty = true by simp [hr])]
          cases hm : decFrom 0 r with
          | none => simp
          | some m =>
            simp only [Option.map_some]
            by_cases hz : r.head? = some 48
            · rw [if_pos ⟨hz, by simp; omega⟩]
              rw [if_neg]
              intro e
              unfold itoa at e
              by_cases hm0 : -(m : Int) < 0
              · rw [if_pos hm0] at e
                have e2 := (List.cons.inj e).2
                rw [show (-(m : Int)).natAbs = m by omega] at e2
                exact digits_head m (by omega) (by rw [e2]; exact hz)
              · rw [if_neg hm0] at e
                have := digits_are (-(m : Int)).toNat 45 (by rw [e]; exact List.mem_cons_self)
                simp at this
            · rw [if_neg (fun h => hz h.1)]
              have hq := digits_of _ r m rfl hr (fun e => absurd e hz) hm
              have hm1 : 1 ≤ m := by
                rcases Nat.eq_zero_or_pos m with e | e
                · subst e; rw [digits_zero] at hq; rw [← hq] at hz; exact absurd rfl hz
                · exact e
              rw [if_pos (by simp)]
              rw [if_pos]
              unfold itoa
              rw [if_pos (by omega), show (-(m : Int)).natAbs = m by omega, hq]
      · have hd : digsOf (b :: r) = b :: r := by simp [digsOf, hb]
        rw [hd]
        by_cases hp : b = 43
        · subst hp
          have ha : atoi (43 :: r) = (decNat r).map fun (m : Nat) => (m : Int) := by simp [atoi]
          rw [ha]
          have hf : decFrom 0 (43 :: r) = none := by
            unfold decFrom
            have : digitVal 43 = none := by decide
            rw [this]
          rw [hf]
          cases hm : decNat r with
          | none => simp
          | some m =>
            simp only [Option.map_some]
            have : ¬ itoa (m : Int) = 43 :: r := by
              intro e
              unfold itoa at e
              rw [if_neg (by omega)] at e
              have := digits_are (m : Int).toNat 43 (by rw [e]; exact List.mem_cons_self)
              simp at this
            rw [if_neg this]
            simp
        · have ha : atoi (b :: r) = (decNat (b :: r)).map fun (m : Nat) => (m : Int) := by simp [atoi, hb, hp]
          rw [ha]
          have hdn : decNat (b :: r) = decFrom 0 (b :: r) := by simp [decNat]
          rw [hdn, if_neg (by simp; simpa using hl)]
          cases hm : decFrom 0 (b :: r) with
          | none => simp
          | some m =>
            simp only [Option.map_some]
            have hi : itoa (m : Int) = decDigits m := by
              unfold itoa
              rw [if_neg (by omega)]
              rfl
            rw [hi]
            by_cases hz : (b :: r).head? = some 48 ∧ 1 < (b :: r).length
            · rw [if_pos hz, if_neg]
              intro e
              rcases Nat.eq_zero_or_pos m with e0 | e0
              · subst e0
                rw [digits_zero] at e
                have := hz.2
                rw [← e] at this
                simp at this
              · exact digits_head m e0 (by rw [e]; exact hz.1)
            · rw [if_neg hz]
              have hq := digits_of _ (b :: r) m rfl (by simp) (fun e => by
                have : ¬ 1 < (b :: r).length := fun h => hz ⟨e, h⟩
                simp at this ⊢
                exact this) hm
              rw [if_neg (by omega), if_pos hq]
  · rw [if_neg hl, if_pos (Or.inr (by omega))]
end Go.Proofs.YtoobgeekmaeccaaGreatDoor
namespace Go.Proofs.YtoobgeekmaeccaaGreatDoor
open Go.RowKit Go.Extern.Stop Go.Stop Go.Extern Go.Sort Go.Shelf Go.Lib

theorem isFar_any (n : Int) (w : World) : Calls Tryz.prog 80 #[.int .i64 n] w fun e w' => e = .returned (.bool (!inNum n)) ∧ w' = w := by
  by_cases h1 : n < -1073741824
  · have hr : inNum n = false := by simp [inNum]; omega
    rw [hr]
    go_enter Tryz.func80, Tryz.ntmps80
    go_wp2
    go_ret
    exact ⟨rfl, rfl⟩
  · by_cases h2 : 1073741824 < n
    · have hr : inNum n = false := by simp [inNum]; omega
      rw [hr]
      go_enter Tryz.func80, Tryz.ntmps80
      go_wp2
      go_ret
      exact ⟨rfl, rfl⟩
    · have hr : inNum n = true := by simp [inNum]; omega
      rw [hr]
      go_enter Tryz.func80, Tryz.ntmps80
      go_wp2
      go_ret
      exact ⟨rfl, rfl⟩

set_option maxHeartbeats 2000000 in
theorem isWord_any (s : ByteArray) (m : Nat) (w : World) (hs : s.size ≤ maxLen) : Calls Tryz.prog 131 #[.string s, .int .i64 m] w fun e w' => e = .returned (.bool (wordB m s.data.toList)) ∧ w' = w := by
  unfold maxLen at hs
  have hsz := size_list s
  generalize hr : wordB m s.data.toList = r
  have HR : Hid (wordB m s.data.toList = r) := hr
  have HS : Hid (s.data.toList.length = s.size) := hsz
  clear hr hsz
  go_enter Tryz.func131, Tryz.ntmps131
  go_wp2
  go_loop [5] (fun k => ∃ n : Nat, n ≤ s.size ∧ (∀ j c, j < n → s.data.toList[j]? = some c → nbI c.toNat = true) ∧ k = .int .i64 n) (fun k => s.size - (intOf k).toNat)
  case atStart => exact ⟨0, by omega, by omega, rfl⟩
  case round =>
    obtain ⟨n, hn, ht, rfl⟩ := hrel
    have HT : Hid (∀ j c, j < n → s.data.toList[j]? = some c → nbI c.toNat = true) := ht
    clear ht
    by_cases hlt : n < s.size
    · have hi : (n : Int) < (s.size : Int) := by omega
      have hbl := byte_list s n hlt
      have HB : Hid (s.data.toList[n]? = some s[n]) := hbl
      clear hbl
      have bad : nbI (s[n].toNat : Int) = false → r = false := fun hv => by
        rw [← HR.out]
        simp only [wordB, Bool.and_eq_false_iff]
        right
        rw [List.all_eq_false]
        exact ⟨s[n], List.mem_of_getElem? HB.out, by rw [hv]; simp⟩
      have good : nbI (s[n].toNat : Int) = true → ∀ j c, j < n + 1 → s.data.toList[j]? = some c → nbI c.toNat = true := fun hv => all_succ HT.out hlt hv
      have BAD : Hid (nbI (s[n].toNat : Int) = false → r = false) := bad
      have GOOD : Hid (nbI (s[n].toNat : Int) = true → ∀ j c, j < n + 1 → s.data.toList[j]? = some c → nbI c.toNat = true) := good
      clear bad good
      by_cases h1 : 97 ≤ (s[n].toNat : Int)
      · by_cases h2 : (s[n].toNat : Int) ≤ 122
        · have hv : nbI (s[n].toNat : Int) = true := by unfold nbI; simp only [h1, h2, decide_true, Bool.and_self, Bool.true_or]
          have G : Hid (∀ j c, j < n + 1 → s.data.toList[j]? = some c → nbI c.toNat = true) := GOOD.out hv
          clear hv
          have h3 : (48 : Int) ≤ (s[n].toNat : Int) := by omega
          have h4 : ¬ (s[n].toNat : Int) ≤ 57 := by omega
          go_wp2
          go_round
          case rel => exact ⟨n + 1, by omega, G.out, by go_num⟩
          case measure => simp [intOf]; omega
        · have h3 : (48 : Int) ≤ (s[n].toNat : Int) := by omega
          have h4 : ¬ (s[n].toNat : Int) ≤ 57 := by omega
          have hv : nbI (s[n].toNat : Int) = false := by unfold nbI; simp only [h1, h2, h3, h4, decide_true, decide_false, Bool.and_false, Bool.or_self]
          have hr := BAD.out hv
          subst hr
          clear hv
          go_wp2
          go_ret
          exact ⟨rfl, rfl⟩
      · have h2 : (s[n].toNat : Int) ≤ 122 := by omega
        by_cases h3 : 48 ≤ (s[n].toNat : Int)
        · by_cases h4 : (s[n].toNat : Int) ≤ 57
          · have hv : nbI (s[n].toNat : Int) = true := by unfold nbI; simp only [h1, h3, h4, decide_true, decide_false, Bool.and_self, Bool.false_and, Bool.false_or]
            have G : Hid (∀ j c, j < n + 1 → s.data.toList[j]? = some c → nbI c.toNat = true) := GOOD.out hv
            clear hv
            go_wp2
            go_round
            case rel => exact ⟨n + 1, by omega, G.out, by go_num⟩
            case measure => simp [intOf]; omega
          · have hv : nbI (s[n].toNat : Int) = false := by unfold nbI; simp only [h1, h3, h4, decide_true, decide_false, Bool.and_false, Bool.false_and, Bool.or_self]
            have hr := BAD.out hv
            subst hr
            clear hv
            go_wp2
            go_ret
            exact ⟨rfl, rfl⟩
        · have hv : nbI (s[n].toNat : Int) = false := by unfold nbI; simp only [h1, h3, decide_false, Bool.false_and, Bool.or_self]
          have hr := BAD.out hv
          subst hr
          clear hv
          go_wp2
          go_ret
          exact ⟨rfl, rfl⟩
    · have hall : s.data.toList.all (fun c => nbI c.toNat) = true := by
        rw [List.all_eq_true]
        intro c hc
        obtain ⟨k, hk⟩ := List.mem_iff_getElem?.1 hc
        have hk' : k < s.data.toList.length := by
          rcases Nat.lt_or_ge k s.data.toList.length with h | h
          · exact h
          · rw [List.getElem?_eq_none h] at hk; cases hk
        have := HS.out
        exact HT.out k c (by omega) hk
      have hrr : r = (decide (1 ≤ s.size) && decide (s.size ≤ m)) := by
        rw [← HR.out]
        unfold wordB
        rw [hall, HS.out, Bool.and_true]
      have hn' : n = s.size := by omega
      subst hn'
      clear hall
      by_cases g1 : 1 ≤ s.size
      · by_cases g2 : s.size ≤ m
        · have e : r = true := by rw [hrr]; simp [g1, g2]
          subst e
          clear hrr
          have g3 : decide ((s.size : Int) ≤ (m : Int)) = true := decide_eq_true (by omega)
          have G3 : Hid (decide ((s.size : Int) ≤ (m : Int)) = true) := g3
          clear g3
          go_wp2
          go_ret
          exact ⟨congrArg (fun b => Ending.returned (Value.bool b)) (by first | exact G3.out | (simp <;> omega)), rfl⟩
        · have e : r = false := by rw [hrr]; simp [g2]
          subst e
          clear hrr
          have g3 : decide ((s.size : Int) ≤ (m : Int)) = false := decide_eq_false (by omega)
          have G3 : Hid (decide ((s.size : Int) ≤ (m : Int)) = false) := g3
          clear g3
          go_wp2
          go_ret
          exact ⟨congrArg (fun b => Ending.returned (Value.bool b)) (by first | exact G3.out | (simp <;> omega)), rfl⟩
      · have e : r = false := by rw [hrr]; simp [g1]
        subst e
        clear hrr
        go_wp2
        go_ret
        exact ⟨rfl, rfl⟩

theorem isName_any (s : ByteArray) (w : World) (hs : s.size ≤ maxLen) : Calls Tryz.prog 131 #[.string s, .int .i64 8] w fun e w' => e = .returned (.bool (nameB s.data.toList)) ∧ w' = w :=
  isWord_any s 8 w hs

set_option maxHeartbeats 1000000 in
theorem rowError_any (x : Rw) (w : World) (hs : x.1.size ≤ maxLen) :
    Calls Tryz.prog 75 #[.agg #[.string x.1, .int .i64 x.2.1, .int .i64 x.2.2]] w fun e w' => e = .returned (.int .i64 (rowE x)) ∧ Below w.heap.size w w' := by
  obtain ⟨p, k, v⟩ := x
  dsimp only at hs ⊢
  have hb : Below w.heap.size w (w.alloc (.cells #[.string p, .int .i64 k, .int .i64 v] 54)) := (Below.refl _ _).alloc (Nat.le_refl _) _
  have hn := isName_any p (w.alloc (.cells #[.string p, .int .i64 k, .int .i64 v] 54)) hs
  have hB := fun n W => isFar_any n W
  unfold rowE
  dsimp only
  cases h1 : nameB p.data.toList
  · rw [h1] at hn
    simp only [Bool.false_eq_true, if_false]
    clear h1
    go_enter Tryz.func75, Tryz.ntmps75
    go_wp2_with (go_at_call 131; refine hn.mono ?_; rintro e w' ⟨rfl, rfl⟩)
    go_ret
    exact ⟨rfl, hb⟩
  · rw [h1] at hn
    clear h1
    cases h2 : inNum k <;> cases h3 : inNum v
    all_goals
      simp only [if_true, Bool.false_and, Bool.and_false, Bool.and_self, Bool.false_eq_true, if_false]
      go_enter Tryz.func75, Tryz.ntmps75
      go_wp2_with (first | (go_at_call 131; refine hn.mono ?_; rintro e w' ⟨rfl, rfl⟩) | (go_at_call 80; refine (hB _ _).mono ?_; rintro e w' ⟨rfl, rfl⟩))
      go_ret
      exact ⟨rfl, hb⟩

end Go.Proofs.YtoobgeekmaeccaaGreatDoor
namespace Go.Proofs.YtoobgeekmaeccaaGreatDoor
open Go.RowKit Go.Extern.Stop Go.Stop Go.Extern Go.Sort Go.Shelf Go.Lib

theorem cells_three (wr : World) (xp : ByteArray) (xk xv : Int) (j : Nat) (u : Value) (hj : (encR (xp, xk, xv))[j]? = some u) : (wr.alloc (.cells #[.string xp, .int .i64 xk, .int .i64 xv] 54)).cell? ⟨wr.heap.size, j, none⟩ = some u := by
  match j, hj with
  | 0, hj => simp [encR] at hj; subst hj; simp
  | 1, hj => simp [encR] at hj; subst hj; simp
  | 2, hj => simp [encR] at hj; subst hj; simp
  | j + 3, hj => simp [encR] at hj

theorem bytesLess_cb : ∀ a b : List UInt8, Op.bytesLess a b = decide (Lib.compareBytes a b < 0)
  | [], [] => by simp [Op.bytesLess, Lib.compareBytes]
  | [], _ :: _ => by simp [Op.bytesLess, Lib.compareBytes]
  | _ :: _, [] => by simp [Op.bytesLess, Lib.compareBytes]
  | a :: us, b :: vs => by
    have ih := bytesLess_cb us vs
    unfold Op.bytesLess Lib.compareBytes
    by_cases h1 : a < b
    · simp [h1]
    · by_cases h2 : b < a
      · have h3 : ¬ a = b := fun e => by subst e; exact UInt8.lt_irrefl _ h2
        simp [h1, h2, h3]
      · have h3 : a = b := by
          rw [UInt8.lt_iff_toNat_lt] at h1 h2
          exact UInt8.toNat_inj.1 (by omega)
        subst h3
        simp [ih]

set_option maxHeartbeats 1000000 in
theorem isLess_any (x y : Rw) (w : World) :
    Calls Tryz.prog 105 #[.agg #[.string x.1, .int .i64 x.2.1, .int .i64 x.2.2], .agg #[.string y.1, .int .i64 y.2.1, .int .i64 y.2.2]] w fun e w' => e = .returned (.bool (ltOf cfR x y)) ∧ Below w.heap.size w w' := by
  obtain ⟨xp, xk, xv⟩ := x
  obtain ⟨yp, yk, yv⟩ := y
  dsimp only
  have hb0 : Below w.heap.size w ((w.alloc (.cells #[.string xp, .int .i64 xk, .int .i64 xv] 54)).alloc (.cells #[.string yp, .int .i64 yk, .int .i64 yv] 54)) := ((Below.refl _ _).alloc (Nat.le_refl _) _).alloc (by simp) _
  by_cases hp : xp = yp
  · subst hp
    have hc0 : Lib.compareBytes xp.data.toList xp.data.toList = 0 := cb_self _
    by_cases hk : xk = yk
    · subst hk
      have hr : ltOf cfR (xp, xk, xv) (xp, xk, yv) = decide (xv < yv) := by
        have hci : Lib.compareInt xk xk = 0 := by rcases ci_cases xk xk with ⟨h, _⟩ | ⟨_, h⟩ | ⟨h, _⟩ <;> omega
        unfold ltOf cfR orOf
        dsimp only
        rw [if_pos hc0, if_pos hci]
        rcases ci_cases xv yv with ⟨h, e⟩ | ⟨h, e⟩ | ⟨h, e⟩ <;> rw [e] <;> simp <;> omega
      rw [hr]
      clear hr hc0
      go_enter Tryz.func105, Tryz.ntmps105
      go_wp2
      go_ret
      exact ⟨rfl, hb0⟩
    · have hr : ltOf cfR (xp, xk, xv) (xp, yk, yv) = decide (xk < yk) := by
        unfold ltOf cfR orOf
        dsimp only
        rw [if_pos hc0]
        rcases ci_cases xk yk with ⟨h, e⟩ | ⟨h, e⟩ | ⟨h, e⟩
        · rw [e]; simp; omega
        · exact absurd h hk
        · rw [e]; simp; omega
      rw [hr]
      have hk' : (xk == yk) = false := by simpa using hk
      clear hr hc0 hk
      go_enter Tryz.func105, Tryz.ntmps105
      go_wp2
      go_ret
      exact ⟨rfl, hb0⟩
  · have hne : ¬ Lib.compareBytes xp.data.toList yp.data.toList = 0 := fun e => hp (part_ext (cb_eq _ _ e))
    have hr : ltOf cfR (xp, xk, xv) (yp, yk, yv) = decide (Lib.compareBytes xp.data.toList yp.data.toList < 0) := by
      unfold ltOf cfR orOf
      dsimp only
      rw [if_neg hne]
    rw [hr]
    have hp' : (xp.toList == yp.toList) = false := by
      rw [ByteArray.toList_eq, ByteArray.toList_eq]
      simpa using fun e => hp (part_ext e)
    have hl : Op.bytesLess xp.toList yp.toList = decide (Lib.compareBytes xp.data.toList yp.data.toList < 0) := by
      rw [ByteArray.toList_eq, ByteArray.toList_eq]; exact bytesLess_cb _ _
    have HLS : Hid (Op.bytesLess xp.toList yp.toList = decide (Lib.compareBytes xp.data.toList yp.data.toList < 0)) := hl
    clear hl
    clear hr hne hp
    go_enter Tryz.func105, Tryz.ntmps105
    go_wp2
    go_ret
    exact ⟨congrArg (fun b => Ending.returned (Value.bool b)) HLS.out, hb0⟩

end Go.Proofs.YtoobgeekmaeccaaGreatDoor
