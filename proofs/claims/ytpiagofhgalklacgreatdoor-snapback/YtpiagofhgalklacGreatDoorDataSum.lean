/-
  The contracts of data.Sum and of the document's own SumOf: a text's sum.
-/
import Derived.Test.YtpiagofhgalklacGreatDoorCrcPure
import Derived.Test.YtpiagofhgalklacGreatDoorRowRead
import Derived.Laws.BitsAll
import Derived.Laws.BitsAllLaws
import Derived.Laws.Rows
import Derived.Laws.CopyRow
import Derived.Laws.Tables
namespace Go.Proofs.YtpiagofhgalklacGreatDoor
open Go.RowKit Go.Extern.Stop Go.Stop Go.Extern Go.Sort Go.Shelf Go.Lib

/-- The table, its first n places filled. -/
def tabA (n : Nat) : Array Value := (Array.range 256).map fun i => .int .u32 (if i < n then (crcF8 i : Int) else 0)

theorem tabA_size (n : Nat) : (tabA n).size = 256 := by simp [tabA]
theorem tabA_at (n i : Nat) (h : i < 256) : (tabA n)[i]? = some (.int .u32 (if i < n then (crcF8 i : Int) else 0)) := by
  simp [tabA, h]
theorem tabA_set (n : Nat) (h : n < 256) : (tabA n).setIfInBounds n (.int .u32 (crcF8 n : Int)) = tabA (n + 1) := by
  apply Array.ext_getElem?
  intro i
  rw [Array.getElem?_setIfInBounds]
  by_cases hi : i < 256
  · rw [tabA_at _ _ hi, tabA_at _ _ hi, tabA_size]
    by_cases e : n = i
    · subst e; simp [h]
    · rw [if_neg e]
      by_cases h2 : i < n
      · rw [if_pos h2, if_pos (by omega)]
      · rw [if_neg h2, if_neg (by omega)]
  · have h1 : ∀ k, (tabA k)[i]? = none := fun k => Array.getElem?_eq_none (by rw [tabA_size]; omega)
    rw [h1, h1, tabA_size]
    by_cases e : n = i
    · subst e; omega
    · rw [if_neg e]
theorem tabA_zero : tabA 0 = Array.replicate 256 (.int .u32 0) := by
  apply Array.ext_getElem?
  intro i
  by_cases hi : i < 256
  · rw [tabA_at _ _ hi]; simp [hi]
  · rw [Array.getElem?_eq_none (by rw [tabA_size]; omega), Array.getElem?_eq_none (by simp; omega)]

/-- One bit, as the program spells it. -/
def crcI (j : Nat) (x : Nat) : Nat := Nat.repeat crcF j x
theorem crcI_succ (j x : Nat) : crcI (j + 1) x = crcF (crcI j x) := rfl
theorem crcI_lt (j : Nat) {x : Nat} (h : x < 4294967296) : crcI j x < 4294967296 := by
  induction j with
  | zero => exact h
  | succ j ih => rw [crcI_succ]; exact crcF_lt ih
theorem crcI_eight (x : Nat) : crcI 8 x = crcF8 x := rfl

theorem Tryz.zeroTab : Tryz.zeroCells140 = tabA 0 := by rw [tabA_zero]; kernel_rfl
theorem Tryz.sizeTab : (Tryz.prog.info? 140).map (·.size) = some 256 := by kernel_rfl

theorem tabA_all (n : Nat) : (tabA n).all (·.oneCell') = true := by
  rw [Array.all_eq_true]
  intro i hi
  have h := tabA_at n i (by rw [tabA_size] at hi; exact hi)
  rw [Array.getElem?_eq_getElem hi] at h
  rw [Option.some.inj h]
  rfl

theorem below_setRow {B : Nat} {a w : World} (h : Below B a w) (g : Nat) (hg : B ≤ g) (cs : Array Value) : Below B a (w.setRow g cs) := by
  refine ⟨h.os, h.tape, h.output, by rw [size_setRow]; exact h.size, fun k hk => ?_⟩
  have e : (w.setRow g cs).heap[k]? = w.heap[k]? := by
    unfold World.setRow
    simp only [Array.getElem?_modify]
    rw [if_neg (by omega)]
  rw [e]
  exact h.block k hk

set_option maxRecDepth 100000 in
set_option maxHeartbeats 2000000 in
theorem byteSums_any (w : World) : Calls Tryz.prog 96 #[] w fun e w' => e = .returned (.agg (tabA 256)) ∧ Below w.heap.size w w' := by
  have hz := Tryz.zeroTab
  have hal : Below w.heap.size w ((w.alloc (.cells (tabA 0) 140)).alloc (.cells (tabA 0) 140)) := ((Below.refl _ _).alloc (Nat.le_refl _) _).alloc (by simp) _
  have hA := heap_alloc2_old w (.cells (tabA 0) 140) (.cells (tabA 0) 140)
  have hB := heap_alloc2_new w (.cells (tabA 0) 140) (.cells (tabA 0) 140)
  go_enter Tryz.func96, Tryz.ntmps96
  go_wp2
  clear hz
  go_loopw [5] (fun k wr => ∃ n : Nat, n ≤ 256 ∧ k = .int .i64 n ∧ Below w.heap.size w wr ∧ wr.heap[w.heap.size]? = some (.cells (tabA 0) 140 (0, 0)) ∧ wr.heap[w.heap.size + 1]? = some (.cells (tabA n) 140 (0, 0))) (fun k _ => 256 - (intOf k).toNat)
  case atStart => exact ⟨0, by omega, rfl, hal, hA, hB⟩
  case round =>
    clear hA hB hal
    obtain ⟨n, hn, rfl, hb, h0, h1⟩ := hrel
    have H0 : Hid (wr.heap[w.heap.size]? = some (.cells (tabA 0) 140 (0, 0))) := h0
    have H1 : Hid (wr.heap[w.heap.size + 1]? = some (.cells (tabA n) 140 (0, 0))) := h1
    clear h0 h1
    by_cases hlt : n < 256
    · have hi : (n : Int) < 256 := by omega
      have hi0 : (0 : Int) ≤ (n : Int) := by omega
      have hcell : wr.cell? ⟨w.heap.size + 1, n, none⟩ = some (.int .u32 0) := by rw [cell_of_row _ _ _ _ _ _ H1.out, tabA_at _ _ hlt, if_neg (by omega)]
      have hfz : wr.frozen? ⟨w.heap.size + 1, n, none⟩ = false := frozen_of_row _ _ _ _ _ H1.out
      have hw0 : IntKind.u32.wrap (n : Int) = (n : Int) := by rw [IntKind.wrap_u32']; omega
      go_wp2
      go_loop [3, 10] (fun s j => ∃ m : Nat, m ≤ 8 ∧ j = .int .i64 m ∧ s = .int .u32 (crcI m n : Nat)) (fun _ j => 8 - (intOf j).toNat)
      case atStart => exact ⟨0, by omega, rfl, rfl⟩
      case round =>
        obtain ⟨m, hm, rfl, rfl⟩ := hrel
        by_cases hmlt : m < 8
        · have hmi : (m : Int) < 8 := by omega
          have hcl := crcI_lt m (x := n) (by omega)
          have HS := crcI_succ m n
          generalize crcI m n = c at hcl HS ⊢
          have HS' : Hid (crcI (m + 1) n = crcF c) := HS
          clear HS
          have hand : bits .and .u32 (c : Int) 1 = ((c % 2 : Nat) : Int) := by
            have := u32_and_nat c 1 hcl (by decide)
            rw [nat_mask1] at this
            exact this
          by_cases hpar : c % 2 = 1
          · have hbit : (bits .and .u32 (c : Int) 1 == 1) = true := by rw [hand, hpar]; rfl
            have hx : bits .xor .u32 ((c : Int) / 2) 3988292384 = ((c / 2 ^^^ 3988292384 : Nat) : Int) := by
              have := u32_xor_nat (c / 2) 3988292384 (by omega) (by decide)
              simpa using this
            clear hand
            go_wp2
            go_round
            case rel => exact ⟨m + 1, by omega, by go_num, by rw [HS'.out]; unfold crcF; rw [if_pos hpar]⟩
            case measure => simp [intOf]; omega
          · have hbit : (bits .and .u32 (c : Int) 1 == 1) = false := by rw [hand, show c % 2 = 0 by omega]; rfl
            clear hand
            go_wp2
            go_round
            case rel => exact ⟨m + 1, by omega, by go_num, by rw [HS'.out]; unfold crcF; rw [if_neg hpar]; simp⟩
            case measure => simp [intOf]; omega
        · obtain rfl : m = 8 := by omega
          rw [crcI_eight]
          have hset := heap_setCell_same wr (w.heap.size + 1) n (tabA n) 140 (.int .u32 (crcF8 n : Nat)) H1.out
          have hsame := heap_setCell_other wr ⟨w.heap.size + 1, n, none⟩ w.heap.size (.int .u32 (crcF8 n : Nat)) (by simp)
          have HSET : Hid ((wr.setCell ⟨w.heap.size + 1, n, none⟩ (.int .u32 (crcF8 n : Nat))).heap[w.heap.size + 1]? = some (.cells (tabA (n + 1)) 140 (0, 0))) := by
            show _ = _
            rw [hset, tabA_set n hlt]
          have HSAME : Hid ((wr.setCell ⟨w.heap.size + 1, n, none⟩ (.int .u32 (crcF8 n : Nat))).heap[w.heap.size]? = some (.cells (tabA 0) 140 (0, 0))) := by
            show _ = _
            rw [hsame]; exact H0.out
          have hbS : Below w.heap.size w (wr.setCell ⟨w.heap.size + 1, n, none⟩ (.int .u32 (crcF8 n : Nat))) := hb.setCell (by simp) _
          clear hset hsame
          go_wp2
          go_roundw
          case rel => exact ⟨n + 1, by omega, by go_num, hbS, HSAME.out, HSET.out⟩
          case measure => simp [intOf]; omega
    · obtain rfl : n = 256 := by omega
      go_wp2_with (first
        | (refine wpList_load_row rfl 140 _ rfl (w.heap.size + 1) rfl 140 (tabA 256) (0, 0) _ H1.out Tryz.underlying140 rfl (by rw [tabA_size]; exact Tryz.sizeTab) ?_)
        | (refine wpList_store_row rfl 140 _ _ rfl w.heap.size (tabA 256) rfl rfl 140 (tabA 0) H0.out (by rw [tabA_size]; exact Tryz.sizeTab) (by rw [tabA_size, tabA_size]) (tabA_all _) ?_))
      refine bodyPost_ret (results_cell_row rfl _ _ w.heap.size 140 (tabA 256) (0, 0) _ rfl (setRow_heap wr w.heap.size (tabA 0) _ _ _ H0.out) Tryz.underlying140 rfl (by rw [tabA_size]; exact Tryz.sizeTab)) rfl ⟨rfl, ?_⟩
      exact below_setRow hb _ (Nat.le_refl _) _

set_option maxRecDepth 100000 in
set_option maxHeartbeats 2000000 in
theorem sum_any (s : ByteArray) (w : World) (hs : s.size ≤ maxLen) : Calls Tryz.prog 64 #[.string s] w fun e w' => e = .returned (.int .u32 (sumL s.data.toList : Nat)) ∧ Below w.heap.size w w' := by
  unfold maxLen at hs
  have hz := Tryz.zeroTab
  have hbs := byteSums_any w
  go_enter Tryz.func64, Tryz.ntmps64
  go_wp2_with fail
  refine hbs.mono ?_
  rintro e w1 ⟨rfl, hb1⟩
  clear hbs
  have hA := heap_alloc_new w1 (.cells (tabA 0) 140)
  have hbA : Below w.heap.size w (w1.alloc (.cells (tabA 0) 140)) := hb1.alloc hb1.size _
  go_wp2_with (refine wpList_store_row rfl 140 _ _ rfl w1.heap.size (tabA 256) rfl rfl 140 (tabA 0) hA (by rw [tabA_size]; exact Tryz.sizeTab) (by rw [tabA_size, tabA_size]) (tabA_all _) ?_)
  clear hz
  have hS := setRow_heap (w1.alloc (.cells (tabA 0) 140)) w1.heap.size (tabA 0) (tabA 256) _ _ hA
  have hbS : Below w.heap.size w ((w1.alloc (.cells (tabA 0) 140)).setRow w1.heap.size (tabA 256)) := below_setRow hbA _ hb1.size _
  generalize w1.heap.size = g at hS hbS ⊢
  generalize (w1.alloc (.cells (tabA 0) 140)).setRow g (tabA 256) = W2 at hS hbS ⊢
  have HC : Hid (∀ i, i < 256 → W2.cell? ⟨g, i, none⟩ = some (.int .u32 (crcF8 i : Nat))) := fun i hi => by
    rw [cell_of_row _ _ _ _ _ _ hS, tabA_at _ _ hi, if_pos hi]
  clear hA hbA hS
  go_loop [4, 5] (fun c k => ∃ n : Nat, n ≤ s.size ∧ k = .int .i64 n ∧ c = .int .u32 (crcL (s.data.toList.take n) : Nat)) (fun _ k => s.size - (intOf k).toNat)
  case atStart => exact ⟨0, Nat.zero_le _, rfl, rfl⟩
  case round =>
    obtain ⟨n, hn, rfl, rfl⟩ := hrel
    have hlt4 := crcL_lt (s.data.toList.take n)
    by_cases hlt : n < s.size
    · have hi : (n : Int) < (s.size : Int) := by omega
      have hi0 : (0 : Int) ≤ (n : Int) := by omega
      have htk : s.data.toList.take (n + 1) = s.data.toList.take n ++ [s[n]] := by
        rw [List.take_succ_eq_append_getElem (by simpa using hlt)]; rfl
      have HN : Hid (crcL (s.data.toList.take (n + 1)) = crcB (crcL (s.data.toList.take n)) s[n]) := by
        show _ = _
        rw [htk, crcL_snoc]
      clear htk
      have HT := crcB_table (crcL (s.data.toList.take n)) s[n]
      generalize crcL (s.data.toList.take n) = C at hlt4 HN HT ⊢
      have hb256 := s[n].toNat_lt
      obtain ⟨I, hI⟩ : ∃ I, (C ^^^ s[n].toNat) % 256 = I := ⟨_, rfl⟩
      have hI256 : I < 256 := by omega
      have hidx : bits .xor .u8 ((C : Int) % 256) (s[n].toNat : Int) = (I : Int) := by
        have h1 := u8_xor_nat (C % 256) s[n].toNat (by omega) (by omega)
        have h2 := Nat.xor_mod_two_pow (a := C) (b := s[n].toNat) (n := 8)
        rw [show (2 : Nat) ^ 8 = 256 from rfl, Nat.mod_eq_of_lt (a := s[n].toNat) (by omega)] at h2
        rw [← h2, hI] at h1
        simpa using h1
      have hcell := HC.out I hI256
      have hFl := crcF8_lt (x := I) (by omega)
      have hx : bits .xor .u32 (crcF8 I : Int) ((C : Int) / 256) = ((crcF8 I ^^^ C / 256 : Nat) : Int) := by
        have := u32_xor_nat (crcF8 I) (C / 256) hFl (by omega)
        simpa using this
      rw [hI] at HT
      have HT' : Hid (crcB C s[n] = crcF8 I ^^^ C / 256) := HT
      clear HT hI hFl
      generalize crcF8 I = FI at hcell hx HT'
      have hI1 : (I : Int) < 256 := by omega
      have hI0 : (0 : Int) ≤ (I : Int) := by omega
      go_wp2
      go_round
      case rel => exact ⟨n + 1, by omega, by go_num, by rw [HN.out, HT'.out]⟩
      case measure => simp [intOf]; omega
    · obtain rfl : n = s.size := by omega
      have hta : s.data.toList.take s.size = s.data.toList := List.take_of_length_le (by rw [size_list]; exact Nat.le_refl _)
      rw [hta] at hlt4 ⊢
      have hx : bits .xor .u32 IntKind.u32.max (crcL s.data.toList : Int) = ((sumL s.data.toList : Nat) : Int) := by
        have e : IntKind.u32.max = 4294967295 := by decide
        rw [e]
        have := u32_xor_nat 4294967295 (crcL s.data.toList) (by decide) hlt4
        unfold sumL
        rw [Nat.xor_comm]
        exact this
      clear hta
      go_wp2
      go_ret
      exact ⟨rfl, hbS⟩
end Go.Proofs.YtpiagofhgalklacGreatDoor
