/-
  The contracts of strings.Split by a blank, and of row.Numbers.
-/
import Derived.Test.YtpkoefpdpoikkaaGreatDoorCrcPure
import Derived.Test.YtpkoefpdpoikkaaGreatDoorRowRead
import Derived.Laws.BitsAll
import Derived.Laws.BitsAllLaws
import Derived.Laws.Rows
import Derived.Laws.CopyRow
import Derived.Laws.Tables
import Derived.Deep.OwnRows
import Derived.OneCell
namespace Go.Proofs.YtpkoefpdpoikkaaGreatDoor
open Go.RowKit Go.Extern.Stop Go.Stop Go.Extern Go.Sort Go.Shelf Go.Lib

def tabA (n : Nat) : Array Value := (Array.range 256).map fun i => .int .u32 (if i < n then (crcF8 i : Int) else 0)

theorem tabA_size (n : Nat) : (tabA n).size = 256 := by simp [tabA]
theorem tabA_at (n i : Nat) (h : i < 256) : (tabA n)[i]? = some (.int .u32 (if i < n then (crcF8 i : Int) else 0)) := by
  simp [tabA, h]
theorem tabA_set (n : Nat) (h : n < 256) : (tabA n).setIfInBounds n (.int .u32 (crcF8 n : Int)) = tabA (n + 1) := by
  apply Array.ext_getElem?
  intro i
  rw [Array.getElem?_setIfInBounds]
  by_cases hi : i < 256
  · rw [tabA_at _ _ hi, tabA_at _ _ hi, tabA_size]
    by_cases e : n = i
    · subst e; simp [h]
    · rw [if_neg e]
      by_cases h2 : i < n
      · rw [if_pos h2, if_pos (by omega)]
      · rw [if_neg h2, if_neg (by omega)]
  · have h1 : ∀ k, (tabA k)[i]? = none := fun k => Array.getElem?_eq_none (by rw [tabA_size]; omega)
    rw [h1, h1, tabA_size]
    by_cases e : n = i
    · subst e; omega
    · rw [if_neg e]
theorem tabA_zero : tabA 0 = Array.replicate 256 (.int .u32 0) := by
  apply Array.ext_getElem?
  intro i
  by_cases hi : i < 256
  · rw [tabA_at _ _ hi]; simp [hi]
  · rw [Array.getElem?_eq_none (by rw [tabA_size]; omega), Array.getElem?_eq_none (by simp; omega)]

def crcI (j : Nat) (x : Nat) : Nat := Nat.repeat crcF j x
theorem crcI_succ (j x : Nat) : crcI (j + 1) x = crcF (crcI j x) := rfl
theorem crcI_lt (j : Nat) {x : Nat} (h : x < 4294967296) : crcI j x < 4294967296 := by
  induction j with
  | zero => exact h
  | succ j ih => rw [crcI_succ]; exact crcF_lt ih
theorem crcI_eight (x : Nat) : crcI 8 x = crcF8 x := rfl

theorem Tryz.zeroTab : Tryz.zeroCells186 = tabA 0 := by rw [tabA_zero]; kernel_rfl
theorem Tryz.sizeTab : (Tryz.prog.info? 186).map (·.size) = some 256 := by kernel_rfl

theorem tabA_all (n : Nat) : (tabA n).all (·.oneCell') = true := by
  rw [Array.all_eq_true]
  intro i hi
  have h := tabA_at n i (by rw [tabA_size] at hi; exact hi)
  rw [Array.getElem?_eq_getElem hi] at h
  rw [Option.some.inj h]
  rfl

theorem below_setRow {B : Nat} {a w : World} (h : Below B a w) (g : Nat) (hg : B ≤ g) (cs : Array Value) : Below B a (w.setRow g cs) := by
  refine ⟨h.os, h.tape, h.output, by rw [size_setRow]; exact h.size, fun k hk => ?_⟩
  have e : (w.setRow g cs).heap[k]? = w.heap[k]? := by
    unfold World.setRow
    simp only [Array.getElem?_modify]
    rw [if_neg (by omega)]
  rw [e]
  exact h.block k hk

set_option maxRecDepth 100000 in
set_option maxHeartbeats 2000000 in
theorem byteSums_any (w : World) : Calls Tryz.prog 144 #[] w fun e w' => e = .returned (.agg (tabA 256)) ∧ Below w.heap.size w w' := by
  have hz := Tryz.zeroTab
  have hal : Below w.heap.size w ((w.alloc (.cells (tabA 0) 186)).alloc (.cells (tabA 0) 186)) := ((Below.refl _ _).alloc (Nat.le_refl _) _).alloc (by simp) _
  have hA := heap_alloc2_old w (.cells (tabA 0) 186) (.cells (tabA 0) 186)
  have hB := heap_alloc2_new w (.cells (tabA 0) 186) (.cells (tabA 0) 186)
  go_enter Tryz.func144, Tryz.ntmps144
  go_wp2
  clear hz
  go_loopw [5] (fun k wr => ∃ n : Nat, n ≤ 256 ∧ k = .int .i64 n ∧ Below w.heap.size w wr ∧ wr.heap[w.heap.size]? = some (.cells (tabA 0) 186 (0, 0)) ∧ wr.heap[w.heap.size + 1]? = some (.cells (tabA n) 186 (0, 0))) (fun k _ => 256 - (intOf k).toNat)
  case atStart => exact ⟨0, by omega, rfl, hal, hA, hB⟩
  case round =>
    clear hA hB hal
    obtain ⟨n, hn, rfl, hb, h0, h1⟩ := hrel
    have H0 : Hid (wr.heap[w.heap.size]? = some (.cells (tabA 0) 186 (0, 0))) := h0
    have H1 : Hid (wr.heap[w.heap.size + 1]? = some (.cells (tabA n) 186 (0, 0))) := h1
    clear h0 h1
    by_cases hlt : n < 256
    · have hi : (n : Int) < 256 := by omega
      have hi0 : (0 : Int) ≤ (n : Int) := by omega
      have hcell : wr.cell? ⟨w.heap.size + 1, n, none⟩ = some (.int .u32 0) := by rw [cell_of_row _ _ _ _ _ _ H1.out, tabA_at _ _ hlt, if_neg (by omega)]
      have hfz : wr.frozen? ⟨w.heap.size + 1, n, none⟩ = false := frozen_of_row _ _ _ _ _ H1.out
      have hw0 : IntKind.u32.wrap (n : Int) = (n : Int) := by rw [IntKind.wrap_u32']; omega
      go_wp2
      go_loop [3, 10] (fun s j => ∃ m : Nat, m ≤ 8 ∧ j = .int .i64 m ∧ s = .int .u32 (crcI m n : Nat)) (fun _ j => 8 - (intOf j).toNat)
      case atStart => exact ⟨0, by omega, rfl, rfl⟩
      case round =>
        obtain ⟨m, hm, rfl, rfl⟩ := hrel
        by_cases hmlt : m < 8
        · have hmi : (m : Int) < 8 := by omega
          have hcl := crcI_lt m (x := n) (by omega)
          have HS := crcI_succ m n
          generalize crcI m n = c at hcl HS ⊢
          have HS' : Hid (crcI (m + 1) n = crcF c) := HS
          clear HS
          have hand : bits .and .u32 (c : Int) 1 = ((c % 2 : Nat) : Int) := by
            have := u32_and_nat c 1 hcl (by decide)
            rw [nat_mask1] at this
            exact this
          by_cases hpar : c % 2 = 1
          · have hbit : (bits .and .u32 (c : Int) 1 == 1) = true := by rw [hand, hpar]; rfl
            have hx : bits .xor .u32 ((c : Int) / 2) 3988292384 = ((c / 2 ^^^ 3988292384 : Nat) : Int) := by
              have := u32_xor_nat (c / 2) 3988292384 (by omega) (by decide)
              simpa using this
            clear hand
            go_wp2
            go_round
            case rel => exact ⟨m + 1, by omega, by go_num, by rw [HS'.out]; unfold crcF; rw [if_pos hpar]⟩
            case measure => simp [intOf]; omega
          · have hbit : (bits .and .u32 (c : Int) 1 == 1) = false := by rw [hand, show c % 2 = 0 by omega]; rfl
            clear hand
            go_wp2
            go_round
            case rel => exact ⟨m + 1, by omega, by go_num, by rw [HS'.out]; unfold crcF; rw [if_neg hpar]; simp⟩
            case measure => simp [intOf]; omega
        · obtain rfl : m = 8 := by omega
          rw [crcI_eight]
          have hset := heap_setCell_same wr (w.heap.size + 1) n (tabA n) 186 (.int .u32 (crcF8 n : Nat)) H1.out
          have hsame := heap_setCell_other wr ⟨w.heap.size + 1, n, none⟩ w.heap.size (.int .u32 (crcF8 n : Nat)) (by simp)
          have HSET : Hid ((wr.setCell ⟨w.heap.size + 1, n, none⟩ (.int .u32 (crcF8 n : Nat))).heap[w.heap.size + 1]? = some (.cells (tabA (n + 1)) 186 (0, 0))) := by
            show _ = _
            rw [hset, tabA_set n hlt]
          have HSAME : Hid ((wr.setCell ⟨w.heap.size + 1, n, none⟩ (.int .u32 (crcF8 n : Nat))).heap[w.heap.size]? = some (.cells (tabA 0) 186 (0, 0))) := by
            show _ = _
            rw [hsame]; exact H0.out
          have hbS : Below w.heap.size w (wr.setCell ⟨w.heap.size + 1, n, none⟩ (.int .u32 (crcF8 n : Nat))) := hb.setCell (by simp) _
          clear hset hsame
          go_wp2
          go_roundw
          case rel => exact ⟨n + 1, by omega, by go_num, hbS, HSAME.out, HSET.out⟩
          case measure => simp [intOf]; omega
    · obtain rfl : n = 256 := by omega
      go_wp2_with (first
        | (refine wpList_load_row rfl 186 _ rfl (w.heap.size + 1) rfl 186 (tabA 256) (0, 0) _ H1.out Tryz.underlying186 rfl (by rw [tabA_size]; exact Tryz.sizeTab) ?_)
        | (refine wpList_store_row rfl 186 _ _ rfl w.heap.size (tabA 256) rfl rfl 186 (tabA 0) H0.out (by rw [tabA_size]; exact Tryz.sizeTab) (by rw [tabA_size, tabA_size]) (tabA_all _) ?_))
      refine bodyPost_ret (results_cell_row rfl _ _ w.heap.size 186 (tabA 256) (0, 0) _ rfl (setRow_heap wr w.heap.size (tabA 0) _ _ _ H0.out) Tryz.underlying186 rfl (by rw [tabA_size]; exact Tryz.sizeTab)) rfl ⟨rfl, ?_⟩
      exact below_setRow hb _ (Nat.le_refl _) _

set_option maxRecDepth 100000 in
set_option maxHeartbeats 2000000 in
theorem sum_any (s : ByteArray) (w : World) (hs : s.size ≤ maxLen) : Calls Tryz.prog 105 #[.string s] w fun e w' => e = .returned (.int .u32 (sumL s.data.toList : Nat)) ∧ Below w.heap.size w w' := by
  unfold maxLen at hs
  have hz := Tryz.zeroTab
  have hbs := byteSums_any w
  go_enter Tryz.func105, Tryz.ntmps105
  go_wp2_with fail
  refine hbs.mono ?_
  rintro e w1 ⟨rfl, hb1⟩
  clear hbs
  have hA := heap_alloc_new w1 (.cells (tabA 0) 186)
  have hbA : Below w.heap.size w (w1.alloc (.cells (tabA 0) 186)) := hb1.alloc hb1.size _
  go_wp2_with (refine wpList_store_row rfl 186 _ _ rfl w1.heap.size (tabA 256) rfl rfl 186 (tabA 0) hA (by rw [tabA_size]; exact Tryz.sizeTab) (by rw [tabA_size, tabA_size]) (tabA_all _) ?_)
  clear hz
  have hS := setRow_heap (w1.alloc (.cells (tabA 0) 186)) w1.heap.size (tabA 0) (tabA 256) _ _ hA
  have hbS : Below w.heap.size w ((w1.alloc (.cells (tabA 0) 186)).setRow w1.heap.size (tabA 256)) := below_setRow hbA _ hb1.size _
  generalize w1.heap.size = g at hS hbS ⊢
  generalize (w1.alloc (.cells (tabA 0) 186)).setRow g (tabA 256) = W2 at hS hbS ⊢
  have HC : Hid (∀ i, i < 256 → W2.cell? ⟨g, i, none⟩ = some (.int .u32 (crcF8 i : Nat))) := fun i hi => by
    rw [cell_of_row _ _ _ _ _ _ hS, tabA_at _ _ hi, if_pos hi]
  clear hA hbA hS
  go_loop [4, 5] (fun c k => ∃ n : Nat, n ≤ s.size ∧ k = .int .i64 n ∧ c = .int .u32 (crcL (s.data.toList.take n) : Nat)) (fun _ k => s.size - (intOf k).toNat)
  case atStart => exact ⟨0, Nat.zero_le _, rfl, rfl⟩
  case round =>
    obtain ⟨n, hn, rfl, rfl⟩ := hrel
    have hlt4 := crcL_lt (s.data.toList.take n)
    by_cases hlt : n < s.size
    · have hi : (n : Int) < (s.size : Int) := by omega
      have hi0 : (0 : Int) ≤ (n : Int) := by omega
      have htk : s.data.toList.take (n + 1) = s.data.toList.take n ++ [s[n]] := by
        rw [List.take_succ_eq_append_getElem (by simpa using hlt)]; rfl
      have HN : Hid (crcL (s.data.toList.take (n + 1)) = crcB (crcL (s.data.toList.take n)) s[n]) := by
        show _ = _
        rw [htk, crcL_snoc]
      clear htk
      have HT := crcB_table (crcL (s.data.toList.take n)) s[n]
      generalize crcL (s.data.toList.take n) = C at hlt4 HN HT ⊢
      have hb256 := s[n].toNat_lt
      obtain ⟨I, hI⟩ : ∃ I, (C ^^^ s[n].toNat) % 256 = I := ⟨_, rfl⟩
      have hI256 : I < 256 := by omega
      have hidx : bits .xor .u8 ((C : Int) % 256) (s[n].toNat : Int) = (I : Int) := by
        have h1 := u8_xor_nat (C % 256) s[n].toNat (by omega) (by omega)
        have h2 := Nat.xor_mod_two_pow (a := C) (b := s[n].toNat) (n := 8)
        rw [show (2 : Nat) ^ 8 = 256 from rfl, Nat.mod_eq_of_lt (a := s[n].toNat) (by omega)] at h2
        rw [← h2, hI] at h1
        simpa using h1
      have hcell := HC.out I hI256
      have hFl := crcF8_lt (x := I) (by omega)
      have hx : bits .xor .u32 (crcF8 I : Int) ((C : Int) / 256) = ((crcF8 I ^^^ C / 256 : Nat) : Int) := by
        have := u32_xor_nat (crcF8 I) (C / 256) hFl (by omega)
        simpa using this
      rw [hI] at HT
      have HT' : Hid (crcB C s[n] = crcF8 I ^^^ C / 256) := HT
      clear HT hI hFl
      generalize crcF8 I = FI at hcell hx HT'
      have hI1 : (I : Int) < 256 := by omega
      have hI0 : (0 : Int) ≤ (I : Int) := by omega
      go_wp2
      go_round
      case rel => exact ⟨n + 1, by omega, by go_num, by rw [HN.out, HT'.out]⟩
      case measure => simp [intOf]; omega
    · obtain rfl : n = s.size := by omega
      have hta : s.data.toList.take s.size = s.data.toList := List.take_of_length_le (by rw [size_list]; exact Nat.le_refl _)
      rw [hta] at hlt4 ⊢
      have hx : bits .xor .u32 IntKind.u32.max (crcL s.data.toList : Int) = ((sumL s.data.toList : Nat) : Int) := by
        have e : IntKind.u32.max = 4294967295 := by decide
        rw [e]
        have := u32_xor_nat 4294967295 (crcL s.data.toList) (by decide) hlt4
        unfold sumL
        rw [Nat.xor_comm]
        exact this
      clear hta
      go_wp2
      go_ret
      exact ⟨rfl, hbS⟩
end Go.Proofs.YtpkoefpdpoikkaaGreatDoor
namespace Go.Proofs.YtpkoefpdpoikkaaGreatDoor
open Go.RowKit Go.Extern.Stop Go.Stop Go.Extern Go.Sort Go.Shelf Go.Lib

theorem words_len : ∀ (l : List UInt8), ∀ x ∈ words l, x.length ≤ l.length
  | [], x, h => by simp [words] at h; simp [h]
  | c :: r, x, h => by
    have ih := words_len r
    unfold words at h
    split at h
    · rw [List.mem_cons] at h
      rcases h with rfl | h
      · simp
      · have := ih x h; simp; omega
    · split at h
      · simp at h; simp [h]
      · rename_i w ws hw
        rw [hw] at ih
        rw [List.mem_cons] at h
        rcases h with rfl | h
        · have := ih w List.mem_cons_self; simp; omega
        · have := ih x (List.mem_cons_of_mem _ h); simp; omega

theorem setCell_self {w : World} {b o : Nat} {v : Value} (h : w.cell? ⟨b, o, none⟩ = some v) : w.setCell ⟨b, o, none⟩ v = w := by
  have hm : (w.setCell ⟨b, o, none⟩ v).heap = w.heap := by
    unfold World.setCell
    apply Array.ext_getElem?
    intro i
    dsimp only
    rw [Array.getElem?_modify]
    split
    · rename_i e
      subst e
      unfold World.cell? at h
      dsimp only at h
      cases hh : w.heap[b]? with
      | none => rfl
      | some ob =>
        rw [hh] at h
        cases ob with
        | cells c t f =>
          simp only [Option.isSome_none, Bool.false_eq_true, if_false] at h
          simp only [Option.map_some, Option.isSome_none, Bool.false_eq_true, if_false, Option.some.injEq, Obj.cells.injEq, and_true]
          apply Array.ext_getElem?
          intro k
          rw [Array.getElem?_setIfInBounds]
          split
          · rename_i e; subst e
            split
            · exact h.symm
            · rename_i hlt; rw [Array.getElem?_eq_none (by omega)]
          · rfl
        | _ => simp at h
    · rfl
  cases w
  simp only [World.setCell] at hm ⊢
  rw [hm]

def TxAt (w : World) (v : Value) (ts : List ByteArray) : Prop :=
  ∃ b, v = .slice (some ⟨b, 0, none⟩) ts.length ts.length ∧ ∀ j (h : j < ts.length), w.cell? ⟨b, j, none⟩ = some (.string ts[j])

theorem splitTx_any (s : ByteArray) (w : World) (a : Nat → Addr) (h : Env0 w a) (hs : s.size < 4294967281) :
    Calls Tryz.prog 63 #[.string s, .string ⟨#[32]⟩] w fun e w' => ∃ v ts, e = .returned v ∧ TxAt w' v ts ∧ ts.map (·.data.toList) = words s.data.toList ∧ Below w.heap.size w w' := by
  obtain ⟨m, hm⟩ := h.maxl
  have hsp := Tryz.strings_Split s sp m _ hs hm (by decide)
  obtain ⟨hw1, hw2⟩ := split_words s.size s (Nat.le_refl _)
  have hl : (splitB sp 0 (countB s sp) s).length = countB s sp + 1 := by
    have := congrArg List.length hw1
    simp only [List.length_map] at this
    omega
  refine hsp.mono fun e w' ⟨he, hw⟩ => ⟨_, splitB sp 0 (countB s sp) s, he, ⟨w.heap.size, by rw [hl], fun j hj => ?_⟩, hw1, ?_⟩
  · rw [hw, cell_of_row _ _ _ _ _ _ (heap_alloc_new _ _)]
    simp [hj]
  · rw [hw]; exact (Below.refl _ _).alloc (Nat.le_refl _) _

theorem Tryz.numsInfo : (Tryz.prog.info? 3).map (fun i => (i.zero, i.size, i.bytes)) = some (some (.int .i64 0), 1, 8) := by kernel_rfl

def NumsRow (w : World) (e : Ending) (ts : List ByteArray) : Prop :=
  (∃ (zs : List Int) (g : Nat), zs.length = ts.length ∧ (∀ (j : Nat) (t : ByteArray), ts[j]? = some t → numO t.data.toList = zs[j]?) ∧ e = .returned (.tuple #[.slice (some ⟨g, 0, none⟩) ts.length ts.length, .bool true]) ∧ ∀ j (h : j < zs.length), w.cell? ⟨g, j, none⟩ = some (.int .i64 zs[j])) ∨
  (∃ (j : Nat) (t : ByteArray), ts[j]? = some t ∧ numO t.data.toList = none ∧ e = .returned (.tuple #[.slice none 0 0, .bool false]))

def NumsRowN (B : Nat) (w : World) (e : Ending) (ts : List ByteArray) : Prop :=
  (∃ (zs : List Int) (g : Nat), zs.length = ts.length ∧ (∀ (j : Nat) (t : ByteArray), ts[j]? = some t → numO t.data.toList = zs[j]?) ∧ e = .returned (.tuple #[.slice (some ⟨g, 0, none⟩) ts.length ts.length, .bool true]) ∧ (∀ j (h : j < zs.length), w.cell? ⟨g, j, none⟩ = some (.int .i64 zs[j])) ∧ B ≤ g) ∨
  (∃ (j : Nat) (t : ByteArray), ts[j]? = some t ∧ numO t.data.toList = none ∧ e = .returned (.tuple #[.slice none 0 0, .bool false]))
theorem NumsRowN.weak {B : Nat} {w : World} {e : Ending} {ts : List ByteArray} (h : NumsRowN B w e ts) : NumsRow w e ts := by
  rcases h with ⟨zs, g, h1, h2, h3, h4, _⟩ | h
  · exact Or.inl ⟨zs, g, h1, h2, h3, h4⟩
  · exact Or.inr h

theorem made_get (z : Value) (n j : Nat) (h : j < n) : (madeCells #[z] n)[j]? = some z := by
  unfold madeCells
  simp [h, Nat.mod_one]

set_option maxRecDepth 100000 in
set_option maxHeartbeats 4000000 in
theorem numbers_new (b o cap : Nat) (ts : List ByteArray) (w : World) (a : Nat → Addr) (h : Env0 w a) (hc : ∀ j (h : j < ts.length), w.cell? ⟨b, o + j, none⟩ = some (.string ts[j])) (hs : ∀ t ∈ ts, t.size ≤ maxLen) (hl : ts.length ≤ 20000) :
    Calls Tryz.prog 64 #[.slice (some ⟨b, o, none⟩) ts.length cap] w fun e w' => NumsRowN w.heap.size w' e ts ∧ Below w.heap.size w w' := by
  have HC : Hid (∀ j (h : j < ts.length), w.cell? ⟨b, o + j, none⟩ = some (.string ts[j])) := hc
  have HS : Hid (∀ t ∈ ts, t.size ≤ maxLen) := hs
  obtain ⟨L, hL⟩ : ∃ L, ts.length = L := ⟨_, rfl⟩
  have HX : Hid (ts.length = L) := hL
  rw [hL] at hl ⊢
  clear hL hc hs
  have hmk := fun W => run_make_row' (P := Tryz.prog) 93 3 (.int .i64 0) 8 Tryz.underlying93 Tryz.numsInfo rfl .i64 .i64 L (by omega) (by omega) W
  have hal : Below w.heap.size w (w.alloc (.cells (madeCells #[.int .i64 0] L) 3)) := (Below.refl _ _).alloc (Nat.le_refl _) _
  have hblk := heap_alloc_new w (.cells (madeCells #[.int .i64 0] L) 3)
  have hmd : ∀ j, j < L → (madeCells #[.int .i64 0] L)[j]? = some (.int .i64 0) := fun j hj => made_get _ _ _ hj
  have MD : Hid (∀ j, j < L → (madeCells #[.int .i64 0] L)[j]? = some (.int .i64 0)) := hmd
  clear hmd
  go_enter Tryz.func64, Tryz.ntmps64
  go_wp2
  go_loopw [14] (fun k wr => ∃ (n : Nat) (zs : List Int) (arr : Array Value), n ≤ L ∧ k = .int .i64 n ∧ Below w.heap.size w wr ∧ zs.length = n ∧ (∀ j t, j < n → ts[j]? = some t → numO t.data.toList = zs[j]?) ∧ wr.heap[w.heap.size]? = some (.cells arr 3 (0, 0)) ∧ (∀ j, j < L → ∃ u, arr[j]? = some u) ∧ ∀ j (h : j < zs.length), arr[j]? = some (.int .i64 zs[j])) (fun k _ => L - (intOf k).toNat)
  case atStart => exact ⟨0, [], _, by omega, rfl, hal, rfl, fun j t h => absurd h (Nat.not_lt_zero _), hblk, fun j hj => ⟨_, MD.out j hj⟩, fun j h => absurd h (Nat.not_lt_zero _)⟩
  case round =>
    clear hal hblk hmk
    obtain ⟨n, zs, arr, hn, rfl, hb, hzl, hzs, hbk, har, hgo⟩ := hrel
    have HB : Hid (wr.heap[w.heap.size]? = some (.cells arr 3 (0, 0))) := hbk
    have HZL : Hid (zs.length = n) := hzl
    have HZS : Hid (∀ j t, j < n → ts[j]? = some t → numO t.data.toList = zs[j]?) := hzs
    have HAR : Hid (∀ j, j < L → ∃ u, arr[j]? = some u) := har
    have HGO : Hid (∀ j (h : j < zs.length), arr[j]? = some (.int .i64 zs[j])) := hgo
    clear hbk hzl hzs har hgo
    by_cases hlt : n < L
    · have hltx : n < ts.length := by rw [HX.out]; exact hlt
      have c1 := below_keep hb (HC.out n hltx)
      have HG : Hid (ts[n]? = some ts[n]) := List.getElem?_eq_getElem hltx
      have hnum := number_any ts[n] wr a (h.below hb) (HS.out _ (List.getElem_mem _))
      generalize ts[n] = t at c1 HG hnum
      unfold numR at hnum
      have hi : (n : Int) < (L : Int) := by omega
      have hi0' : (0 : Int) ≤ (n : Int) := by omega
      clear hltx
      cases hk : numO t.data.toList with
      | none =>
        rw [hk] at hnum
        dsimp only at hnum
        have HK : Hid (numO t.data.toList = none) := hk
        clear hk
        go_wp2_with fail
        refine hnum.mono ?_
        rintro e w3 ⟨rfl, hb3⟩
        clear hnum
        have hB3 : Below w.heap.size w w3 := hb.trans (hb3.mono hb.size)
        go_wp2
        go_ret2
        exact ⟨Or.inr ⟨n, t, HG.out, HK.out, rfl⟩, hB3⟩
      | some x =>
        rw [hk] at hnum
        dsimp only at hnum
        have HK : Hid (numO t.data.toList = some x) := hk
        clear hk
        go_wp2_with fail
        refine hnum.mono ?_
        rintro e w3 ⟨rfl, hb3⟩
        clear hnum
        have hB3 : Below w.heap.size w w3 := hb.trans (hb3.mono hb.size)
        have hbk3 : w3.heap[w.heap.size]? = some (.cells arr 3 (0, 0)) := (hb3.block _ (lt_of_block HB.out)).trans HB.out
        obtain ⟨u, hu⟩ := HAR.out n hlt
        have hcu : w3.cell? ⟨w.heap.size, n, none⟩ = some u := by rw [cell_of_row _ _ _ _ _ _ hbk3]; exact hu
        have hfz : w3.frozen? ⟨w.heap.size, n, none⟩ = false := frozen_of_row _ _ _ _ _ hbk3
        have hset := heap_setCell_same w3 w.heap.size n arr 3 (.int .i64 x) hbk3
        have HSET : Hid ((w3.setCell ⟨w.heap.size, n, none⟩ (.int .i64 x)).heap[w.heap.size]? = some (.cells (arr.setIfInBounds n (.int .i64 x)) 3 (0, 0))) := hset
        have HN : Hid (n < arr.size) := by
          show n < arr.size
          rcases Nat.lt_or_ge n arr.size with h' | h'
          · exact h'
          · rw [Array.getElem?_eq_none h'] at hu; cases hu
        have hB4 : Below w.heap.size w (w3.setCell ⟨w.heap.size, n, none⟩ (.int .i64 x)) := hB3.setCell (Nat.le_refl _) _
        clear hset hbk3 hu
        go_wp2
        go_roundw
        case rel =>
          refine ⟨n + 1, zs ++ [x], _, by omega, by go_num, hB4, by rw [List.length_append, HZL.out]; rfl, fun j t' hj ht' => ?_, HSET.out, fun j hj => ?_, fun j hj => ?_⟩
          · rcases Nat.lt_or_ge j n with h' | h'
            · rw [HZS.out j t' h' ht', List.getElem?_append_left (by rw [HZL.out]; exact h')]
            · obtain rfl : j = n := by omega
              rw [HG.out] at ht'
              rw [← Option.some.inj ht', HK.out, List.getElem?_append_right (by rw [HZL.out]; exact Nat.le_refl _), HZL.out, Nat.sub_self]
              rfl
          · rw [Array.getElem?_setIfInBounds]
            split
            · rw [if_pos HN.out]; exact ⟨_, rfl⟩
            · exact HAR.out j hj
          · rw [Array.getElem?_setIfInBounds]
            split
            · rename_i e
              subst e
              rw [if_pos HN.out, List.getElem_append_right (by rw [HZL.out]; exact Nat.le_refl _)]
              simp
            · rename_i e
              have hj' : j < zs.length := by rw [List.length_append] at hj; simp at hj; have := HZL.out; omega
              rw [List.getElem_append_left hj']
              exact HGO.out j hj'
        case measure => simp [intOf]; omega
    · obtain rfl : n = L := by omega
      go_wp2
      go_ret2
      refine ⟨Or.inl ⟨zs, w.heap.size, by rw [HZL.out, HX.out], fun j t ht => HZS.out j t (by
        rw [← HX.out]
        rcases Nat.lt_or_ge j ts.length with h | h
        · exact h
        · rw [List.getElem?_eq_none h] at ht; cases ht) ht, by rw [HX.out]; rfl, fun j hj => ?_, Nat.le_refl _⟩, hb⟩
      rw [cell_of_row _ _ _ _ _ _ HB.out]
      exact HGO.out j hj

theorem numbers_any (b o cap : Nat) (ts : List ByteArray) (w : World) (a : Nat → Addr) (h : Env0 w a) (hc : ∀ j (h : j < ts.length), w.cell? ⟨b, o + j, none⟩ = some (.string ts[j])) (hs : ∀ t ∈ ts, t.size ≤ maxLen) (hl : ts.length ≤ 20000) :
    Calls Tryz.prog 64 #[.slice (some ⟨b, o, none⟩) ts.length cap] w fun e w' => NumsRow w' e ts ∧ Below w.heap.size w w' :=
  (numbers_new b o cap ts w a h hc hs hl).mono fun _ _ ⟨h1, h2⟩ => ⟨h1.weak, h2⟩
end Go.Proofs.YtpkoefpdpoikkaaGreatDoor
