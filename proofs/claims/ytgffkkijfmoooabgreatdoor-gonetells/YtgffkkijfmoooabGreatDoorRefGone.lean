/-
  The contract of the document's own GoneOf.
-/
import Derived.Test.YtgffkkijfmoooabGreatDoorRefReadGone
import Derived.Test.YtgffkkijfmoooabGreatDoorGoneWalk
namespace Go.Proofs.YtgffkkijfmoooabGreatDoor
open Go.RowKit Go.Extern.Stop Go.Stop Go.Extern Go.Sort Go.Shelf Go.Lib

set_option maxRecDepth 100000 in
set_option maxHeartbeats 2000000 in
theorem goneOf_full (v : Value) (zs : List Int) (w : World) (hz : KeysAt w v zs) (hl : zs.length ≤ 1000) (hn : 40 < (riseZ zs).length) :
    Calls Tryz.prog 26 #[v] w fun e w' => e = .returned (.tuple #[.string ⟨#[]⟩, .agg #[.int .i64 8, .int .i64 (-1)]]) ∧ Below w.heap.size w w' := by
  have hi : (40 : Int) < ((riseZ zs).length : Int) := by omega
  have hf0 := FC.new w
  have hbr := fun W => bare_of 8 W
  have hal : Below w.heap.size w (w.alloc (.cells #[.int .i64 0, .int .i64 0] 31)) := (Below.refl _ _).alloc (Nat.le_refl _) _
  have hro := risingOf_any v zs _ (hz.below hal) hl
  obtain ⟨q0, c0, rfl⟩ := hz.form
  clear hz
  go_enter Tryz.func26, Tryz.ntmps26
  go_wp2_with fail
  refine hro.mono ?_
  rintro e w1 ⟨v1, rfl, hk1, hb1⟩
  clear hro
  obtain ⟨q1, c1, rfl⟩ := hk1.form
  have hf1 := hf0.below hb1
  have hB1 : Below w.heap.size w w1 := hal.trans (hb1.mono hal.size)
  clear hk1 hn hf0 hal hb1
  generalize (riseZ zs).length = L1 at hi ⊢
  go_wp2_with fail
  refine (hbr _).mono ?_
  rintro e w2 ⟨rfl, hb2⟩
  clear hbr
  have hf2 := hf1.below hb2
  have hB2 : Below w.heap.size w w2 := hB1.trans (hb2.mono hB1.size)
  have j0 := hf2.c0
  have j1 := hf2.c1
  have jz := hf2.fz
  clear hf1 hf2
  go_wp2
  refine bodyPost_ret (v := .tuple #[.string ⟨#[]⟩, .agg #[.int .i64 8, .int .i64 (-1)]]) (by simp [results, Tryz.results26, go_sem, j0, j1]) rfl ⟨rfl, ?_⟩
  exact (hB2.setCell (by simp) _).setCell (by simp) _

theorem klines_take (xs : List Int) (n : Nat) (h : n < xs.length) : linesG goneK (xs.take (n + 1)) = linesG goneK (xs.take n) ++ (itoa xs[n] ++ [10]) := by
  rw [← List.take_append_getElem h]; exact linesG_snoc goneK _ _

set_option maxRecDepth 100000 in
set_option maxHeartbeats 4000000 in
theorem goneOf_any (v : Value) (zs : List Int) (w : World) (hz : KeysAt w v zs) (hl : zs.length ≤ 1000) (hn40 : (riseZ zs).length ≤ 40)
    (m : Nat) (hm : m ≤ zs.length) (hgood : ∀ i (h : i < zs.length), i < m → inNum zs[i] = true) (hend : ∀ (h : m < zs.length), inNum zs[m] = false) :
    Calls Tryz.prog 26 #[v] w fun e w' => (m = zs.length ∧ e = .returned (.tuple #[.string (bytesOf (goneF (riseZ zs))), .agg #[.int .i64 0, .int .i64 (-1)]]) ∧ Below w.heap.size w w') ∨
      (m < zs.length ∧ e = .returned (.tuple #[.string ⟨#[]⟩, .agg #[.int .i64 2, .int .i64 m]]) ∧ Below w.heap.size w w') := by
  have HALL : Hid (m = zs.length → ∀ x ∈ riseZ zs, inNum x = true) := fun e x hxm => by
    obtain ⟨i, hi, e'⟩ := List.mem_iff_getElem.1 ((rise_mem zs x).1 hxm)
    rw [← e']
    exact hgood i hi (by omega)
  have hf0 := FC.new w
  have hal : Below w.heap.size w (w.alloc (.cells #[.int .i64 0, .int .i64 0] 31)) := (Below.refl _ _).alloc (Nat.le_refl _) _
  have hro := risingOf_any v zs _ (hz.below hal) hl
  obtain ⟨q, cap, rfl⟩ := hz.form
  obtain ⟨L, hL⟩ : ∃ L, zs.length = L := ⟨_, rfl⟩
  have HX : Hid (zs.length = L) := hL
  have HGOOD : Hid (∀ i (h : i < zs.length), i < m → inNum zs[i] = true) := hgood
  have HEND : Hid (∀ (h : m < zs.length), inNum zs[m] = false) := hend
  have HZZ : Hid (∀ W, Below w.heap.size w W → KeysAt W (.slice q zs.length cap) zs) := fun W hW => hz.below hW
  rw [hL] at hm hl HZZ
  have harg : (Value.slice q zs.length cap) = .slice q L cap := by rw [hL]
  rw [harg] at hro ⊢
  obtain ⟨L1, hL1⟩ : ∃ L1, (riseZ zs).length = L1 := ⟨_, rfl⟩
  have HL1 : Hid ((riseZ zs).length = L1) := hL1
  rw [hL1] at hn40
  have hi40 : ¬ (40 : Int) < (L1 : Int) := by omega
  clear hL hL1 hgood hend harg hz
  go_enter Tryz.func26, Tryz.ntmps26
  go_wp2_with fail
  generalize w.alloc (.cells #[.int .i64 0, .int .i64 0] 31) = w0 at hf0 hal hro ⊢
  refine hro.mono ?_
  rintro e w1 ⟨v1, rfl, hk1, hb1⟩
  clear hro
  obtain ⟨q1, c1, hv1⟩ := hk1.form
  rw [HL1.out] at hv1
  subst hv1
  have HK1 : Hid (KeysAt w1 (.slice q1 L1 c1) (riseZ zs)) := hk1
  have hf1 := hf0.below hb1
  have hB1 : Below w.heap.size w w1 := hal.trans (hb1.mono hal.size)
  clear hk1 hf0 hal hb1
  go_wp2
  go_loopw [5] (fun k wr => ∃ n : Nat, n ≤ m ∧ k = .int .i64 n ∧ Below w1.heap.size w1 wr) (fun k _ => L - (intOf k).toNat)
  case atStart => exact ⟨0, by omega, rfl, Below.refl _ _⟩
  case round =>
    obtain ⟨n, hn, rfl, hb⟩ := hrel
    have hBr : Below w.heap.size w wr := hB1.trans (hb.mono hB1.size)
    by_cases hlt : n < L
    · have hltx : n < zs.length := by rw [HX.out]; exact hlt
      rcases HZZ.out wr hBr with ⟨_, _, e, e'⟩ | ⟨b, o, cap2, e, hcells⟩
      · exfalso; have := HX.out; rw [e'] at this; simp at this; omega
      injection e with e1 e2 e3
      subst e1
      clear e2 e3
      have d1 := hcells n hltx
      clear hcells
      have hi : (n : Int) < (L : Int) := by omega
      have hi0 : (0 : Int) ≤ (n : Int) := by omega
      have hre := isFar_any zs[n] wr
      by_cases hltm : n < m
      · rw [HGOOD.out n hltx hltm] at hre
        generalize zs[n] = xk at d1 hre
        simp only [Bool.not_true] at hre
        go_wp2_with fail
        refine hre.mono ?_
        rintro e w2 ⟨rfl, rfl⟩
        clear hre
        go_wp2
        go_roundw
        case rel => exact ⟨n + 1, by omega, by go_num, hb⟩
        case measure => simp [intOf]; omega
      · have hnm : n = m := by omega
        subst hnm
        rw [HEND.out hltx] at hre
        generalize zs[n] = xk at d1 hre
        simp only [Bool.not_false] at hre
        have hf2 := hf1.below hb
        have j0 := hf2.c0
        have j1 := hf2.c1
        have jz := hf2.fz
        clear hf1 hf2
        go_wp2_with fail
        refine hre.mono ?_
        rintro e w2 ⟨rfl, rfl⟩
        clear hre d1
        go_wp2
        refine bodyPost_ret (v := .tuple #[.string ⟨#[]⟩, .agg #[.int .i64 2, .int .i64 n]]) (by simp [results, Tryz.results26, go_sem, j0, j1]) rfl (Or.inr ⟨hltx, rfl, ?_⟩)
        exact (hBr.setCell (by simp) _).setCell (by simp) _
    · have hn' : n = L := by omega
      subst hn'
      have hmL : m = n := by omega
      have hall := HALL.out (by rw [HX.out]; exact hmL)
      have HOK : Hid (∀ x ∈ riseZ zs, inNum x = true) := hall
      have HLL : Hid (∀ k, (linesG goneK ((riseZ zs).take k)).length ≤ 33 * k) := fun k => by
        have h1 := linesG_len gone_fine ((riseZ zs).take k) (fun x hxx => hall x (List.mem_of_mem_take hxx))
        rw [List.length_take] at h1
        omega
      have hinE := ends_inG gone_fine hall
      rw [keysG_gone] at hinE
      have HFL : Hid (bytesOf (headL (⟨#[103, 111, 110, 101]⟩ : ByteArray).data.toList (riseZ zs).length (endsZ (riseZ zs)).1 (endsZ (riseZ zs)).2 (sumL (linesG goneK (riseZ zs))) ++ 10 :: linesG goneK (riseZ zs)) = bytesOf (goneF (riseZ zs))) := by
        show _ = _
        have e : goneF (riseZ zs) = headL kGone (riseZ zs).length (endsZ (keysG goneK (riseZ zs))).1 (endsZ (keysG goneK (riseZ zs))).2 (sumL (linesG goneK (riseZ zs))) ++ 10 :: linesG goneK (riseZ zs) := rfl
        rw [e, keysG_gone]
        rfl
      have HKW : Hid (∀ W, Below wr.heap.size wr W → KeysAt W (.slice q1 L1 c1) (riseZ zs)) := fun W hW => (HK1.out.below hb).below hW
      clear hall
      generalize hSS : riseZ zs = S at HOK HLL HFL HKW HL1 hinE
      have HSS : Hid (riseZ zs = S) := hSS
      clear hSS
      have hfr := hf1.below hb
      clear hf1
      generalize wr = w2 at *
      go_wp2
      go_loopw [7, 8] (fun bd k w3 => ∃ i : Nat, i ≤ L1 ∧ k = .int .i64 i ∧ Below w2.heap.size w2 w3 ∧ bd = .string (bytesOf (linesG goneK (S.take i)))) (fun _ k _ => L1 - (intOf k).toNat)
      case atStart => exact ⟨0, by omega, rfl, Below.refl _ _, rfl⟩
      case round =>
        obtain ⟨i, hin, rfl, hb3, rfl⟩ := hrel
        by_cases hilt : i < L1
        · have hix : i < S.length := by rw [HL1.out]; exact hilt
          rcases HKW.out wr hb3 with ⟨_, _, e, e'⟩ | ⟨b, o, cap2, e, hcells⟩
          · exfalso; rw [e'] at hix; simp at hix
          injection e with e1 e2 e3
          subst e1
          clear e2 e3
          have d1 := hcells i hix
          clear hcells
          have hi : (i : Int) < (L1 : Int) := by omega
          have hi0 : (0 : Int) ≤ (i : Int) := by omega
          have hr0 := HOK.out S[i] (List.getElem_mem _)
          have htl : (bytesOf (itoa S[i])).size ≤ 32 := by rw [bytes_len]; exact gone_fine.len _ hr0
          simp only [inNum, Bool.and_eq_true, decide_eq_true_eq] at hr0
          have hrt := decimal_any S[i] wr (by omega) (by omega)
          have hbl : (bytesOf (linesG goneK (S.take i))).size ≤ 33 * i := by rw [bytes_len]; exact HLL.out i
          have HT : Hid (bytesOf (linesG goneK (S.take i)) ++ bytesOf (itoa S[i]) ++ ⟨#[10]⟩ = bytesOf (linesG goneK (S.take (i + 1)))) := by
            show _ = _
            apply part_ext
            rw [klines_take S i hix]
            simp [bytesOf, ByteArray.data_append]
          generalize bytesOf (linesG goneK (S.take i)) = B0 at hbl HT ⊢
          generalize S[i] = x at d1 hrt htl HT
          generalize bytesOf (itoa x) = tx at hrt htl HT
          clear hix hr0
          go_wp2_with fail
          refine hrt.mono ?_
          rintro e w4 ⟨rfl, hg4⟩
          clear hrt
          have hb4 := hg4.below
          have hb5 : Below w2.heap.size w2 w4 := hb3.trans (hb4.mono hb3.size)
          go_wp2
          go_roundw
          case rel => exact ⟨i + 1, by omega, by go_num, hb5, by rw [HT.out]⟩
          case measure => simp [intOf]; omega
        · have hin' : i = L1 := by omega
          subst hin'
          have hta : S.take i = S := List.take_of_length_le (by rw [HL1.out]; exact Nat.le_refl _)
          have hll := HLL.out i
          rw [hta] at hll ⊢
          have hB3 : Below w.heap.size w wr := hBr.trans (hb3.mono hBr.size)
          have hw5 := wholeText_any ⟨#[103, 111, 110, 101]⟩ (by decide) (.slice q1 i c1) S (bytesOf (linesG goneK S)) wr (HKW.out wr hb3) (by rw [HL1.out]; omega) (by rw [bytes_len]; omega) (by have := hinE.1; simp only [inNum, Bool.and_eq_true, decide_eq_true_eq] at this; omega) (by have := hinE.2; simp only [inNum, Bool.and_eq_true, decide_eq_true_eq] at this; omega)
          have eBd : (bytesOf (linesG goneK S)).data.toList = linesG goneK S := by simp [bytesOf]
          rw [eBd, HFL.out] at hw5
          generalize hTT : bytesOf (goneF S) = T at hw5
          have HTT : Hid (bytesOf (goneF S) = T) := hTT
          clear hTT
          generalize bytesOf (linesG goneK S) = BD at hw5 ⊢
          clear hta hll hinE eBd
          go_wp2_with fail
          refine hw5.mono ?_
          rintro e w6 ⟨rfl, hb6⟩
          clear hw5
          have hfin := fine_of w6
          go_wp2_with fail
          refine hfin.mono ?_
          rintro e w7 ⟨rfl, hb7⟩
          clear hfin
          have hB6 : Below w.heap.size w w6 := hB3.trans (hb6.mono hB3.size)
          have hB : Below w.heap.size w w7 := hB6.trans (hb7.mono hB6.size)
          have hf7 := ((hfr.below hb3).below hb6).below hb7
          have j0 := hf7.c0
          have j1 := hf7.c1
          have jz := hf7.fz
          clear hfr
          go_wp2
          refine bodyPost_ret (v := .tuple #[.string T, .agg #[.int .i64 0, .int .i64 (-1)]]) (by simp [results, Tryz.results26, go_sem, j0, j1]) rfl (Or.inl ⟨by rw [HX.out]; exact hmL, by rw [HSS.out, HTT.out], ?_⟩)
          exact (hB.setCell (by simp) _).setCell (by simp) _
end Go.Proofs.YtgffkkijfmoooabGreatDoor
