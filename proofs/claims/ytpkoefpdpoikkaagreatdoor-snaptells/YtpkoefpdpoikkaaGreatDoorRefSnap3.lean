/-
  The contract of the document's own ReadSnap.
-/
import Derived.Test.YtpkoefpdpoikkaaGreatDoorSnapTold
import Derived.Deep.RegionWith
namespace Go.Proofs.YtpkoefpdpoikkaaGreatDoor
open Go.RowKit Go.Extern.Stop Go.Stop Go.Extern Go.Sort Go.Shelf Go.Lib

set_option maxRecDepth 100000 in
set_option maxHeartbeats 16000000 in
theorem readSnap_any (s : ByteArray) (w : World) (hs : s.size ≤ maxLen) :
    Calls Tryz.prog 55 #[.string s] w (ReadSP w (readS s.data.toList)) := by
  unfold maxLen at hs
  have hszl := size_list s
  have hal : Below w.heap.size w ((w.alloc (.cells #[.int .i64 0, .int .i64 0, .int .i64 0, .int .i64 0, .int .i64 0, .string ⟨#[]⟩, .slice none 0 0] 74)).alloc (.cells #[.int .i64 0, .int .i64 0] 64)) := ((Below.refl _ _).alloc (Nat.le_refl _) _).alloc (by simp) _
  have hz0 : SnAt ((w.alloc (.cells #[.int .i64 0, .int .i64 0, .int .i64 0, .int .i64 0, .int .i64 0, .string ⟨#[]⟩, .slice none 0 0] 74)).alloc (.cells #[.int .i64 0, .int .i64 0] 64)) w.heap.size zeroS (.slice none 0 0) := heap_alloc2_old w _ _
  have hf0 : FC ((w.alloc (.cells #[.int .i64 0, .int .i64 0, .int .i64 0, .int .i64 0, .int .i64 0, .string ⟨#[]⟩, .slice none 0 0] 74)).alloc (.cells #[.int .i64 0, .int .i64 0] 64)) (w.heap.size + 1) 0 0 := heap_alloc2_new w _ _
  have hle0 : w.heap.size ≤ w.heap.size := Nat.le_refl _
  have hle1 : w.heap.size ≤ w.heap.size + 1 := Nat.le_succ _
  have ZERO : Hid (∀ W, SnAt W w.heap.size zeroS (.slice none 0 0) → W.cell? ⟨w.heap.size, 0, none⟩ = some (.int .i64 0) ∧ W.cell? ⟨w.heap.size, 1, none⟩ = some (.int .i64 0) ∧ W.cell? ⟨w.heap.size, 2, none⟩ = some (.int .i64 0) ∧ W.cell? ⟨w.heap.size, 3, none⟩ = some (.int .i64 0) ∧ W.cell? ⟨w.heap.size, 4, none⟩ = some (.int .i64 0) ∧ W.cell? ⟨w.heap.size, 5, none⟩ = some (.string ⟨#[]⟩) ∧ W.cell? ⟨w.heap.size, 6, none⟩ = some (.slice none 0 0) ∧ ∀ o, W.frozen? ⟨w.heap.size, o, none⟩ = false) := fun W hW => by
    obtain ⟨a0, a1, a2, a3, a4, a5, a6⟩ := hW.cells
    exact ⟨a0, a1, a2, a3, a4, a5, a6, fun o => hW.fz o⟩
  generalize hR : readS s.data.toList = R
  have HR : Hid (readS s.data.toList = R) := hR
  clear hR
  by_cases hbig : 20000 < s.size
  · have hRR : R = (zeroS, 2, none) := by rw [← HR.out]; exact readS_big (by omega)
    subst hRR
    have hb' : (20000 : Int) < (s.size : Int) := by omega
    clear HR
    go_enter Tryz.func55, Tryz.ntmps55
    go_upto_region 1 with fail
    generalize (w.alloc (.cells #[.int .i64 0, .int .i64 0, .int .i64 0, .int .i64 0, .int .i64 0, .string ⟨#[]⟩, .slice none 0 0] 74)).alloc (.cells #[.int .i64 0, .int .i64 0] 64) = WA at hal hz0 hf0 ⊢
    have hbr := bare_of 2 WA
    go_wp2_with fail
    refine hbr.mono ?_
    rintro e wb ⟨rfl, hbb⟩
    clear hbr
    have hBb : Below w.heap.size w wb := hal.trans (hbb.mono hal.size)
    have hzb := hz0.below hbb
    have hfb := hf0.below hbb
    obtain ⟨y0, y1, y2, y3, y4, y5, y6, yf⟩ := ZERO.out wb hzb
    have s0 := setCell_self y0
    have s1 := setCell_self y1
    have s2 := setCell_self y2
    have s3 := setCell_self y3
    have s4 := setCell_self y4
    have s5 := setCell_self y5
    have s6 := setCell_self y6
    have j0 := hfb.c0
    have j1 := hfb.c1
    have jz := hfb.fz
    clear hzb hfb hbb
    go_wp2
    refine bodyPost_ret (v := .tuple #[.agg #[.int .i64 0, .int .i64 0, .int .i64 0, .int .i64 0, .int .i64 0, .string ⟨#[]⟩, .slice none 0 0], .agg #[.int .i64 2, .int .i64 (-1)]]) (by simp [results, Tryz.results55, go_sem, y0, y1, y2, y3, y4, y5, y6, j0, j1]) rfl ?_
    exact ⟨.slice none 0 0, rfl, Or.inl ⟨none, 0, rfl, fun _ => rfl, rfl⟩, (hBb.setCell hle1 _).setCell hle1 _⟩
  have hb' : ¬ (20000 : Int) < (s.size : Int) := by omega
  rcases cut_cases 10 s.data.toList with ⟨hno, hcut⟩ | ⟨a, b, hab, hna, hcut⟩
  · have hRR : R = (zeroS, 1, none) := by rw [← HR.out]; exact readS_none (by omega) hcut
    subst hRR
    have HNO : Hid (∀ c ∈ s.data.toList, c ≠ 10) := hno
    have hcu := fun W => cutText_any s W (by omega)
    clear hno hcut HR
    go_enter Tryz.func55, Tryz.ntmps55
    go_wp2
    go_loop [4] (fun k => ∃ n : Nat, n ≤ s.size ∧ k = .int .i64 n) (fun k => s.size - (intOf k).toNat)
    case atStart => exact ⟨0, Nat.zero_le _, rfl⟩
    case round =>
      obtain ⟨n, hn, rfl⟩ := hrel
      by_cases hlt : n < s.size
      · have hi : (n : Int) < (s.size : Int) := by omega
        have hi0 : (0 : Int) ≤ (n : Int) := by omega
        have hne : ¬ (s[n].toNat : Int) = 10 := fun e => HNO.out s[n] (List.mem_iff_getElem?.2 ⟨n, byte_list s n hlt⟩) (UInt8.toNat_inj.1 (by have e10 : (10 : UInt8).toNat = 10 := rfl; omega))
        clear hcu
        go_wp2
        go_round
        case rel => exact ⟨n + 1, by omega, by go_num⟩
        case measure => simp [intOf]; omega
      · obtain rfl : n = s.size := by omega
        generalize (w.alloc (.cells #[.int .i64 0, .int .i64 0, .int .i64 0, .int .i64 0, .int .i64 0, .string ⟨#[]⟩, .slice none 0 0] 74)).alloc (.cells #[.int .i64 0, .int .i64 0] 64) = WA at hal hz0 hf0 ⊢
        have hcu1 := hcu WA
        clear hcu
        have hex : s.extract 0 s.size = s := by
          apply ByteArray.ext
          simp
        go_wp2_with fail
        first | with_reducible refine hcu1.mono ?_ | (rw [hex]; with_reducible refine hcu1.mono ?_)
        rintro e w1 ⟨v1, ts, rfl, htx, hts, hb1⟩
        clear hcu1 hex
        obtain ⟨b1, c1, rfl, hc1, hcell⟩ := htx
        have hB1 : Below w.heap.size w w1 := hal.trans (hb1.mono hal.size)
        have hz1 := hz0.below hb1
        have hf1 := hf0.below hb1
        generalize ts.length = N at hc1 ⊢
        clear hal hz0 hf0 hb1 hcell hts
        have hbr := bare_of 1 w1
        go_wp2_with fail
        refine hbr.mono ?_
        rintro e wb ⟨rfl, hbb⟩
        clear hbr
        have hBb : Below w.heap.size w wb := hB1.trans (hbb.mono hB1.size)
        have hzb := hz1.below hbb
        have hfb := hf1.below hbb
        obtain ⟨y0, y1, y2, y3, y4, y5, y6, yf⟩ := ZERO.out wb hzb
        have s0 := setCell_self y0
        have s1 := setCell_self y1
        have s2 := setCell_self y2
        have s3 := setCell_self y3
        have s4 := setCell_self y4
        have s5 := setCell_self y5
        have s6 := setCell_self y6
        have j0 := hfb.c0
        have j1 := hfb.c1
        have jz := hfb.fz
        clear hzb hfb hbb
        go_wp2
        refine bodyPost_ret (v := .tuple #[.agg #[.int .i64 0, .int .i64 0, .int .i64 0, .int .i64 0, .int .i64 0, .string ⟨#[]⟩, .slice none 0 0], .agg #[.int .i64 1, .int .i64 (-1)]]) (by simp [results, Tryz.results55, go_sem, y0, y1, y2, y3, y4, y5, y6, j0, j1]) rfl ?_
        exact ⟨.slice none 0 0, rfl, Or.inl ⟨none, 0, rfl, fun _ => rfl, rfl⟩, (hBb.setCell hle1 _).setCell hle1 _⟩
  have hlen : s.size = a.length + 1 + b.length := by rw [← hszl, hab]; simp; omega
  have hat : ∀ (h : a.length < s.size), s[a.length].toNat = 10 := fun h => by
    have h1 := byte_list s a.length h
    rw [hab, List.getElem?_append_right (Nat.le_refl _), Nat.sub_self] at h1
    have h2 : s[a.length] = 10 := (Option.some.inj h1).symm
    rw [h2]; rfl
  have HBE : Hid (∀ n (h : n < a.length) (h' : n < s.size), ¬ (s[n].toNat : Int) = 10) := fun n h h' e => by
    have h1 := byte_list s n h'
    rw [hab, List.getElem?_append_left h] at h1
    exact hna s[n] (List.mem_iff_getElem?.2 ⟨n, h1⟩) (UInt8.toNat_inj.1 (by have e10 : (10 : UInt8).toNat = 10 := rfl; omega))
  have hxa : (s.extract 0 a.length).data.toList = a := by
    rw [extract_data, hab]; simp
  have hxb : (s.extract (a.length + 1) s.size).data.toList = b := by
    rw [extract_to_end, hab, List.drop_append, List.drop_eq_nil_of_le (by omega)]
    simp
  have hD := readS_cut (l := s.data.toList) (by omega) hcut
  rw [HR.out] at hD
  have hcu := fun W => cutText_any (s.extract 0 a.length) W (by rw [← size_list, hxa]; omega)
  have hsu := fun W => sumOf_low (s.extract (a.length + 1) s.size) W (by rw [← size_list, hxb]; unfold maxLen; omega)
  have hrl := fun W => readList_any (s.extract (a.length + 1) s.size) W (by rw [← size_list, hxb]; omega)
  rw [hxa] at hcu
  rw [hxb] at hsu hrl
  have HD : Hid (R = match snapO a with
    | none => (zeroS, 1, none)
    | some (x1, x2, x3, x4, x5, op, g) => if g ≠ sumL b then (zeroS, 10, none) else
      if (readL b).2.1 ≠ 0 then (zeroS, (readL b).2) else
      if (snapE (x1, x2, x3, x4, x5, bytesOf op, (readL b).1)).1 ≠ 0 then (zeroS, snapE (x1, x2, x3, x4, x5, bytesOf op, (readL b).1)) else
      ((x1, x2, x3, x4, x5, bytesOf op, (readL b).1), 0, none)) := hD
  have HWL : Hid (∀ t ∈ words a, t.length ≤ a.length) := words_len a
  have HRL : Hid ((readL b).1.length ≤ b.length ∧ ∀ f ∈ (readL b).1, f.1.size ≤ 100000 ∧ f.2.1.size ≤ 100000) := ⟨readL_len2 b, readL_sizes b⟩
  clear hD hcut hab hna hxa hxb hszl HR
  obtain ⟨A, hA⟩ : ∃ A, a.length = A := ⟨_, rfl⟩
  have HA : Hid (a.length = A) := hA
  rw [hA] at hlen hat hcu hsu hrl HBE
  clear hA
  have hAs : A < s.size := by omega
  have HB20 : Hid (b.length ≤ 20000) := by show _ ≤ _; omega
  clear hlen
  go_enter Tryz.func55, Tryz.ntmps55
  go_wp2
  go_loop [4] (fun k => ∃ n : Nat, n ≤ A ∧ k = .int .i64 n) (fun k => s.size - (intOf k).toNat)
  case atStart => exact ⟨0, Nat.zero_le _, rfl⟩
  case round =>
    obtain ⟨n, hn, rfl⟩ := hrel
    have hlt : n < s.size := by omega
    have hi : (n : Int) < (s.size : Int) := by omega
    have hi0 : (0 : Int) ≤ (n : Int) := by omega
    by_cases hnA : n < A
    · have hne := HBE.out n hnA hlt
      clear hcu hsu hrl
      go_wp2
      go_round
      case rel => exact ⟨n + 1, by omega, by go_num⟩
      case measure => simp [intOf]; omega
    obtain rfl : n = A := by omega
    have heq : (s[n].toNat : Int) = 10 := by have := hat hlt; omega
    have hnl : ¬ (n : Int) = (s.size : Int) := by omega
    have hi1 : (n : Int) ≤ (s.size : Int) := by omega
    have hi2 : (n : Int) + 1 ≤ (s.size : Int) := by omega
    have hi3 : (0 : Int) ≤ (n : Int) + 1 := by omega
    have hi4 : IntKind.i64.wrap ((n : Int) + 1) = (n : Int) + 1 := IntWalk.i64_in _ (by omega)
    have hi5 : ((n : Int) + 1).toNat = n + 1 := by omega
    clear hat hn hnA
    generalize (w.alloc (.cells #[.int .i64 0, .int .i64 0, .int .i64 0, .int .i64 0, .int .i64 0, .string ⟨#[]⟩, .slice none 0 0] 74)).alloc (.cells #[.int .i64 0, .int .i64 0] 64) = WA at hal hz0 hf0 ⊢
    have hcu1 := hcu WA
    clear hcu
    go_wp2_with fail
    with_reducible refine hcu1.mono ?_
    rintro e w1 ⟨v1, ts, rfl, htx, hts, hb1⟩
    clear hcu1
    obtain ⟨b1, c1, rfl, hc1, hcell⟩ := htx
    have hB1 : Below w.heap.size w w1 := hal.trans (hb1.mono hal.size)
    have hz1 := hz0.below hb1
    have hf1 := hf0.below hb1
    clear hal hz0 hf0 hb1
    by_cases h8 : ts.length = 8
    · obtain ⟨T0, T1, T2, T3, T4, T5, T6, T7, rfl⟩ := eight h8
      have hw : words a = [T0.data.toList, T1.data.toList, T2.data.toList, T3.data.toList, T4.data.toList, T5.data.toList, T6.data.toList, T7.data.toList] := by rw [← hts]; rfl
      have HSO : Hid (snapO a = match sixO T1.data.toList T2.data.toList T3.data.toList T4.data.toList T5.data.toList T7.data.toList with
        | some (x1, x2, x3, x4, x5, g) => if T0.data.toList = kSnap then some (x1, x2, x3, x4, x5, T6.data.toList, g) else none
        | none => none) := snapO_eight hw
      have hwz : ∀ t ∈ [T0, T1, T2, T3, T4, T5, T6, T7], t.size ≤ 100000 := fun t ht => by
        have := HWL.out t.data.toList (by rw [← hts]; exact List.mem_map.2 ⟨t, ht, rfl⟩)
        rw [size_list, HA.out] at this
        omega
      have e0 := hcell 0 (by simp)
      have e6 := hcell 6 (by simp)
      have e7 := hcell 7 (by simp)
      simp only [List.getElem_cons_succ, List.getElem_cons_zero] at e0 e6 e7
      have h7s := hwz T7 (by simp)
      have h6s := hwz T6 (by simp)
      have hnm := numbersOf_list b1 1 (c1 - 1) [T1, T2, T3, T4, T5] w1 (fun j hj => by
        have hj5 : j < 5 := by simpa using hj
        have hj' : j + 1 < [T0, T1, T2, T3, T4, T5, T6, T7].length := by simp; omega
        have := hcell (j + 1) hj'
        rw [Nat.add_comm 1 j]
        rw [this]
        obtain rfl | rfl | rfl | rfl | rfl : j = 0 ∨ j = 1 ∨ j = 2 ∨ j = 3 ∨ j = 4 := by omega
        all_goals rfl) (fun t ht => by
          have := hwz t (by
            simp only [List.mem_cons, List.not_mem_nil, or_false] at ht ⊢
            rcases ht with rfl | rfl | rfl | rfl | rfl <;> simp)
          unfold maxLen; omega) (by simp)
      have hnu := fun W => numberOf_any T7 W (by unfold maxLen; omega)
      simp only [List.length_cons, List.length_nil, Nat.zero_add, Nat.reduceAdd] at hnm hc1 ⊢
      have k1 : (6 : Int) ≤ (c1 : Int) := by omega
      have k2 : (8 : Int) ≤ (c1 : Int) := by omega
      have k3 : ¬ c1 = 1 := by omega
      clear hw hts hcell h8 hwz
      go_wp2_with fail
      with_reducible refine hnm.mono ?_
      rintro e w3 ⟨hres, hb3⟩
      clear hnm
      have hB3 : Below w.heap.size w w3 := hB1.trans (hb3.mono hB1.size)
      have hz3 := hz1.below hb3
      have hf3 := hf1.below hb3
      replace e0 := below_keep hb3 e0
      replace e6 := below_keep hb3 e6
      replace e7 := below_keep hb3 e7
      have hnu3 := hnu w3
      clear hnu hz1 hf1 hb3 hB1
      rcases hres with ⟨zs, kv, hzl, hzn, rfl, hka⟩ | ⟨j, t, ht, hno, rfl⟩
      · obtain ⟨x1, x2, x3, x4, x5, hz5⟩ := five (l := zs) hzl
        subst hz5
        have n1 := hzn 0 T1 rfl
        have n2 := hzn 1 T2 rfl
        have n3 := hzn 2 T3 rfl
        have n4 := hzn 3 T4 rfl
        have n5 := hzn 4 T5 rfl
        simp only [List.getElem?_cons_zero, List.getElem?_cons_succ] at n1 n2 n3 n4 n5
        clear hzn hzl
        cases hn7 : numO T7.data.toList with
        | none =>
          have hRR : R = (zeroS, 1, none) := by rw [HD.out, HSO.out, six_bad (Or.inr (Or.inr (Or.inr (Or.inr (Or.inr hn7)))))]
          subst hRR
          have hnr : numR T7.data.toList = (.int .i64 0, false) := by unfold numR; rw [hn7]
          rw [hnr] at hnu3
          dsimp only at hnu3
          clear n1 n2 n3 n4 n5 hn7 hnr HSO HD hsu hrl hka
          go_wp2_with fail
          with_reducible refine hnu3.mono ?_
          rintro e w4 ⟨rfl, rfl⟩
          clear hnu3
          have hbr := bare_of 1 w4
          go_wp2_with fail
          refine hbr.mono ?_
          rintro e wb ⟨rfl, hbb⟩
          clear hbr
          have hBb : Below w.heap.size w wb := hB3.trans (hbb.mono hB3.size)
          have hzb := hz3.below hbb
          have hfb := hf3.below hbb
          obtain ⟨y0, y1, y2, y3, y4, y5, y6, yf⟩ := ZERO.out wb hzb
          have s0 := setCell_self y0
          have s1 := setCell_self y1
          have s2 := setCell_self y2
          have s3 := setCell_self y3
          have s4 := setCell_self y4
          have s5 := setCell_self y5
          have s6 := setCell_self y6
          have j0 := hfb.c0
          have j1 := hfb.c1
          have jz := hfb.fz
          clear hzb hfb hbb
          go_wp2
          refine bodyPost_ret (v := .tuple #[.agg #[.int .i64 0, .int .i64 0, .int .i64 0, .int .i64 0, .int .i64 0, .string ⟨#[]⟩, .slice none 0 0], .agg #[.int .i64 1, .int .i64 (-1)]]) (by simp [results, Tryz.results55, go_sem, y0, y1, y2, y3, y4, y5, y6, j0, j1]) rfl ?_
          exact ⟨.slice none 0 0, rfl, Or.inl ⟨none, 0, rfl, fun _ => rfl, rfl⟩, (hBb.setCell hle1 _).setCell hle1 _⟩
        | some g =>
          have hnr : numR T7.data.toList = (.int .i64 g, true) := by unfold numR; rw [hn7]
          rw [hnr] at hnu3
          dsimp only at hnu3
          have h6 := six_good n1 n2 n3 n4 n5 hn7
          rw [h6] at HSO
          clear n1 n2 n3 n4 n5 hn7 hnr h6
          by_cases hk : T0.data.toList = kSnap
          · have HSM : Hid (snapO a = some (x1, x2, x3, x4, x5, T6.data.toList, g)) := by
              show _ = _
              rw [HSO.out]
              exact if_pos hk
            have dk : (T0.toList == [115, 110, 97, 112]) = true := eqB_of hk
            have hsu3 := hsu w3
            clear HSO hk hsu
            go_wp2_with fail
            with_reducible refine hnu3.mono ?_
            rintro e w4 ⟨rfl, rfl⟩
            clear hnu3
            go_wp2_with fail
            with_reducible refine hsu3.mono ?_
            rintro e w5 ⟨rfl, hb5⟩
            clear hsu3
            have hB5 : Below w.heap.size w w5 := hB3.trans (hb5.mono hB3.size)
            have hz5 := hz3.below hb5
            have hf5 := hf3.below hb5
            replace e6 := below_keep hb5 e6
            have hka5 : KeysAt w5 kv [x1, x2, x3, x4, x5] := hka.below hb5
            have hrl5 := hrl w5
            have HDD := HD.out
            rw [HSM.out] at HDD
            dsimp only at HDD
            rw [bytesOf_data] at HDD
            clear hz3 hf3 hb5 hB3 hrl HSM HD e0 e7 hka dk
            by_cases hg : g = (sumL b : Nat)
            · rw [if_neg (by simpa using hg)] at HDD
              have dg : (g == ((sumL b : Nat) : Int)) = true := by simp [hg]
              generalize hRL : readL b = RL at hrl5 HDD HRL
              obtain ⟨fs, EC, EA⟩ := RL
              dsimp only at hrl5 HDD HRL
              have HDE : Hid (R = if EC ≠ 0 then (zeroS, (EC, EA)) else if (snapE (x1, x2, x3, x4, x5, T6, fs)).1 ≠ 0 then (zeroS, snapE (x1, x2, x3, x4, x5, T6, fs)) else ((x1, x2, x3, x4, x5, T6, fs), 0, none)) := HDD
              clear HDD hRL
              go_wp2_with fail
              with_reducible refine hrl5.mono ?_
              rintro e w6 ⟨v6, rfl, hv6, hb6⟩
              clear hrl5
              have hB6 : Below w.heap.size w w6 := hB5.trans (hb6.mono hB5.size)
              have hz6 := hz5.below hb6
              have hf6 := hf5.below hb6
              have hka6 : KeysAt w6 kv [x1, x2, x3, x4, x5] := hka5.below hb6
              replace e6 := below_keep hb6 e6
              have hF2 : w.heap.size + 1 < w6.heap.size := hf6.lt
              obtain ⟨qv, cv, hvv⟩ := hv6.form
              subst hvv
              obtain ⟨L, hL⟩ : ∃ L, fs.length = L := ⟨_, rfl⟩
              have HL : Hid (fs.length = L) := hL
              rw [hL] at hv6 ⊢
              clear hL hz5 hf5 hb6 hB5 hka5
              have hal7 : Below w6.heap.size w6 (w6.alloc (.cells #[.int .i64 (EC : Int), .int .i64 (atZ EA)] 64)) := (Below.refl _ _).alloc (Nat.le_refl _) _
              have hB7 : Below w.heap.size w (w6.alloc (.cells #[.int .i64 (EC : Int), .int .i64 (atZ EA)] 64)) := hB6.trans (hal7.mono hB6.size)
              have hz7 := hz6.below hal7
              have hf7 := hf6.below hal7
              have hg7 : FC (w6.alloc (.cells #[.int .i64 (EC : Int), .int .i64 (atZ EA)] 64)) w6.heap.size EC (atZ EA) := heap_alloc_new _ _
              have hv7 := hv6.below hal7
              have hka7 : KeysAt _ kv [x1, x2, x3, x4, x5] := hka6.below hal7
              replace e6 := below_keep hal7 e6
              clear hz6 hf6 hB6 hv6 hka6 hal7
              go_upto_region 16 with fail
              generalize w6.alloc (.cells #[.int .i64 (EC : Int), .int .i64 (atZ EA)] 64) = W7 at hB7 hz7 hf7 hg7 hv7 hka7 e6 ⊢
              generalize w6.heap.size = F2 at hF2 hg7 ⊢
              by_cases hE : EC = 0
              · subst hE
                have hL20 : L ≤ 20000 := by
                  have h1 := HRL.out.1
                  have h2 := HB20.out
                  rw [HL.out] at h1
                  omega
                have hsf := fun W (hb : Below W7.heap.size W7 W) => snapFault_any (x1, x2, x3, x4, x5, T6, fs) (.slice qv L cv) W (hv7.below hb) (by show fs.length ≤ 20000; rw [HL.out]; exact hL20) HRL.out.2
                unfold snV at hsf
                generalize snapE (x1, x2, x3, x4, x5, T6, fs) = SE at hsf HDE
                obtain ⟨XC, XA⟩ := SE
                dsimp only at hsf
                obtain ⟨g0, o0, kc, rfl, hzc⟩ : ∃ g0 o0 kc, kv = .slice (some ⟨g0, o0, none⟩) 5 kc ∧ ∀ j (h : j < [x1, x2, x3, x4, x5].length), W7.cell? ⟨g0, o0 + j, none⟩ = some (.int .i64 [x1, x2, x3, x4, x5][j]) := by
                  rcases hka7 with ⟨_, _, _, e⟩ | hka
                  · cases e
                  · exact hka
                have z1 := hzc 0 (by simp)
                have z2 := hzc 1 (by simp)
                have z3 := hzc 2 (by simp)
                have z4 := hzc 3 (by simp)
                have z5 := hzc 4 (by simp)
                simp only [List.getElem_cons_succ, List.getElem_cons_zero, Nat.add_zero] at z1 z2 z3 z4 z5
                have hbd : Below W7.heap.size W7 W7.drew := (Below.refl _ _).drew
                have hbz : Below W7.heap.size W7 ((W7.alloc (.cells #[.int .i64 0, .int .i64 0, .int .i64 0, .int .i64 0, .int .i64 0, .string ⟨#[]⟩, .slice none 0 0] 74)).drew) := ((Below.refl _ _).alloc (Nat.le_refl _) _).drew
                have hbf : Below W7.heap.size W7 ((W7.alloc (.cells #[.int .i64 x1, .int .i64 x2, .int .i64 x3, .int .i64 x4, .int .i64 x5, .string T6, .slice qv L cv] 74)).drew) := ((Below.refl _ _).alloc (Nat.le_refl _) _).drew
                have c0' := hg7.c0
                clear hzc
                go_wp2_with fail
                go_region_held3 (fun w' => w'.cell? ⟨b1, 6, none⟩ = some (.string T6) ∧ w'.cell? ⟨g0, o0, none⟩ = some (.int .i64 x1) ∧ w'.cell? ⟨g0, o0 + 1, none⟩ = some (.int .i64 x2) ∧ w'.cell? ⟨g0, o0 + 2, none⟩ = some (.int .i64 x3) ∧ w'.cell? ⟨g0, o0 + 3, none⟩ = some (.int .i64 x4) ∧ w'.cell? ⟨g0, o0 + 4, none⟩ = some (.int .i64 x5) ∧ Below W7.heap.size W7 w')
                  (first
                    | with_reducible exact ⟨below_keep hbd e6, below_keep hbd z1, below_keep hbd z2, below_keep hbd z3, below_keep hbd z4, below_keep hbd z5, hbd⟩
                    | with_reducible exact ⟨below_keep hbz e6, below_keep hbz z1, below_keep hbz z2, below_keep hbz z3, below_keep hbz z4, below_keep hbz z5, hbz⟩
                    | with_reducible exact ⟨below_keep hbf e6, below_keep hbf z1, below_keep hbf z2, below_keep hbf z3, below_keep hbf z4, below_keep hbf z5, hbf⟩)
                  (fail)
                go_split_ands
                have hsX : SnAt ((W7.alloc (.cells #[.int .i64 x1, .int .i64 x2, .int .i64 x3, .int .i64 x4, .int .i64 x5, .string T6, .slice qv L cv] 74)).drew) W7.heap.size (x1, x2, x3, x4, x5, T6, fs) (.slice qv L cv) := (SnAt.new W7 (x1, x2, x3, x4, x5, T6, fs) (.slice qv L cv)).below (Below.refl _ _).drew
                have hz8 := hz7.below hbf
                have hf8 := hf7.below hbf
                have hg8 := hg7.below hbf
                have hv8 := hv7.below hbf
                have hB8 : Below w.heap.size w ((W7.alloc (.cells #[.int .i64 x1, .int .i64 x2, .int .i64 x3, .int .i64 x4, .int .i64 x5, .string T6, .slice qv L cv] 74)).drew) := hB7.trans (hbf.mono hB7.size)
                have hsf8 := hsf _ hbf
                have hF1X : w.heap.size + 1 < W7.heap.size := hf7.lt
                have hF2X : F2 < W7.heap.size := hg7.lt
                clear hsf hbd hbz hbf e6 z1 z2 z3 z4 z5 c0' hz7 hf7 hg7 hv7 hB7
                go_wp2_with fail
                generalize (W7.alloc (.cells #[.int .i64 x1, .int .i64 x2, .int .i64 x3, .int .i64 x4, .int .i64 x5, .string T6, .slice qv L cv] 74)).drew = W8 at *
                generalize W7.heap.size = BX at *
                with_reducible refine hsf8.mono ?_
                rintro e w9 ⟨rfl, hb9⟩
                clear hsf8
                have hB9 : Below w.heap.size w w9 := hB8.trans (hb9.mono hB8.size)
                have hz9 := hz8.below hb9
                have hf9 := hf8.below hb9
                have hg9 := hg8.below hb9
                have hs9 := hsX.below hb9
                have hv9 := hv8.below hb9
                have jz2 := hg9.fz
                clear hz8 hf8 hg8 hsX hv8 hb9 hB8
                have hg10 := hg9.set (XC : Int) (atZ XA)
                have hf10 : FC ((w9.setCell ⟨F2, 0, none⟩ (.int .i64 (XC : Int))).setCell ⟨F2, 1, none⟩ (.int .i64 (atZ XA))) (w.heap.size + 1) 0 0 := fc_other (fc_other hf9 (by omega) _ _) (by omega) _ _
                have hz10 : SnAt ((w9.setCell ⟨F2, 0, none⟩ (.int .i64 (XC : Int))).setCell ⟨F2, 1, none⟩ (.int .i64 (atZ XA))) w.heap.size zeroS (.slice none 0 0) := sn_other (sn_other hz9 (by omega) _ _) (by omega) _ _
                have hs10 : SnAt ((w9.setCell ⟨F2, 0, none⟩ (.int .i64 (XC : Int))).setCell ⟨F2, 1, none⟩ (.int .i64 (atZ XA))) BX (x1, x2, x3, x4, x5, T6, fs) (.slice qv L cv) := sn_other (sn_other hs9 (by omega) _ _) (by omega) _ _
                have hv10 := hg9.ne_fls hv9 0 (.int .i64 (XC : Int)) 1 (.int .i64 (atZ XA))
                have hF2w : w.heap.size ≤ F2 := by omega
                have hB10 : Below w.heap.size w ((w9.setCell ⟨F2, 0, none⟩ (.int .i64 (XC : Int))).setCell ⟨F2, 1, none⟩ (.int .i64 (atZ XA))) := (hB9.setCell hF2w _).setCell hF2w _
                have c9 := hg9.c0
                have c9' := hg9.c1
                clear hz9 hf9 hg9 hs9 hv9 hB9
                go_upto_region 20 with fail
                generalize (w9.setCell ⟨F2, 0, none⟩ (.int .i64 (XC : Int))).setCell ⟨F2, 1, none⟩ (.int .i64 (atZ XA)) = W10 at hg10 hf10 hz10 hs10 hv10 hB10 ⊢
                clear jz2 c9 c9'
                by_cases hX : XC = 0
                · subst hX
                  have hRR : R = ((x1, x2, x3, x4, x5, T6, fs), 0, none) := by rw [HDE.out, if_neg (by simp), if_neg (by simp)]
                  subst hRR
                  have hdr : Below W10.heap.size W10 W10.drew := (Below.refl _ _).drew
                  have hBd := hB10.drew
                  have hzd := hz10.below hdr
                  have hfd := hf10.below hdr
                  have hsd := hs10.below hdr
                  have hvd := hv10.below hdr
                  have c10 := hg10.c0
                  obtain ⟨p0, p1, p2, p3, p4, p5, p6⟩ := hsd.cells
                  dsimp only at p0 p1 p2 p3 p4 p5
                  clear hs10 hv10 hf10 hz10 hB10 hdr HDE hg10
                  go_wp2_with fail
                  clear c10
                  go_region_with (go_at_call 101; refine (fine_of _).mono ?_; rintro e wX ⟨rfl, hbX⟩; have hzX := hzd.below hbX; have hfX := hfd.below hbX; have xz := hzX.fz; have fz := hfX.fz; have gx0 := hfX.c0; have gx1 := hfX.c1; obtain ⟨ox0, ox1, ox2, ox3, ox4, ox5, ox6⟩ := hzX.cells; have t0 := below_keep hbX p0; have t1 := below_keep hbX p1; have t2 := below_keep hbX p2; have t3 := below_keep hbX p3; have t4 := below_keep hbX p4; have t5 := below_keep hbX p5; have t6 := below_keep hbX p6)
                  all_goals
                    have hBX : Below w.heap.size w wX := hBd.trans (hbX.mono hBd.size)
                    have hvX := hvd.below hbX
                    have hoff := off_of hzX hvX
                    have hz1 := hzX.set (x1, x2, x3, x4, x5, T6, fs) (.slice qv L cv)
                    unfold snSet at hz1
                    dsimp only at hz1
                    have hzF : SnAt (((((((((wX.setCell ⟨w.heap.size, 0, none⟩ (.int .i64 x1)).setCell ⟨w.heap.size, 1, none⟩ (.int .i64 x2)).setCell ⟨w.heap.size, 2, none⟩ (.int .i64 x3)).setCell ⟨w.heap.size, 3, none⟩ (.int .i64 x4)).setCell ⟨w.heap.size, 4, none⟩ (.int .i64 x5)).setCell ⟨w.heap.size, 5, none⟩ (.string T6)).setCell ⟨w.heap.size, 6, none⟩ (.slice qv L cv)).setCell ⟨w.heap.size + 1, 0, none⟩ (.int .i64 0)).setCell ⟨w.heap.size + 1, 1, none⟩ (.int .i64 (-1))) w.heap.size (x1, x2, x3, x4, x5, T6, fs) (.slice qv L cv) := sn_other (sn_other hz1 (by omega) _ _) (by omega) _ _
                    have hne : w.heap.size ≠ w.heap.size + 1 := by omega
                    have hf1 := (fc_other (fc_other (fc_other (fc_other (fc_other (fc_other (fc_other hfX hne 0 (.int .i64 x1)) hne 1 (.int .i64 x2)) hne 2 (.int .i64 x3)) hne 3 (.int .i64 x4)) hne 4 (.int .i64 x5)) hne 5 (.string T6)) hne 6 (.slice qv L cv))
                    have hfF : FC (((((((((wX.setCell ⟨w.heap.size, 0, none⟩ (.int .i64 x1)).setCell ⟨w.heap.size, 1, none⟩ (.int .i64 x2)).setCell ⟨w.heap.size, 2, none⟩ (.int .i64 x3)).setCell ⟨w.heap.size, 3, none⟩ (.int .i64 x4)).setCell ⟨w.heap.size, 4, none⟩ (.int .i64 x5)).setCell ⟨w.heap.size, 5, none⟩ (.string T6)).setCell ⟨w.heap.size, 6, none⟩ (.slice qv L cv)).setCell ⟨w.heap.size + 1, 0, none⟩ (.int .i64 0)).setCell ⟨w.heap.size + 1, 1, none⟩ (.int .i64 (-1))) (w.heap.size + 1) 0 (-1) := hf1.set 0 (-1)
                    have hvF : FlsAt (((((((((wX.setCell ⟨w.heap.size, 0, none⟩ (.int .i64 x1)).setCell ⟨w.heap.size, 1, none⟩ (.int .i64 x2)).setCell ⟨w.heap.size, 2, none⟩ (.int .i64 x3)).setCell ⟨w.heap.size, 3, none⟩ (.int .i64 x4)).setCell ⟨w.heap.size, 4, none⟩ (.int .i64 x5)).setCell ⟨w.heap.size, 5, none⟩ (.string T6)).setCell ⟨w.heap.size, 6, none⟩ (.slice qv L cv)).setCell ⟨w.heap.size + 1, 0, none⟩ (.int .i64 0)).setCell ⟨w.heap.size + 1, 1, none⟩ (.int .i64 (-1))) (.slice qv L cv) fs := hf1.ne_fls (((((((hvX.set_off hoff 0 _).set_off hoff 1 _).set_off hoff 2 _).set_off hoff 3 _).set_off hoff 4 _).set_off hoff 5 _).set_off hoff 6 _) 0 _ 1 _
                    have hBF : Below w.heap.size w (((((((((wX.setCell ⟨w.heap.size, 0, none⟩ (.int .i64 x1)).setCell ⟨w.heap.size, 1, none⟩ (.int .i64 x2)).setCell ⟨w.heap.size, 2, none⟩ (.int .i64 x3)).setCell ⟨w.heap.size, 3, none⟩ (.int .i64 x4)).setCell ⟨w.heap.size, 4, none⟩ (.int .i64 x5)).setCell ⟨w.heap.size, 5, none⟩ (.string T6)).setCell ⟨w.heap.size, 6, none⟩ (.slice qv L cv)).setCell ⟨w.heap.size + 1, 0, none⟩ (.int .i64 0)).setCell ⟨w.heap.size + 1, 1, none⟩ (.int .i64 (-1))) := ((((((((hBX.setCell hle0 _).setCell hle0 _).setCell hle0 _).setCell hle0 _).setCell hle0 _).setCell hle0 _).setCell hle0 _).setCell hle1 _).setCell hle1 _
                    obtain ⟨u0, u1, u2, u3, u4', u5, u6⟩ := hzF.cells
                    dsimp only at u0 u1 u2 u3 u4' u5
                    have f0 := hfF.c0
                    have f1 := hfF.c1
                    have HVF : Hid (FlsAt (((((((((wX.setCell ⟨w.heap.size, 0, none⟩ (.int .i64 x1)).setCell ⟨w.heap.size, 1, none⟩ (.int .i64 x2)).setCell ⟨w.heap.size, 2, none⟩ (.int .i64 x3)).setCell ⟨w.heap.size, 3, none⟩ (.int .i64 x4)).setCell ⟨w.heap.size, 4, none⟩ (.int .i64 x5)).setCell ⟨w.heap.size, 5, none⟩ (.string T6)).setCell ⟨w.heap.size, 6, none⟩ (.slice qv L cv)).setCell ⟨w.heap.size + 1, 0, none⟩ (.int .i64 0)).setCell ⟨w.heap.size + 1, 1, none⟩ (.int .i64 (-1))) (.slice qv L cv) fs) := hvF
                    clear hz1 hf1 hzF hfF hvF hzX hfX hvX hoff
                    go_wp2
                    refine bodyPost_ret (v := .tuple #[.agg #[.int .i64 x1, .int .i64 x2, .int .i64 x3, .int .i64 x4, .int .i64 x5, .string T6, .slice qv L cv], .agg #[.int .i64 0, .int .i64 (-1)]]) (by simp [results, Tryz.results55, go_sem, u0, u1, u2, u3, u4', u5, u6, f0, f1]) rfl ?_
                    exact ⟨.slice qv L cv, rfl, HVF.out, hBF⟩
                · have hRR : R = (zeroS, (XC, XA)) := by rw [HDE.out, if_neg (by simp), if_pos hX]
                  subst hRR
                  have hXp : (0 : Int) < (XC : Int) := by omega
                  clear HDE hs10 hv10
                  have hdr : Below W10.heap.size W10 W10.drew := (Below.refl _ _).drew
                  have hBd := hB10.drew
                  have hzd := hz10.below hdr
                  have hfd := hf10.below hdr
                  have hgd := hg10.below hdr
                  obtain ⟨y0, y1, y2, y3, y4, y5, y6, yf⟩ := ZERO.out W10 hz10
                  obtain ⟨v0, v1, v2, v3, v4, v5, v6', vf⟩ := ZERO.out W10.drew hzd
                  have s0 := setCell_self y0
                  have s1 := setCell_self y1
                  have s2 := setCell_self y2
                  have s3 := setCell_self y3
                  have s4 := setCell_self y4
                  have s5 := setCell_self y5
                  have s6 := setCell_self y6
                  have r0 := setCell_self v0
                  have r1 := setCell_self v1
                  have r2 := setCell_self v2
                  have r3 := setCell_self v3
                  have r4 := setCell_self v4
                  have r5 := setCell_self v5
                  have r6 := setCell_self v6'
                  have j0 := hf10.c0
                  have j1 := hf10.c1
                  have jz := hf10.fz
                  have m0 := hfd.c0
                  have m1 := hfd.c1
                  have mz := hfd.fz
                  have n0 := hg10.c0
                  have n1 := hg10.c1
                  have q0 := hgd.c0
                  have q1 := hgd.c1
                  clear hdr hzd hfd hgd
                  go_wp2_with fail
                  go_region
                  all_goals go_wp2
                  all_goals refine bodyPost_ret (v := .tuple #[.agg #[.int .i64 0, .int .i64 0, .int .i64 0, .int .i64 0, .int .i64 0, .string ⟨#[]⟩, .slice none 0 0], .agg #[.int .i64 (XC : Int), .int .i64 (atZ XA)]]) (by simp [results, Tryz.results55, go_sem, y0, y1, y2, y3, y4, y5, y6, j0, j1]) rfl ?_
                  all_goals refine ⟨.slice none 0 0, rfl, Or.inl ⟨none, 0, rfl, fun _ => rfl, rfl⟩, ?_⟩
                  all_goals first
                    | exact (hB10.setCell hle1 _).setCell hle1 _
                    | exact (hBd.setCell hle1 _).setCell hle1 _
                    | exact ((hB10.setCell hle1 _).setCell hle1 _).drew
              · have hRR : R = (zeroS, (EC, EA)) := by rw [HDE.out, if_pos hE]
                subst hRR
                have hEp : (0 : Int) < (EC : Int) := by omega
                clear HDE hka7 hv7 e6
                have hdr : Below W7.heap.size W7 W7.drew := (Below.refl _ _).drew
                have hBd := hB7.drew
                have hzd := hz7.below hdr
                have hfd := hf7.below hdr
                have hgd := hg7.below hdr
                obtain ⟨y0, y1, y2, y3, y4, y5, y6, yf⟩ := ZERO.out W7 hz7
                obtain ⟨v0, v1, v2, v3, v4, v5, v6', vf⟩ := ZERO.out W7.drew hzd
                have s0 := setCell_self y0
                have s1 := setCell_self y1
                have s2 := setCell_self y2
                have s3 := setCell_self y3
                have s4 := setCell_self y4
                have s5 := setCell_self y5
                have s6 := setCell_self y6
                have r0 := setCell_self v0
                have r1 := setCell_self v1
                have r2 := setCell_self v2
                have r3 := setCell_self v3
                have r4 := setCell_self v4
                have r5 := setCell_self v5
                have r6 := setCell_self v6'
                have j0 := hf7.c0
                have j1 := hf7.c1
                have jz := hf7.fz
                have m0 := hfd.c0
                have m1 := hfd.c1
                have mz := hfd.fz
                have n0 := hg7.c0
                have n1 := hg7.c1
                have q0 := hgd.c0
                have q1 := hgd.c1
                clear hdr hzd hfd hgd
                go_wp2_with fail
                go_region
                all_goals go_wp2
                all_goals refine bodyPost_ret (v := .tuple #[.agg #[.int .i64 0, .int .i64 0, .int .i64 0, .int .i64 0, .int .i64 0, .string ⟨#[]⟩, .slice none 0 0], .agg #[.int .i64 (EC : Int), .int .i64 (atZ EA)]]) (by simp [results, Tryz.results55, go_sem, y0, y1, y2, y3, y4, y5, y6, j0, j1]) rfl ?_
                all_goals refine ⟨.slice none 0 0, rfl, Or.inl ⟨none, 0, rfl, fun _ => rfl, rfl⟩, ?_⟩
                all_goals first
                  | exact (hB7.setCell hle1 _).setCell hle1 _
                  | exact (hBd.setCell hle1 _).setCell hle1 _
                  | exact ((hB7.setCell hle1 _).setCell hle1 _).drew
            · rw [if_pos hg] at HDD
              subst HDD
              have dg : (g == ((sumL b : Nat) : Int)) = false := beq_eq_false_iff_ne.2 hg
              clear hrl5 hka5 e6
              have hbr := bare_of 10 w5
              go_wp2_with fail
              refine hbr.mono ?_
              rintro e wb ⟨rfl, hbb⟩
              clear hbr
              have hBb : Below w.heap.size w wb := hB5.trans (hbb.mono hB5.size)
              have hzb := hz5.below hbb
              have hfb := hf5.below hbb
              obtain ⟨y0, y1, y2, y3, y4, y5, y6, yf⟩ := ZERO.out wb hzb
              have s0 := setCell_self y0
              have s1 := setCell_self y1
              have s2 := setCell_self y2
              have s3 := setCell_self y3
              have s4 := setCell_self y4
              have s5 := setCell_self y5
              have s6 := setCell_self y6
              have j0 := hfb.c0
              have j1 := hfb.c1
              have jz := hfb.fz
              clear hzb hfb hbb
              go_wp2
              refine bodyPost_ret (v := .tuple #[.agg #[.int .i64 0, .int .i64 0, .int .i64 0, .int .i64 0, .int .i64 0, .string ⟨#[]⟩, .slice none 0 0], .agg #[.int .i64 10, .int .i64 (-1)]]) (by simp [results, Tryz.results55, go_sem, y0, y1, y2, y3, y4, y5, y6, j0, j1]) rfl ?_
              exact ⟨.slice none 0 0, rfl, Or.inl ⟨none, 0, rfl, fun _ => rfl, rfl⟩, (hBb.setCell hle1 _).setCell hle1 _⟩
          · have hRR : R = (zeroS, 1, none) := by
              rw [HD.out, HSO.out]
              dsimp only
              rw [if_neg hk]
            subst hRR
            have dk : (T0.toList == [115, 110, 97, 112]) = false := neB_of hk
            clear HSO HD hsu hrl hka hk
            go_wp2_with fail
            with_reducible refine hnu3.mono ?_
            rintro e w4 ⟨rfl, rfl⟩
            clear hnu3
            have hbr := bare_of 1 w4
            go_wp2_with fail
            refine hbr.mono ?_
            rintro e wb ⟨rfl, hbb⟩
            clear hbr
            have hBb : Below w.heap.size w wb := hB3.trans (hbb.mono hB3.size)
            have hzb := hz3.below hbb
            have hfb := hf3.below hbb
            obtain ⟨y0, y1, y2, y3, y4, y5, y6, yf⟩ := ZERO.out wb hzb
            have s0 := setCell_self y0
            have s1 := setCell_self y1
            have s2 := setCell_self y2
            have s3 := setCell_self y3
            have s4 := setCell_self y4
            have s5 := setCell_self y5
            have s6 := setCell_self y6
            have j0 := hfb.c0
            have j1 := hfb.c1
            have jz := hfb.fz
            clear hzb hfb hbb
            go_wp2
            refine bodyPost_ret (v := .tuple #[.agg #[.int .i64 0, .int .i64 0, .int .i64 0, .int .i64 0, .int .i64 0, .string ⟨#[]⟩, .slice none 0 0], .agg #[.int .i64 1, .int .i64 (-1)]]) (by simp [results, Tryz.results55, go_sem, y0, y1, y2, y3, y4, y5, y6, j0, j1]) rfl ?_
            exact ⟨.slice none 0 0, rfl, Or.inl ⟨none, 0, rfl, fun _ => rfl, rfl⟩, (hBb.setCell hle1 _).setCell hle1 _⟩
      · have hRR : R = (zeroS, 1, none) := by
          rw [HD.out, HSO.out, six_bad ?_]
          match j, ht with
          | 0, ht => exact Or.inl (by rw [Option.some.inj ht]; exact hno)
          | 1, ht => exact Or.inr (Or.inl (by rw [Option.some.inj ht]; exact hno))
          | 2, ht => exact Or.inr (Or.inr (Or.inl (by rw [Option.some.inj ht]; exact hno)))
          | 3, ht => exact Or.inr (Or.inr (Or.inr (Or.inl (by rw [Option.some.inj ht]; exact hno))))
          | 4, ht => exact Or.inr (Or.inr (Or.inr (Or.inr (Or.inl (by rw [Option.some.inj ht]; exact hno)))))
        subst hRR
        generalize numR T7.data.toList = NR at hnu3
        obtain ⟨nv, nb⟩ := NR
        dsimp only at hnu3
        clear ht hno HSO HD hsu hrl
        go_wp2_with fail
        with_reducible refine hnu3.mono ?_
        rintro e w4 ⟨rfl, rfl⟩
        clear hnu3
        have hbr := bare_of 1 w4
        go_wp2_with fail
        refine hbr.mono ?_
        rintro e wb ⟨rfl, hbb⟩
        clear hbr
        have hBb : Below w.heap.size w wb := hB3.trans (hbb.mono hB3.size)
        have hzb := hz3.below hbb
        have hfb := hf3.below hbb
        obtain ⟨y0, y1, y2, y3, y4, y5, y6, yf⟩ := ZERO.out wb hzb
        have s0 := setCell_self y0
        have s1 := setCell_self y1
        have s2 := setCell_self y2
        have s3 := setCell_self y3
        have s4 := setCell_self y4
        have s5 := setCell_self y5
        have s6 := setCell_self y6
        have j0 := hfb.c0
        have j1 := hfb.c1
        have jz := hfb.fz
        clear hzb hfb hbb
        go_wp2
        refine bodyPost_ret (v := .tuple #[.agg #[.int .i64 0, .int .i64 0, .int .i64 0, .int .i64 0, .int .i64 0, .string ⟨#[]⟩, .slice none 0 0], .agg #[.int .i64 1, .int .i64 (-1)]]) (by simp [results, Tryz.results55, go_sem, y0, y1, y2, y3, y4, y5, y6, j0, j1]) rfl ?_
        exact ⟨.slice none 0 0, rfl, Or.inl ⟨none, 0, rfl, fun _ => rfl, rfl⟩, (hBb.setCell hle1 _).setCell hle1 _⟩
    · have hRR : R = (zeroS, 1, none) := by
        rw [HD.out, snapO_len (fun e => h8 (by rw [← e, ← hts, List.length_map]))]
      subst hRR
      generalize ts.length = N at h8 hc1 ⊢
      have hn8 : ((N : Int) == 8) = false := beq_eq_false_iff_ne.2 (by omega)
      have hn8' : ((N : Int) != 8) = true := by simp; omega
      clear hcell hts h8 HD hsu hrl
      have hbr := bare_of 1 w1
      go_wp2_with fail
      refine hbr.mono ?_
      rintro e wb ⟨rfl, hbb⟩
      clear hbr
      have hBb : Below w.heap.size w wb := hB1.trans (hbb.mono hB1.size)
      have hzb := hz1.below hbb
      have hfb := hf1.below hbb
      obtain ⟨y0, y1, y2, y3, y4, y5, y6, yf⟩ := ZERO.out wb hzb
      have s0 := setCell_self y0
      have s1 := setCell_self y1
      have s2 := setCell_self y2
      have s3 := setCell_self y3
      have s4 := setCell_self y4
      have s5 := setCell_self y5
      have s6 := setCell_self y6
      have j0 := hfb.c0
      have j1 := hfb.c1
      have jz := hfb.fz
      clear hzb hfb hbb
      go_wp2
      refine bodyPost_ret (v := .tuple #[.agg #[.int .i64 0, .int .i64 0, .int .i64 0, .int .i64 0, .int .i64 0, .string ⟨#[]⟩, .slice none 0 0], .agg #[.int .i64 1, .int .i64 (-1)]]) (by simp [results, Tryz.results55, go_sem, y0, y1, y2, y3, y4, y5, y6, j0, j1]) rfl ?_
      exact ⟨.slice none 0 0, rfl, Or.inl ⟨none, 0, rfl, fun _ => rfl, rfl⟩, (hBb.setCell hle1 _).setCell hle1 _⟩
end Go.Proofs.YtpkoefpdpoikkaaGreatDoor
