/-
  The walk of StoreCuts: whatever names, texts and number: true; what was there is as it was.
-/
import Derived.Test.YtmcfklkpdhgjdaaDoorStoreCut1
import Derived.Deep.RegionHeld3
import Derived.Deep.CutBlock
namespace Go.Proofs.YtmcfklkpdhgjdaaDoor
open Go.RowKit Go.Extern.Stop Go.Stop Go.Extern Go.Sort Go.Shelf Go.Lib

theorem neE_of {s : ByteArray} {t : ByteArray} (h : s = t) : (s.toList == t.toList) = true := by subst h; simp

set_option maxRecDepth 100000 in
set_option maxHeartbeats 1000000 in
theorem noText_any (v : Value) (ts : List ByteArray) (w : World) (h : TxsAt w v ts) (hl : ts.length ≤ 1000) (hn : ∀ t ∈ ts, 1 ≤ t.size) :
    Calls Tryd.prog 21 #[.string ⟨#[]⟩, v] w fun e w' => e = .returned (.bool false) ∧ w' = w := by
  obtain ⟨q, cap, rfl⟩ := h.form
  have HT : Hid (TxsAt w (.slice q ts.length cap) ts) := h
  have HN : Hid (∀ t ∈ ts, 1 ≤ t.size) := hn
  obtain ⟨L, hL⟩ : ∃ L, ts.length = L := ⟨_, rfl⟩
  have HX : Hid (ts.length = L) := hL
  rw [hL] at hl ⊢
  clear hL h hn
  go_enter Tryd.func21, Tryd.ntmps21
  go_wp2
  go_loop [5] (fun k => ∃ n : Nat, n ≤ L ∧ k = .int .i64 n) (fun k => L - (intOf k).toNat)
  case atStart => exact ⟨0, by omega, rfl⟩
  case round =>
    obtain ⟨n, hn, rfl⟩ := hrel
    by_cases hlt : n < L
    · have hltx : n < ts.length := by rw [HX.out]; exact hlt
      obtain ⟨b, o, hq, hc⟩ := HT.out.at (fun e => by rw [e] at hltx; simp at hltx)
      subst hq
      have c0 := hc n hltx
      have hsz := HN.out ts[n] (List.getElem_mem _)
      have d1 : (ts[n].toList == []) = false := neL_of (fun e => by
        have h' : ts[n].data.toList.length = 0 := by rw [e]; rfl
        rw [size_list] at h'
        omega)
      generalize ts[n] = t at c0 d1
      have hi : (n : Int) < (L : Int) := by omega
      have hi0 : (0 : Int) ≤ (n : Int) := by omega
      clear hc hltx hsz
      go_wp2
      go_round
      case rel => exact ⟨n + 1, by omega, by go_num⟩
      case measure => simp [intOf]; omega
    · obtain rfl : n = L := by omega
      go_wp2
      go_ret
      exact ⟨rfl, rfl⟩

set_option maxRecDepth 100000 in
set_option maxHeartbeats 16000000 in
theorem storeCuts_any {a : Nat → Addr} {EM : World → Prop} {SAt : World → Value → (Nat → Prop) → St → Prop} (w : World) (K : StoreK a w.heap.size EM SAt) (h : EM w) (v1 v2 : Value) (ns xs : List ByteArray) (z : Int) (h1 : TxsAt w v1 ns) (h2 : TxsAt w v2 xs) (hl1 : ns.length ≤ maxLen) (hl2 : xs.length ≤ maxLen) (hz1 : ∀ t ∈ ns, t.size ≤ maxLen) (hz2 : ∀ t ∈ xs, t.size ≤ maxLen) (hz : -9223372036854775808 ≤ z ∧ z ≤ 9223372036854775807) :
    Calls Tryd.prog 4 #[v1, v2, .int .i64 z] w fun e w' => e = .returned (.bool true) ∧ Below w.heap.size w w' := by
  obtain ⟨i0, hi0, hz0, hs0, hby0⟩ := Tryd.strInfo
  have hst := stored_any K w h
  have HK : Hid (StoreK a w.heap.size EM SAt) := K
  have HE : Hid (EM w) := h
  have HV1 : Hid (∀ W', Below w.heap.size w W' → TxsAt W' v1 ns) := fun W' hb => h1.below hb
  have HV2 : Hid (∀ W', Below w.heap.size w W' → TxsAt W' v2 xs) := fun W' hb => h2.below hb
  unfold maxLen at hl1 hl2 hz1 hz2
  have HZ1 : Hid (∀ t ∈ ns, t.size ≤ 2 ^ 63 - 1) := hz1
  have HZ2 : Hid (∀ t ∈ xs, t.size ≤ 2 ^ 63 - 1) := hz2
  obtain ⟨q1, k1, rfl⟩ := h1.form
  obtain ⟨q2, k2, rfl⟩ := h2.form
  obtain ⟨L1, hL1⟩ : ∃ L, ns.length = L := ⟨_, rfl⟩
  obtain ⟨L2, hL2⟩ : ∃ L, xs.length = L := ⟨_, rfl⟩
  have HL1 : Hid (ns.length = L1) := hL1
  have HL2 : Hid (xs.length = L2) := hL2
  rw [hL1] at HV1 hl1 ⊢
  rw [hL2] at HV2 hl2 ⊢
  clear K h h1 h2 hz1 hz2 hL1 hL2
  by_cases i1 : (30 : Int) < (L1 : Int)
  · go_enter Tryd.func4, Tryd.ntmps4
    go_wp2_with fail
    refine hst.mono ?_
    rintro e w1 ⟨rfl, hb1⟩
    clear hst
    go_wp2
    go_ret
    exact ⟨rfl, hb1⟩
  by_cases i2 : (30 : Int) < (L2 : Int)
  · go_enter Tryd.func4, Tryd.ntmps4
    go_wp2_with fail
    refine hst.mono ?_
    rintro e w1 ⟨rfl, hb1⟩
    clear hst
    go_wp2
    go_ret
    exact ⟨rfl, hb1⟩
  by_cases i3 : z < 0
  · go_enter Tryd.func4, Tryd.ntmps4
    go_wp2_with fail
    refine hst.mono ?_
    rintro e w1 ⟨rfl, hb1⟩
    clear hst
    go_wp2
    go_ret
    exact ⟨rfl, hb1⟩
  have hcc : cutC newS z = 0 := by
    unfold cutC
    rw [if_neg i3]
    rfl
  go_enter Tryd.func4, Tryd.ntmps4
  go_wp2_with fail
  refine hst.mono ?_
  rintro e w1 ⟨rfl, hb1⟩
  clear hst
  have E1 := HK.out.below _ _ HE.out hb1
  go_wp2_with fail
  refine (HK.out.new w1 E1).mono ?_
  rintro e w3 ⟨v3, FP3, rfl, hs3, hn3, hb3⟩
  have S3 : SOk EM SAt w.heap.size w w3 v3 FP3 newS := ⟨HK.out.below _ _ E1 (hb3.mono hb1.size), hb1.trans (hb3.mono hb1.size), Nat.le_refl _, hs3, fun k hk => Nat.le_trans hb1.size (hn3 k hk)⟩
  obtain ⟨p, rfl⟩ := HK.out.ptr _ _ _ _ hs3
  have hcu := (Cuts.new ⟨FP3, S3⟩).cut HK.out newS_keeps z hz
  rw [hcc] at hcu
  simp only [errV] at hcu
  have HCI : Hid (CInv (cutS newS z) [] [] ⟨#[]⟩) := cinv_new z
  generalize cutS newS z = s0 at hcu HCI
  clear hs3 hn3 hb3 E1 hb1 HE S3 hcc
  go_wp2_with fail
  refine hcu.mono ?_
  rintro e w4 ⟨rfl, hT⟩
  have T4 : Hid (Cuts EM SAt w.heap.size w w4 (.pointer (some p)) (s0) (.slice none 0 0) ([]) (.slice none 0 0) ([])) := hT
  clear hcu hT
  go_upto_block 0 with fail
  go_cut [9, 10, 11, 12] from 43 to 109 (fun hv tv hd _ wx => ∃ (s : St) (hs ts : List ByteArray) (head : ByteArray), hd = .string head ∧ Cuts EM SAt w.heap.size w wx (.pointer (some p)) (s) hv (hs) tv (ts) ∧ CInv s hs ts head ∧ hs.length ≤ 30)
  case first =>
    go_wp2
    go_loopw [9, 10, 11, 12] (fun hv tv hd k wr => ∃ (m : Nat) (s : St) (hs ts : List ByteArray) (head : ByteArray), m ≤ L1 ∧ m ≤ L2 ∧ k = .int .i64 m ∧ hd = .string head ∧ Cuts EM SAt w.heap.size w wr (.pointer (some p)) (s) hv (hs) tv (ts) ∧ CInv s hs ts head ∧ hs.length ≤ m) (fun _ _ _ k _ => L1 - (intOf k).toNat)
    case atStart => exact ⟨0, s0, [], [], ⟨#[]⟩, by omega, by omega, rfl, rfl, T4.out, HCI.out, Nat.le_refl _⟩
    case round =>
      clear T4 HCI
      obtain ⟨m, s, hs, ts, head, hm1, hm2, rfl, rfl, hT, hC, hlen⟩ := hrel
      have T0 : Hid (Cuts EM SAt w.heap.size w wr (.pointer (some p)) (s) u9 (hs) u10 (ts)) := hT
      have HC : Hid (CInv s hs ts head) := hC
      clear hT hC
      by_cases hlt1 : m < L1
      case neg =>
        obtain rfl : m = L1 := by omega
        go_wp2
        go_meet
        case rel => exact ⟨s, hs, ts, head, rfl, T0.out, HC.out, by omega⟩
      by_cases hlt2 : m < L2
      case neg =>
        obtain rfl : m = L2 := by omega
        have hi1 : (m : Int) < (L1 : Int) := by omega
        go_wp2
        go_meet
        case rel => exact ⟨s, hs, ts, head, rfl, T0.out, HC.out, by omega⟩
      have hi1 : (m : Int) < (L1 : Int) := by omega
      have hi2 : (m : Int) < (L2 : Int) := by omega
      have hi00 : (0 : Int) ≤ (m : Int) := by omega
      have hpw := T0.out.power HK.out HC.out.keeps
      cases hoff : s.off
      case true =>
        rw [hoff] at hpw
        have hnb : (!true) = false := rfl
        rw [hnb] at hpw
        go_wp2_with fail
        refine hpw.mono ?_
        rintro e w5 ⟨rfl, hT⟩
        have T5 : Hid (Cuts EM SAt w.heap.size w w5 (.pointer (some p)) (s) u9 (hs) u10 (ts)) := hT
        clear hT T0 hpw
        go_wp2
        go_meet
        case rel => exact ⟨s, hs, ts, head, rfl, T5.out, HC.out, by omega⟩
      rw [hoff] at hpw
      have hnb : (!false) = true := rfl
      rw [hnb] at hpw
      go_wp2_with fail
      refine hpw.mono ?_
      rintro e w5 ⟨rfl, hT⟩
      have T5 : Hid (Cuts EM SAt w.heap.size w w5 (.pointer (some p)) (s) u9 (hs) u10 (ts)) := hT
      clear hT T0 hpw hnb
      have hltx1 : m < ns.length := by rw [HL1.out]; exact hlt1
      have hltx2 : m < xs.length := by rw [HL2.out]; exact hlt2
      obtain ⟨b1, o1, hq1, -⟩ := (HV1.out w5 T5.out.frame).at (fun e => by rw [e] at hltx1; simp at hltx1)
      obtain ⟨b2, o2, hq2, -⟩ := (HV2.out w5 T5.out.frame).at (fun e => by rw [e] at hltx2; simp at hltx2)
      subst hq1
      subst hq2
      have z1 := HZ1.out ns[m] (List.getElem_mem _)
      have z2 := HZ2.out xs[m] (List.getElem_mem _)
      obtain ⟨n, hn⟩ : ∃ n, ns[m] = n := ⟨_, rfl⟩
      obtain ⟨t, ht⟩ : ∃ t, xs[m] = t := ⟨_, rfl⟩
      have HCL : Hid (∀ W', Below w.heap.size w W' → W'.cell? ⟨b1, o1 + m, none⟩ = some (.string n) ∧ W'.cell? ⟨b2, o2 + m, none⟩ = some (.string t)) := fun W' hb => by
        obtain ⟨b1', o1', e1, c1⟩ := (HV1.out W' hb).at (fun e => by rw [e] at hltx1; simp at hltx1)
        obtain ⟨b2', o2', e2, c2⟩ := (HV2.out W' hb).at (fun e => by rw [e] at hltx2; simp at hltx2)
        injection e1 with e1
        injection e2 with e2
        injection e1 with e11 e12
        injection e2 with e21 e22
        subst e11; subst e12; subst e21; subst e22
        have h1 := c1 m hltx1
        have h2 := c2 m hltx2
        rw [hn] at h1
        rw [ht] at h2
        exact ⟨h1, h2⟩
      rw [hn] at z1
      rw [ht] at z2
      clear hn ht hltx1 hltx2
      obtain ⟨c1, c2⟩ := HCL.out w5 T5.out.frame
      by_cases hs1 : (40 : Int) < (n.size : Int)
      · go_wp2
        go_ret
        exact ⟨rfl, T5.out.frame⟩
      by_cases hs2 : (100 : Int) < (t.size : Int)
      · go_wp2
        go_ret
        exact ⟨rfl, T5.out.frame⟩
      have HP := fun W' (hT : Cuts EM SAt w.heap.size w W' (.pointer (some p)) (s) u9 (hs) u10 (ts)) => hT.put HK.out HC.out.keeps n t (by omega) (by omega)
      by_cases hc : putC s n t = 0
      case neg =>
        have HC1 : Hid (CInv (putS s n t) hs ts head) := cinv_put1 HC.out hoff hc
        obtain ⟨mc, hmc⟩ : ∃ m, putC s n t = m + 1 := ⟨putC s n t - 1, by omega⟩
        rw [hmc] at HP
        generalize putS s n t = s1 at *
        simp only [errV] at HP
        have HPU : Hid (∀ W', Cuts EM SAt w.heap.size w W' (.pointer (some p)) (s) u9 (hs) u10 (ts) → Calls Tryd.prog 9 #[.pointer (some p), .string n, .string t] W' fun e w' => e = .returned (.iface 151 (.pointer (some (a mc)))) ∧ Cuts EM SAt w.heap.size w w' (.pointer (some p)) (s1) u9 (hs) u10 (ts)) := HP
        clear HP hc hmc
        go_upto_region 15 with fail
        go_region_held3 (fun w' => w'.cell? ⟨b1, o1 + m, none⟩ = some (.string n) ∧ w'.cell? ⟨b2, o2 + m, none⟩ = some (.string t))
          (first
            | (go_split_ands; exact HCL.out _ hX.frame)
            | go_keep)
          (first
            | (go_at_call 9; with_reducible refine (HPU.out _ (by first | exact T5.out | exact T5.out.drew HK.out)).mono ?_; rintro e wX ⟨rfl, hX⟩))
        have T6 : Hid (Cuts EM SAt w.heap.size w wX (.pointer (some p)) (s1) u9 (hs) u10 (ts)) := hX
        clear hX T5 HPU HCL
        try clear c1 c2
        go_wp2
        go_roundw
        case rel => exact ⟨m + 1, s1, hs, ts, head, by omega, by omega, by go_num, rfl, T6.out, HC1.out, by omega⟩
        case measure => simp [intOf]; omega
      have HC1 : Hid (CInv (putS s n t) (hs ++ [n]) (ts ++ [t]) head) := cinv_put0 HC.out hoff hc (by omega)
      rw [hc] at HP
      generalize putS s n t = s1 at *
      simp only [errV] at HP
      have HPU : Hid (∀ W', Cuts EM SAt w.heap.size w W' (.pointer (some p)) (s) u9 (hs) u10 (ts) → Calls Tryd.prog 9 #[.pointer (some p), .string n, .string t] W' fun e w' => e = .returned .nilIface ∧ Cuts EM SAt w.heap.size w w' (.pointer (some p)) (s1) u9 (hs) u10 (ts)) := HP
      clear HP hc
      go_upto_region 15 with fail
      go_region_held3 (fun w' => w'.cell? ⟨b1, o1 + m, none⟩ = some (.string n) ∧ w'.cell? ⟨b2, o2 + m, none⟩ = some (.string t))
        (first
          | (go_split_ands; exact HCL.out _ hX.frame)
          | go_keep)
        (first
          | (go_at_call 9; with_reducible refine (HPU.out _ (by first | exact T5.out | exact T5.out.drew HK.out)).mono ?_; rintro e wX ⟨rfl, hX⟩))
      have T6 : Hid (Cuts EM SAt w.heap.size w wX (.pointer (some p)) (s1) u9 (hs) u10 (ts)) := hX
      clear hX T5 HPU HC
      try clear c1 c2
      obtain ⟨c1, c2⟩ := HCL.out wX T6.out.frame
      have T7 : Hid (Cuts EM SAt w.heap.size w (wX.alloc (.cells #[.string n] 9)) (.pointer (some p)) (s1) u9 (hs) u10 (ts)) := T6.out.quiet HK.out ((Below.refl _ _).alloc (Nat.le_refl _) _)
      have HSR : Hid (Src (wX.alloc (.cells #[.string n] 9)) (some ⟨wX.heap.size, 0, none⟩) 1 1 [.string n]) := src_one wX n
      obtain ⟨HN, hHN⟩ : ∃ N, hs.length = N := ⟨_, rfl⟩
      have HHN : Hid (hs.length = HN) := hHN
      have hHle : HN ≤ 30 := by omega
      clear hHN T6
      have hbz : w.heap.size ≤ (wX.alloc (.cells #[.string n] 9)).heap.size := T7.out.frame.size
      obtain ⟨XS, hXS⟩ : ∃ X, hs.map Value.string = X := ⟨_, rfl⟩
      have HXS : Hid (hs.map Value.string = XS) := hXS
      clear hXS
      go_upto_region 16 with fail
      go_wp2_with (at_builtin; (refine wpList_append_src rfl _ _ 41 rfl w.heap.size 9 i0 (.string ⟨#[]⟩) 1 16 Tryd.underlying41 hi0 hz0 hs0 hby0 rfl (by decide) u9 HN XS rfl ?qc0 (some ⟨wX.heap.size, 0, none⟩) 1 1 [.string n] rfl ?qc1 ?qc2 ?qc3 ?qc4 ?qc5 ?qc6 ?_))
      case qc0 =>
        have h' := T7.out.have_
        rw [HHN.out, HXS.out] at h'
        exact h'
      case qc1 => rfl
      case qc2 => exact HSR.out
      case qc3 => intro u hu; simp at hu; subst hu; rfl
      case qc4 => unfold maxLen; omega
      case qc5 => omega
      case qc6 => exact hbz
      intro v8 w8 ho8 hg8 hat8
      replace hat8 : v8.ownBlock = u9.ownBlock ∨ v8.ownBlock = some (wX.alloc (.cells #[.string n] 9)).heap.size := by first | exact hat8 | simpa using hat8
      have T8 : Hid (Cuts EM SAt w.heap.size w w8 (.pointer (some p)) (s1) v8 (hs ++ [n]) u10 (ts)) := T7.out.more1 HK.out (by rw [HHN.out, HXS.out]; exact ho8) hg8 hat8
      clear ho8 hg8 hat8 T7 HSR HXS hbz c1 c2
      obtain ⟨c1, c2⟩ := HCL.out w8 T8.out.frame
      have T9 : Hid (Cuts EM SAt w.heap.size w (w8.alloc (.cells #[.string t] 9)) (.pointer (some p)) (s1) v8 (hs ++ [n]) u10 (ts)) := T8.out.quiet HK.out ((Below.refl _ _).alloc (Nat.le_refl _) _)
      have HSR : Hid (Src (w8.alloc (.cells #[.string t] 9)) (some ⟨w8.heap.size, 0, none⟩) 1 1 [.string t]) := src_one w8 t
      have HTN : Hid (ts.length = HN) := by
        have h' := HC1.out.same
        rw [List.length_append, List.length_append, HHN.out] at h'
        simp at h'
        exact h'.symm
      have hbz : w.heap.size ≤ (w8.alloc (.cells #[.string t] 9)).heap.size := T9.out.frame.size
      obtain ⟨YS, hYS⟩ : ∃ X, ts.map Value.string = X := ⟨_, rfl⟩
      have HYS : Hid (ts.map Value.string = YS) := hYS
      clear hYS T8
      go_wp2_with (at_builtin; (refine wpList_append_src rfl _ _ 41 rfl w.heap.size 9 i0 (.string ⟨#[]⟩) 1 16 Tryd.underlying41 hi0 hz0 hs0 hby0 rfl (by decide) u10 HN YS rfl ?qd0 (some ⟨w8.heap.size, 0, none⟩) 1 1 [.string t] rfl ?qd1 ?qd2 ?qd3 ?qd4 ?qd5 ?qd6 ?_))
      case qd0 =>
        have h' := T9.out.their
        rw [HTN.out, HYS.out] at h'
        exact h'
      case qd1 => rfl
      case qd2 => exact HSR.out
      case qd3 => intro u hu; simp at hu; subst hu; rfl
      case qd4 => unfold maxLen; omega
      case qd5 => omega
      case qd6 => exact hbz
      intro v10 w10 ho10 hg10 hat10
      replace hat10 : v10.ownBlock = u10.ownBlock ∨ v10.ownBlock = some (w8.alloc (.cells #[.string t] 9)).heap.size := by first | exact hat10 | simpa using hat10
      have T10 : Hid (Cuts EM SAt w.heap.size w w10 (.pointer (some p)) (s1) v8 (hs ++ [n]) v10 (ts ++ [t])) := T9.out.more2 HK.out (by rw [HTN.out, HYS.out]; exact ho10) hg10 hat10
      clear ho10 hg10 hat10 T9 HSR HYS HTN hbz c1 c2
      obtain ⟨c1, c2⟩ := HCL.out w10 T10.out.frame
      have hsw := T10.out.swap HK.out HC1.out.keeps head n (by have := HC1.out.hsz; omega) (by omega)
      have HC2 : Hid (CInv (swapS s1 head n) (hs ++ [n]) (ts ++ [t]) (if swapC s1 head n = 0 then n else head)) := cinv_swap HC1.out (by omega)
      have hlen2 : (hs ++ [n]).length ≤ m + 1 := by rw [List.length_append]; simp; omega
      have HLN : Hid ((hs ++ [n]).length ≤ m + 1) := hlen2
      clear hlen2
      by_cases hc2 : swapC s1 head n = 0
      · rw [hc2] at hsw
        rw [hc2, if_pos rfl] at HC2
        generalize swapS s1 head n = s2 at *
        simp only [errV] at hsw
        clear hc2 HC1
        go_wp2_with fail
        refine hsw.mono ?_
        rintro e w11 ⟨rfl, hT⟩
        have T11 : Hid (Cuts EM SAt w.heap.size w w11 (.pointer (some p)) (s2) v8 (hs ++ [n]) v10 (ts ++ [t])) := hT
        clear hT hsw T10 c1 c2
        obtain ⟨c1, c2⟩ := HCL.out w11 T11.out.frame
        go_wp2
        go_roundw
        case rel => exact ⟨m + 1, s2, hs ++ [n], ts ++ [t], n, by omega, by omega, by go_num, rfl, T11.out, HC2.out, HLN.out⟩
        case measure => simp [intOf]; omega
      · obtain ⟨mc, hmc⟩ : ∃ m, swapC s1 head n = m + 1 := ⟨swapC s1 head n - 1, by omega⟩
        rw [if_neg hc2] at HC2
        rw [hmc] at hsw
        generalize swapS s1 head n = s2 at *
        simp only [errV] at hsw
        clear hc2 HC1 hmc
        go_wp2_with fail
        refine hsw.mono ?_
        rintro e w11 ⟨rfl, hT⟩
        have T11 : Hid (Cuts EM SAt w.heap.size w w11 (.pointer (some p)) (s2) v8 (hs ++ [n]) v10 (ts ++ [t])) := hT
        clear hT hsw T10 c1 c2
        go_wp2
        go_roundw
        case rel => exact ⟨m + 1, s2, hs ++ [n], ts ++ [t], head, by omega, by omega, by go_num, rfl, T11.out, HC2.out, HLN.out⟩
        case measure => simp [intOf]; omega
  case rest =>
  obtain ⟨s, hs, ts, head, rfl, hT, hC, hlen⟩ := hcut
  obtain ⟨q9, c9, hu9⟩ := own_shape hT.have_
  obtain ⟨q10, c10, hu10⟩ := own_shape hT.their
  subst hu9
  subst hu10
  have HSM : Hid (ts.length = hs.length) := hC.same.symm
  obtain ⟨H, hH⟩ : ∃ H, hs.length = H := ⟨_, rfl⟩
  have HH : Hid (hs.length = H) := hH
  have HTS : Hid (ts.length = H) := HSM.out.trans hH
  rw [HSM.out, hH] at hT
  rw [HSM.out, hH]
  have T5 : Hid (Cuts EM SAt w.heap.size w wc (.pointer (some p)) (s) (.slice q9 H c9) (hs) (.slice q10 H c10) (ts)) := hT
  have HC : Hid (CInv s hs ts head) := hC
  have g1 := hC.low
  have g2 := hC.high
  rw [hH] at g1 g2 hlen
  have g3 := hC.keeps.many
  clear hT hC T4 HCI hH HSM
  generalize wc = w5 at *
  have hhd := T5.out.head HK.out HC.out.keeps
  rw [HC.out.head] at hhd
  have HNM : Hid (∀ W', Cuts EM SAt w.heap.size w W' (.pointer (some p)) (s) (.slice q9 H c9) (hs) (.slice q10 H c10) (ts) → Calls Tryd.prog 20 #[.pointer (some p)] W' fun e w' => ∃ q c, e = .returned (.slice q s.obs.length c) ∧ Cuts EM SAt w.heap.size w w' (.pointer (some p)) (s) (.slice q9 H c9) (hs) (.slice q10 H c10) (ts)) := fun W' hT => (hT.names HK.out HC.out.keeps).mono fun e w' ⟨v', he, ht, hT2⟩ => by
    obtain ⟨q, c, hq⟩ := ht.form
    rw [List.length_map] at hq
    exact ⟨q, c, by rw [he, hq], hT2⟩
  generalize s.obs.length = N at g1 g2 g3 HNM
  have j1 : ¬ (N : Int) < (H : Int) := by omega
  have j2 : ¬ ((H : Int) + 1 < (N : Int)) := by omega
  have j1b : decide (N < H) = false := by simp; omega
  have j2b : decide ((H : Int) + 1 < (N : Int)) = false := by simp; omega
  go_wp2_with fail
  refine hhd.mono ?_
  rintro e w6 ⟨rfl, hT⟩
  have T6 : Hid (Cuts EM SAt w.heap.size w w6 (.pointer (some p)) (s) (.slice q9 H c9) (hs) (.slice q10 H c10) (ts)) := hT
  clear hT hhd T5
  go_wp2_with fail
  refine (HNM.out _ T6.out).mono ?_
  rintro e w7 ⟨qa, ca, rfl, hT⟩
  have T7 : Hid (Cuts EM SAt w.heap.size w w7 (.pointer (some p)) (s) (.slice q9 H c9) (hs) (.slice q10 H c10) (ts)) := hT
  clear hT T6
  go_wp2_with fail
  refine (HNM.out _ T7.out).mono ?_
  rintro e w8 ⟨qb, cb, rfl, hT⟩
  have T8 : Hid (Cuts EM SAt w.heap.size w w8 (.pointer (some p)) (s) (.slice q9 H c9) (hs) (.slice q10 H c10) (ts)) := hT
  clear hT T7 HNM
  have HD0 : Hid (DInv s hs ts 0) := dinv_of HC.out
  have HND : Hid (hs.Nodup ∧ ∀ n ∈ hs, n.size ≤ 40) := ⟨HC.out.nodup, HC.out.nsz⟩
  clear HC
  go_wp2
  go_loopw [13] (fun k wr => ∃ (m : Nat) (r : St), m ≤ H ∧ k = .int .i64 m ∧ Cuts EM SAt w.heap.size w wr (.pointer (some p)) (r) (.slice q9 H c9) (hs) (.slice q10 H c10) (ts) ∧ DInv r hs ts m) (fun k _ => H - (intOf k).toNat)
  case atStart => exact ⟨0, s, by omega, rfl, T8.out, HD0.out⟩
  case round =>
    clear T8 HD0 j1 j2 g1 g2 g3 j1b j2b
    obtain ⟨m, r, hm, rfl, hT, hD⟩ := hrel
    have T0 : Hid (Cuts EM SAt w.heap.size w wr (.pointer (some p)) (r) (.slice q9 H c9) (hs) (.slice q10 H c10) (ts)) := hT
    have HD : Hid (DInv r hs ts m) := hD
    clear hT hD
    by_cases hlt : m < H
    · have hlx : m < hs.length := by rw [HH.out]; exact hlt
      have hly : m < ts.length := by rw [HTS.out]; exact hlt
      obtain ⟨b9, o9, hq9, -⟩ := (txs_of_own T0.out.have_).at (fun e => by rw [e] at hlx; simp at hlx)
      obtain ⟨b10, o10, hq10, -⟩ := (txs_of_own T0.out.their).at (fun e => by rw [e] at hly; simp at hly)
      subst hq9
      subst hq10
      obtain ⟨n, hn⟩ : ∃ n, hs[m] = n := ⟨_, rfl⟩
      obtain ⟨t, ht⟩ : ∃ t, ts[m] = t := ⟨_, rfl⟩
      have hn2 : hs[m]? = some n := by rw [← hn]; exact List.getElem?_eq_getElem hlx
      have ht2 : ts[m]? = some t := by rw [← ht]; exact List.getElem?_eq_getElem hly
      have hnz : n.size ≤ 40 := HND.out.2 n (by rw [← hn]; exact List.getElem_mem _)
      have HCL : Hid (∀ W' r', Cuts EM SAt w.heap.size w W' (.pointer (some p)) (r') (.slice (some ⟨b9, o9, none⟩) H c9) (hs) (.slice (some ⟨b10, o10, none⟩) H c10) (ts) → W'.cell? ⟨b9, o9 + m, none⟩ = some (.string n) ∧ W'.cell? ⟨b10, o10 + m, none⟩ = some (.string t)) := fun W' r' hT => by
        obtain ⟨b1', o1', e1, k1⟩ := (txs_of_own hT.have_).at (fun e => by rw [e] at hlx; simp at hlx)
        obtain ⟨b2', o2', e2, k2⟩ := (txs_of_own hT.their).at (fun e => by rw [e] at hly; simp at hly)
        injection e1 with e1
        injection e2 with e2
        injection e1 with e11 e12
        injection e2 with e21 e22
        subst e11; subst e12; subst e21; subst e22
        have h1 := k1 m hlx
        have h2 := k2 m hly
        rw [hn] at h1
        rw [ht] at h2
        exact ⟨h1, h2⟩
      obtain ⟨y1, y2⟩ := dinv_get HD.out hn2 ht2
      have hge := T0.out.get HK.out HD.out.keeps n (by omega)
      rw [y1] at hge
      simp only [errV] at hge
      have hdr := fun W' (hT : Cuts EM SAt w.heap.size w W' (.pointer (some p)) (r) (.slice (some ⟨b9, o9, none⟩) H c9) (hs) (.slice (some ⟨b10, o10, none⟩) H c10) (ts)) => hT.drop HK.out HD.out.keeps n (by omega)
      rw [y2] at hdr
      have HD1 : Hid (DInv (dropS r n) hs ts (m + 1)) := dinv_drop HD.out HND.out.1 hn2
      have hpw := fun W' (hT : Cuts EM SAt w.heap.size w W' (.pointer (some p)) (dropS r n) (.slice (some ⟨b9, o9, none⟩) H c9) (hs) (.slice (some ⟨b10, o10, none⟩) H c10) (ts)) => hT.power HK.out HD1.out.keeps
      rw [drop_off] at hpw
      have hi1 : (m : Int) < (H : Int) := by omega
      have hi00 : (0 : Int) ≤ (m : Int) := by omega
      obtain ⟨d1, d2⟩ := HCL.out _ _ T0.out
      clear hn ht hlx hly y1 y2 hn2 ht2
      go_wp2_with fail
      refine hge.mono ?_
      rintro e w9 ⟨rfl, hT⟩
      have T9 : Hid (Cuts EM SAt w.heap.size w w9 (.pointer (some p)) (r) (.slice (some ⟨b9, o9, none⟩) H c9) (hs) (.slice (some ⟨b10, o10, none⟩) H c10) (ts)) := hT
      clear hT hge T0 d1 d2
      obtain ⟨d1, d2⟩ := HCL.out _ _ T9.out
      have hdr9 := hdr w9 T9.out
      clear hdr
      cases hoff : r.off
      case true =>
        rw [hoff, if_pos rfl] at hdr9
        generalize dropS r n = r1 at *
        simp only [errV] at hdr9
        clear hpw hoff
        go_wp2_with fail
        refine hdr9.mono ?_
        rintro e w11 ⟨rfl, hT⟩
        have T11 : Hid (Cuts EM SAt w.heap.size w w11 (.pointer (some p)) (r1) (.slice (some ⟨b9, o9, none⟩) H c9) (hs) (.slice (some ⟨b10, o10, none⟩) H c10) (ts)) := hT
        clear hT hdr9 T9 d1 d2
        go_wp2
        go_roundw
        case rel => exact ⟨m + 1, r1, by omega, by go_num, T11.out, HD1.out⟩
        case measure => simp [intOf]; omega
      case false =>
        rw [hoff, if_neg (by simp)] at hdr9
        rw [hoff] at hpw
        have hnb : (!false) = true := rfl
        rw [hnb] at hpw
        generalize dropS r n = r1 at *
        simp only [errV] at hdr9
        clear hoff hnb
        go_wp2_with fail
        refine hdr9.mono ?_
        rintro e w11 ⟨rfl, hT⟩
        have T11 : Hid (Cuts EM SAt w.heap.size w w11 (.pointer (some p)) (r1) (.slice (some ⟨b9, o9, none⟩) H c9) (hs) (.slice (some ⟨b10, o10, none⟩) H c10) (ts)) := hT
        clear hT hdr9 T9 d1 d2
        have hp11 := hpw w11 T11.out
        clear hpw
        go_wp2_with fail
        refine hp11.mono ?_
        rintro e w12 ⟨rfl, hT⟩
        have T12 : Hid (Cuts EM SAt w.heap.size w w12 (.pointer (some p)) (r1) (.slice (some ⟨b9, o9, none⟩) H c9) (hs) (.slice (some ⟨b10, o10, none⟩) H c10) (ts)) := hT
        clear hT hp11 T11
        go_wp2
        go_roundw
        case rel => exact ⟨m + 1, r1, by omega, by go_num, T12.out, HD1.out⟩
        case measure => simp [intOf]; omega
    · obtain rfl : m = H := by omega
      have hon := T0.out.on HK.out HD.out.keeps
      have HK1 : Hid (Keeps (onS r)) := onS_keeps HD.out.keeps
      have HPW : Hid (∀ W', Cuts EM SAt w.heap.size w W' (.pointer (some p)) (onS r) (.slice q9 m c9) (hs) (.slice q10 m c10) (ts) → Calls Tryd.prog 11 #[.pointer (some p)] W' fun e w' => e = .returned (.bool true) ∧ Cuts EM SAt w.heap.size w w' (.pointer (some p)) (onS r) (.slice q9 m c9) (hs) (.slice q10 m c10) (ts)) := fun W' hT => hT.power HK.out HK1.out
      have hc0 : cutC (onS r) 0 = 0 := rfl
      have HCU : Hid (∀ W', Cuts EM SAt w.heap.size w W' (.pointer (some p)) (onS r) (.slice q9 m c9) (hs) (.slice q10 m c10) (ts) → Calls Tryd.prog 16 #[.pointer (some p), .int .i64 0] W' fun e w' => e = .returned .nilIface ∧ Cuts EM SAt w.heap.size w w' (.pointer (some p)) (cutS (onS r) 0) (.slice q9 m c9) (hs) (.slice q10 m c10) (ts)) := fun W' hT => by
        have h' := hT.cut HK.out HK1.out 0 (by decide)
        rw [hc0] at h'
        exact h'
      have HK2 : Hid (Keeps (cutS (onS r) 0)) := cutS_keeps HK1.out 0
      generalize onS r = r1 at *
      generalize cutS r1 0 = r2 at *
      clear hc0
      go_wp2_with fail
      refine hon.mono ?_
      rintro e w9 ⟨rfl, hT⟩
      have T9 : Hid (Cuts EM SAt w.heap.size w w9 (.pointer (some p)) (r1) (.slice q9 m c9) (hs) (.slice q10 m c10) (ts)) := hT
      clear hT hon T0
      go_wp2_with fail
      refine (HPW.out _ T9.out).mono ?_
      rintro e w10 ⟨rfl, hT⟩
      have T10 : Hid (Cuts EM SAt w.heap.size w w10 (.pointer (some p)) (r1) (.slice q9 m c9) (hs) (.slice q10 m c10) (ts)) := hT
      clear hT T9 HPW
      go_wp2_with fail
      refine (HCU.out _ T10.out).mono ?_
      rintro e w11 ⟨rfl, hT⟩
      have T11 : Hid (Cuts EM SAt w.heap.size w w11 (.pointer (some p)) (r2) (.slice q9 m c9) (hs) (.slice q10 m c10) (ts)) := hT
      clear hT T10 HCU
      have hnm := T11.out.names HK.out HK2.out
      go_wp2_with fail
      refine hnm.mono ?_
      rintro e w12 ⟨vn, rfl, htx, hT⟩
      have T12 : Hid (Cuts EM SAt w.heap.size w w12 (.pointer (some p)) (r2) (.slice q9 m c9) (hs) (.slice q10 m c10) (ts)) := hT
      have hno := noText_any vn _ w12 htx (by rw [List.length_map]; have := HK2.out.many; omega) (obj_pos HK2.out)
      clear hT T11 hnm
      obtain ⟨qn, cn, hvn⟩ := htx.form
      subst hvn
      generalize (r2.obs.map fun o => o.1).length = NL at *
      clear htx
      go_wp2_with fail
      refine hno.mono ?_
      rintro e w13 ⟨rfl, rfl⟩
      clear hno
      go_wp2
      go_ret
      exact ⟨rfl, T12.out.frame⟩
end Go.Proofs.YtmcfklkpdhgjdaaDoor
