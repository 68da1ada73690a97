/-
  The closed facts of ExpireTells's row, one declaration each: together they take more than ten gigabytes.
-/
import Derived.Test.YtbdhdlloihkibaaGreatDoorStoreAWalk
import Derived.Test.YtbdhdlloihkibaaGreatDoorRows
import Derived.JoinedOf
namespace Go.Proofs.YtbdhdlloihkibaaGreatDoor
open Go.RowKit Go.Extern.Stop Go.Stop Go.Extern Go.Sort Go.Shelf Go.Lib

structure ExpO (EM : World → Prop) (SAt : World → Value → (Nat → Prop) → St → Prop) : Prop where
  orph : ∀ (W : World) (v : Value) (FP : Nat → Prop) (s : St) (vN : Value) (needed : List ByteArray) (age : Int), EM W → SAt W v FP s → Keeps s → Aged s → TxsAt W vN needed → needed.length ≤ 1000 → Calls Tryz.prog 18 #[v, vN, .int .i64 age] W fun e w' => ∃ v', e = .returned v' ∧ TxsAt w' v' (orphL s needed age) ∧ Below W.heap.size W w'
  none : ∀ (W : World) (vN : Value) (age : Int), Calls Tryz.prog 18 #[.pointer none, vN, .int .i64 age] W fun e w' => e = .returned (.slice none 0 0) ∧ Below W.heap.size W w'

theorem ts_txs {w : World} {v : Value} {ts : List ByteArray} (h : TsAt w v ts) : TxsAt w v ts := by
  rcases h with ⟨h1, h2⟩ | ⟨b, cap, h1, _, hc⟩
  · exact Or.inl ⟨none, 0, h1, h2⟩
  · exact Or.inr ⟨b, 0, cap, h1, fun j hj => by rw [Nat.zero_add]; exact hc j hj⟩
theorem keys_own {w : World} {base : Nat} {v : Value} {zs : List Int} (h : w.ownsRow base 3 1 v zs.length (zs.map (Value.int .i64))) : KeysAt w v zs := by
  obtain ⟨hl, h⟩ := h
  rcases h with ⟨hv, hn⟩ | ⟨g, cap, cur, rfl, _, hg, hcp, _, _, ht⟩
  · exact Or.inl ⟨none, 0, by rw [hv], List.length_eq_zero_iff.1 hn⟩
  · refine Or.inr ⟨g, 0, cap, rfl, fun j hj => ?_⟩
    have hu : (zs.map (Value.int .i64))[j]? = some (.int .i64 zs[j]) := by simp [hj]
    rw [← ht, List.getElem?_take, if_pos (by simpa using hj)] at hu
    simp only [World.cell?, hg, Nat.zero_add]
    simpa using hu
theorem flat_need {ss : List Sn} (h : ∀ s ∈ ss, s.2.2.2.2.2.2.length ≤ 61) : (ss.flatMap needS).length ≤ ss.length * 62 := by
  induction ss with
  | nil => simp
  | cons s r ih =>
    rw [List.flatMap_cons, List.length_append, List.length_cons]
    have h1 := ih fun x hx => h x (List.mem_cons_of_mem _ hx)
    have h2 := h s List.mem_cons_self
    have h3 : (needS s).length = s.2.2.2.2.2.2.length + 1 := by unfold needS; rw [List.length_cons, List.length_map]
    omega
theorem reachL_len (ss : List Sn) : (reachL ss).length ≤ (ss.flatMap needS).length := by
  rw [← reachN_all]
  exact reachN_len ss _
theorem orphL_len (s : St) (needed : List ByteArray) (age : Int) : (orphL s needed age).length ≤ s.obs.length := by
  unfold orphL
  rw [List.length_map]
  exact List.length_filter_le _ _
theorem keepL_len (day age count : Int) (ss : List Sn) : (keepL day age count ss).length ≤ ss.length := by
  rw [← keepN_all]
  exact keepN_len _ _ _ _ _
def SnsOk (ss : List Sn) : Prop := ∀ s ∈ ss, SnOk s ∧ s.2.2.2.2.2.1.size ≤ maxLen ∧ s.2.2.2.2.2.2.length ≤ maxLen ∧ ∀ f ∈ s.2.2.2.2.2.2, f.1.size ≤ maxLen ∧ f.2.1.size ≤ maxLen

set_option maxRecDepth 100000 in
set_option maxHeartbeats 16000000 in
theorem expireTells_any {a : Nat → Addr} {EM : World → Prop} {SAt : World → Value → (Nat → Prop) → St → Prop} (w : World) (K : StoreK a w.heap.size EM SAt) (KE : ExpK EM) (KO : ExpO EM SAt) (h : EM w) (v0 : Value) (ss : List Sn) (day age count : Int) (v4 : Value) (l : List Ac) (v5 : Value) (needed : List ByteArray)
    (h0 : SnsAt w v0 ss) (h0l : ss.length ≤ maxLen) (h0z : SnsOk ss)
    (hv : AcsAt w v4 l) (hl : l.length ≤ maxLen) (hz : ∀ x ∈ l, x.2.1.size ≤ maxLen ∧ x.2.2.1.size ≤ maxLen) (hi : ∀ x ∈ l, -9223372036854775808 ≤ x.2.2.2 ∧ x.2.2.2 ≤ 9223372036854775807)
    (h5 : TxsAt w v5 needed) (h5l : needed.length ≤ maxLen) (h5z : ∀ t ∈ needed, t.size ≤ maxLen) :
    Calls Tryz.prog 3 #[v0, .int .i64 day, .int .i64 age, .int .i64 count, v4, v5] w fun e w' => e = .returned (.bool true) ∧ Below w.heap.size w w' := by
  have hex := expired_any KE w h
  have HK : Hid (StoreK a w.heap.size EM SAt) := K
  have HKE : Hid (ExpK EM) := KE
  have HKO : Hid (ExpO EM SAt) := KO
  have HE : Hid (EM w) := h
  have HLG : Hid (∀ W', Below w.heap.size w W' → Calls Tryz.prog 6 #[v4] W' fun e w' => e = .returned (.int .i64 (if acsLong l = true then 1 else 0)) ∧ w' = W') := fun W' hb => longActs_any v4 l W' (hv.below hb (Nat.le_refl _)) hl hz
  have HV : Hid (∀ W', Below w.heap.size w W' → AcsAt W' v4 l) := fun W' hb => hv.below hb (Nat.le_refl _)
  have HI : Hid (∀ x ∈ l, -9223372036854775808 ≤ x.2.2.2 ∧ x.2.2.2 ≤ 9223372036854775807) := hi
  have H0 : Hid (∀ W', Below w.heap.size w W' → SnsAt W' v0 ss) := fun W' hb => h0.below hb
  have HZ : Hid (SnsOk ss) := h0z
  have H5 : Hid (∀ W', Below w.heap.size w W' → TxsAt W' v5 needed) := fun W' hb => h5.below hb
  have H5Z : Hid (∀ t ∈ needed, t.size ≤ maxLen) := h5z
  obtain ⟨q0, cap0, rfl⟩ := h0.form
  obtain ⟨q4, cap4, rfl⟩ := hv.form
  obtain ⟨q5, cap5, rfl⟩ := h5.form
  unfold maxLen at h0l hl h5l
  obtain ⟨L, hL⟩ : ∃ L, ss.length = L := ⟨_, rfl⟩
  have HL : Hid (ss.length = L) := hL
  obtain ⟨LA, hLA⟩ : ∃ L, l.length = L := ⟨_, rfl⟩
  have HLA : Hid (l.length = LA) := hLA
  obtain ⟨NL, hNL⟩ : ∃ L, needed.length = L := ⟨_, rfl⟩
  have HNL : Hid (needed.length = NL) := hNL
  rw [hL] at H0 h0l ⊢
  rw [hLA] at HLG HV hl ⊢
  rw [hNL] at H5 h5l ⊢
  clear K KE KO h h0 h0z hv hz hi h5 h5z hL hLA hNL
  by_cases t1 : 10 < L
  case pos =>
    have t1' : (10 : Int) < (L : Int) := by omega
    go_enter Tryz.func3, Tryz.ntmps3
    go_wp2_with fail
    refine hex.mono ?_
    rintro e w1 ⟨rfl, hb1⟩
    clear hex
    go_wp2
    go_ret
    exact ⟨rfl, hb1⟩
  case neg =>
  have t1' : ¬ (10 : Int) < (L : Int) := by omega
  cases hlong : acsLong l
  case true =>
    rw [hlong, if_pos rfl] at HLG
    clear hlong
    go_enter Tryz.func3, Tryz.ntmps3
    go_wp2_with fail
    refine hex.mono ?_
    rintro e w1 ⟨rfl, hb1⟩
    clear hex
    go_wp2_with fail
    refine (HLG.out w1 hb1).mono ?_
    rintro e w2 ⟨rfl, rfl⟩
    go_wp2
    go_ret
    exact ⟨rfl, hb1⟩
  case false =>
  obtain ⟨s1, s2⟩ := acs_short hlong
  have HSH : Hid (∀ x ∈ l, x.2.1.size ≤ 40 ∧ x.2.2.1.size ≤ 20001) := s2
  rw [HLA.out] at s1
  rw [hlong, if_neg (by simp)] at HLG
  clear hlong s2
  by_cases t2 : 20 < NL
  case pos =>
    have t2' : (20 : Int) < (NL : Int) := by omega
    go_enter Tryz.func3, Tryz.ntmps3
    go_wp2_with fail
    refine hex.mono ?_
    rintro e w1 ⟨rfl, hb1⟩
    clear hex
    go_wp2_with fail
    refine (HLG.out w1 hb1).mono ?_
    rintro e w2 ⟨rfl, rfl⟩
    go_wp2
    go_ret
    exact ⟨rfl, hb1⟩
  case neg =>
  have t2' : ¬ (20 : Int) < (NL : Int) := by omega
  go_enter Tryz.func3, Tryz.ntmps3
  go_wp2_with fail
  refine hex.mono ?_
  rintro e w1 ⟨rfl, hb1⟩
  clear hex
  go_wp2_with fail
  refine (HLG.out w1 hb1).mono ?_
  rintro e w2 ⟨rfl, hw2⟩
  rw [hw2]
  clear HLG hw2
  go_wp2
  go_loopw [14, 15, 16] (fun o i _ wr => ∃ n : Nat, n ≤ L ∧ i = .int .i64 n ∧ SnOwn wr w1.heap.size o (ss.take n) ∧ Below w1.heap.size w1 wr ∧ ∀ s ∈ ss.take n, longSn s = false) (fun _ i _ _ => L - (intOf i).toNat)
  case atStart => exact ⟨0, by omega, rfl, SnOwn.nil _ _, Below.refl _ _, fun _ h => by simp at h⟩
  case round =>
    obtain ⟨n, hn, rfl, hso, hb, hsh⟩ := hrel
    have HSO : Hid (SnOwn wr w1.heap.size u14 (ss.take n)) := hso
    have HLS : Hid (∀ s ∈ ss.take n, longSn s = false) := hsh
    have hBw : Below w.heap.size w wr := hb1.trans (hb.mono hb1.size)
    clear hso hsh
    by_cases hlt : n < L
    case pos =>
      have hltx : n < ss.length := by rw [HL.out]; exact hlt
      obtain ⟨g, o, hq, hc⟩ := (H0.out w (Below.refl _ _)).cells (fun e => by rw [e] at hltx; simp at hltx)
      subst hq
      obtain ⟨c0, c3, vf, c6, hfs, c1, c2, c4, c5⟩ := hc n hltx
      have hzn := HZ.out ss[n] (List.getElem_mem _)
      obtain ⟨-, z5, z6, z7⟩ := hzn
      have hfb : ∀ W, Below w.heap.size w W → FlsAt W vf ss[n].2.2.2.2.2.2 := fun W hW => hfs.below hW
      have hls := longSnap_any ss[n] vf wr (hfb wr hBw) z5 z6 z7
      have HOS : Hid (∀ W, Below w.heap.size w W → ss[n].2.2.2.2.2.2.length ≤ 1000 → Calls Tryz.prog 8 #[snV ss[n] vf] W fun e w' => ∃ v', e = .returned (snV ss[n] v') ∧ FlsAt w' v' ss[n].2.2.2.2.2.2 ∧ (∀ k, v'.ownBlock = some k → W.heap.size ≤ k) ∧ Below W.heap.size W w') := fun W hW hlen => ownSnapN_any ss[n] vf W (hfb W hW) hlen
      have HTK : Hid (ss.take (n + 1) = ss.take n ++ [ss[n]]) := (List.take_append_getElem hltx).symm
      have HCC : Hid (∀ W, Below w.heap.size w W → W.cell? ⟨g, o + n * 7, none⟩ = some (.int .i64 ss[n].1) ∧ W.cell? ⟨g, o + n * 7 + 1, none⟩ = some (.int .i64 ss[n].2.1) ∧ W.cell? ⟨g, o + n * 7 + 2, none⟩ = some (.int .i64 ss[n].2.2.1) ∧ W.cell? ⟨g, o + n * 7 + 3, none⟩ = some (.int .i64 ss[n].2.2.2.1) ∧ W.cell? ⟨g, o + n * 7 + 4, none⟩ = some (.int .i64 ss[n].2.2.2.2.1) ∧ W.cell? ⟨g, o + n * 7 + 5, none⟩ = some (.string ss[n].2.2.2.2.2.1) ∧ W.cell? ⟨g, o + n * 7 + 6, none⟩ = some vf) := fun W hW => ⟨below_keep hW c0, below_keep hW c1, below_keep hW c2, below_keep hW c3, below_keep hW c4, below_keep hW c5, below_keep hW c6⟩
      have hi1 : (n : Int) < (L : Int) := by omega
      have hi0 : (0 : Int) ≤ (n : Int) := by omega
      have hbx := longSn_no (s := ss[n])
      have HTL : Hid ((ss.take n).length ≤ 1000) := by
        show _ ≤ _
        rw [List.length_take]
        omega
      generalize ss[n] = sn at *
      obtain ⟨k0, k1, k2, k3, k4, k5, k6⟩ := HCC.out wr hBw
      obtain ⟨g0, g1, g2, g3, g4, g5, fs⟩ := sn
      obtain ⟨fq, fc, rfl⟩ := (hfb w (Below.refl _ _)).form
      dsimp only at *
      generalize fs.length = FL at *
      unfold snV at hls HOS
      dsimp only at hls HOS
      clear hc hltx hfs c0 c1 c2 c3 c4 c5 c6 z5 z6 z7 hfb
      cases hlg : longSn (g0, g1, g2, g3, g4, g5, fs)
      case true =>
        rw [hlg, if_pos rfl] at hls
        clear hlg hbx
        go_wp2_with fail
        refine hls.mono ?_
        rintro e w3 ⟨rfl, hb3⟩
        have hB3 : Below w.heap.size w w3 := hBw.trans (hb3.mono hBw.size)
        clear hls hb3
        go_wp2
        go_ret
        exact ⟨rfl, hB3⟩
      case false =>
        obtain ⟨-, hfl, -⟩ := hbx hlg
        have HL2 : Hid (∀ s ∈ ss.take (n + 1), longSn s = false) := fun s hs => by
          rw [HTK.out] at hs
          rcases List.mem_append.1 hs with hs | hs
          · exact HLS.out s hs
          · rw [List.mem_singleton] at hs
            rw [hs]
            exact hlg
        rw [hlg, if_neg (by simp)] at hls
        clear hlg hbx HLS
        go_wp2_with fail
        refine hls.mono ?_
        rintro e w3 ⟨rfl, hb3⟩
        have hB3 : Below w.heap.size w w3 := hBw.trans (hb3.mono hBw.size)
        have h13 : Below w1.heap.size w1 w3 := hb.trans (hb3.mono hb.size)
        have HSO3 : Hid (SnOwn w3 w1.heap.size u14 (ss.take n)) := HSO.out.below hb3
        obtain ⟨m0, m1, m2, m3, m4, m5, m6⟩ := HCC.out w3 hB3
        have hos := HOS.out w3 hB3 (by omega)
        clear hls hb3 k0 k1 k2 k3 k4 k5 k6 HSO HOS HCC
        go_wp2_with fail
        refine hos.mono ?_
        rintro e w4 ⟨v', rfl, hf4, hnw, hb4⟩
        obtain ⟨nq, nc, hnf⟩ := hf4.form
        subst hnf
        have h14 : Below w1.heap.size w1 w4 := h13.trans (hb4.mono h13.size)
        have hal : Below w4.heap.size w4 (w4.alloc (.cells #[.int .i64 g0, .int .i64 g1, .int .i64 g2, .int .i64 g3, .int .i64 g4, .string g5, .slice nq fs.length nc] 30)) := (Below.refl _ _).alloc (Nat.le_refl _) _
        have hsn : SnAt (w4.alloc (.cells #[.int .i64 g0, .int .i64 g1, .int .i64 g2, .int .i64 g3, .int .i64 g4, .string g5, .slice nq fs.length nc] 30)) w4.heap.size (g0, g1, g2, g3, g4, g5, fs) (.slice nq fs.length nc) := heap_alloc_new _ _
        have h15 := h14.trans (hal.mono h14.size)
        have HOW : Hid (∀ k, u14.ownBlock = some k → k < w3.heap.size) := fun k hk => (HSO3.out.blk hk).2
        obtain ⟨v8, W8, hr8, hso8, hb8⟩ := ((HSO3.out.below hb4).below hal).run h15.size (g0, g1, g2, g3, g4, g5, fs) nq fs.length nc (hf4.below hal) (fun _ k hk e => by have h1 := hnw k hk; have h2 := HOW.out k e; omega) HTL.out
        have h18 : Below w1.heap.size w1 W8 := h15.trans hb8
        have HSO8 : Hid (SnOwn W8 w1.heap.size v8 (ss.take (n + 1))) := by
          show SnOwn _ _ _ _
          rw [HTK.out]
          exact hso8
        have hfsz : (w4.alloc (.cells #[.int .i64 g0, .int .i64 g1, .int .i64 g2, .int .i64 g3, .int .i64 g4, .string g5, .slice nq fs.length nc] 30)).heap.size = w4.heap.size + 1 := by simp
        dsimp only at hr8
        rw [hfsz] at hr8
        clear hso8 hb8 hos hf4 hnw hb4 HSO3 HTK HTL HOW h13 h14 h15 hal hsn hfsz
        generalize fs.length = FL2 at *
        go_upto_region 11 with fail
        go_wp2_with (at_builtin; refine wpList_append_run (by rfl) _ _ _ (by rfl) _ _ _ (by rfl) (by rfl) hr8 ?_)
        go_roundw
        case rel => exact ⟨n + 1, by omega, by go_num, HSO8.out, h18, HL2.out⟩
        case measure => simp [intOf]; omega
    case neg =>
      obtain rfl : n = L := by omega
      have hii : ¬ (n : Int) < (n : Int) := by omega
      have htk : ss.take n = ss := List.take_of_length_le (by rw [HL.out]; exact Nat.le_refl _)
      have HNS : Hid (∀ W, Below wr.heap.size wr W → SnsAt W u14 ss) := fun W hW => by
        have h' := HSO.out.sns
        rw [htk] at h'
        exact h'.below hW
      have HOK : Hid (∀ s ∈ ss, SnOk s) := fun s hs => (HZ.out s hs).1
      have H61 : Hid (∀ s ∈ ss, s.2.2.2.2.2.2.length ≤ 61) := fun s hs => (longSn_no (HLS.out s (by rw [htk]; exact hs))).2.1
      have HFN : Hid ((ss.flatMap needS).length ≤ 900) := by
        have h1 := flat_need H61.out
        have h2 := HL.out
        show _ ≤ _
        omega
      have E0 := HK.out.below _ _ HE.out hBw
      have hke := HKE.out.keep u14 ss day age count wr E0 (HNS.out wr (Below.refl _ _)) (by rw [HL.out]; omega) HOK.out
      have HKL : Hid ((keepL day age count ss).length ≤ 20000) := Nat.le_trans (keepL_len _ _ _ _) (by rw [HL.out]; omega)
      have HRL : Hid ((reachL ss).length ≤ 1000) := Nat.le_trans (reachL_len ss) (Nat.le_trans HFN.out (by decide))
      have HKF : Hid (∀ W, Below w.heap.size w W → Calls Tryz.prog 11 #[.slice q0 n cap0, .int .i64 day, .int .i64 age, .int .i64 count] W fun e w' => ∃ v', e = .returned v' ∧ w'.ownsRow W.heap.size 3 1 v' (keepL day age count ss).length ((keepL day age count ss).map (Value.int .i64)) ∧ Below W.heap.size W w') := fun W hW => keepOf_any _ ss day age count W (H0.out W hW) (by rw [HL.out]; omega) (fun s hs => (HOK.out s hs).2)
      have HRE : Hid (∀ W, EM W → Below wr.heap.size wr W → Calls Tryz.prog 13 #[u14] W fun e w' => ∃ v', e = .returned v' ∧ TxsAt w' v' (reachL ss) ∧ Below W.heap.size W w') := fun W hE hW => HKE.out.reach u14 ss W hE (HNS.out W hW) (by rw [HL.out]; omega) HOK.out H61.out
      have HRF : Hid (∀ W, Below w.heap.size w W → Calls Tryz.prog 14 #[.slice q0 n cap0] W fun e w' => ∃ v', e = .returned v' ∧ TsAt w' v' (reachL ss) ∧ Below W.heap.size W w') := fun W hW => reachOf_any _ ss W (H0.out W hW) HFN.out (fun s hs => (HOK.out s hs).1)
      generalize keepL day age count ss = KL at hke HKL HKF
      generalize reachL ss = RL at HRL HRE HRF
      clear htk HSO HLS
      go_wp2_with fail
      refine hke.mono ?_
      rintro e w3 ⟨v3, rfl, hk3, hb3⟩
      have hB3 : Below w.heap.size w w3 := hBw.trans (hb3.mono hBw.size)
      have hr3 : Below wr.heap.size wr w3 := hb3
      clear hke hb3 E0
      go_wp2_with fail
      refine (HKF.out w3 hB3).mono ?_
      rintro e w4 ⟨v4', rfl, ho4, hb4⟩
      have hB4 : Below w.heap.size w w4 := hB3.trans (hb4.mono hB3.size)
      have hr4 : Below wr.heap.size wr w4 := hr3.trans (hb4.mono hr3.size)
      have hsi := sameInts_yes v3 v4' KL w4 (hk3.below hb4) (keys_own ho4) HKL.out
      clear HKF hk3 ho4 hb4 hB3 hr3
      go_wp2_with fail
      refine hsi.mono ?_
      rintro e w5 ⟨rfl, hb5⟩
      have hB5 : Below w.heap.size w w5 := hB4.trans (hb5.mono hB4.size)
      have hr5 : Below wr.heap.size wr w5 := hr4.trans (hb5.mono hr4.size)
      clear hsi hb5 hB4 hr4
      go_wp2_with fail
      refine (HRE.out w5 (HK.out.below _ _ HE.out hB5) hr5).mono ?_
      rintro e w6 ⟨v6, rfl, ht6, hb6⟩
      have hB6 : Below w.heap.size w w6 := hB5.trans (hb6.mono hB5.size)
      clear HRE hb6 hB5 hr5
      go_wp2_with fail
      refine (HRF.out w6 hB6).mono ?_
      rintro e w7 ⟨v7, rfl, ht7, hb7⟩
      have hB7 : Below w.heap.size w w7 := hB6.trans (hb7.mono hB6.size)
      have hst := sameTexts_yes v6 v7 RL w7 (ht6.below hb7) (ts_txs ht7) HRL.out
      clear HRF ht6 ht7 hb7 hB6
      go_wp2_with fail
      refine hst.mono ?_
      rintro e w8 ⟨rfl, hb8⟩
      have hB8 : Below w.heap.size w w8 := hB7.trans (hb8.mono hB7.size)
      have E8 := HK.out.below _ _ HE.out hB8
      clear hst hb8 hB7 HNS HOK H61 HFN HKL HRL hb hBw
      go_wp2_with fail
      refine (HK.out.new w8 E8).mono ?_
      rintro e w9 ⟨v9, FP9, rfl, hs9, hn9, hb9⟩
      have S9 : Hid (SOk EM SAt w.heap.size w w9 v9 FP9 newS) := ⟨HK.out.below _ _ E8 (hb9.mono hB8.size), hB8.trans (hb9.mono hB8.size), Nat.le_refl _, hs9, fun k hk => Nat.le_trans hB8.size (hn9 k hk)⟩
      obtain ⟨p, rfl⟩ := HK.out.ptr _ _ _ _ hs9
      clear hs9 hn9 hb9 E8 hB8
      go_wp2_with fail
      refine (newStore_any w9).mono ?_
      rintro e w10 ⟨b, rfl, hm10, -, hb10, hB10⟩
      have B10 : Hid (Both EM SAt w.heap.size w w10 (.pointer (some p)) FP9 newS b newS) := both_new HK.out S9.out hm10 hb10 hB10
      clear hm10 hb10 hB10 S9
      go_wp2
      go_loopw [19] (fun k wr => ∃ (m : Nat) (s : St) (FP : Nat → Prop), m ≤ LA ∧ k = .int .i64 m ∧ Both EM SAt w.heap.size w wr (.pointer (some p)) FP s b s ∧ Keeps s ∧ s.cut ≤ 9223372036854775807 ∧ Aged s) (fun k _ => LA - (intOf k).toNat)
      case atStart => exact ⟨0, newS, FP9, by omega, rfl, B10.out, newS_keeps, by decide, newS_aged⟩
      case round =>
      clear B10
      obtain ⟨m, s, FP, hm, rfl, hB, hKs, hcx, hAg⟩ := hrel
      have BB : Hid (Both EM SAt w.heap.size w wr (.pointer (some p)) FP s b s) := hB
      have HKS : Hid (Keeps s) := hKs
      have HCX : Hid (s.cut ≤ 9223372036854775807) := hcx
      have HAG : Hid (Aged s) := hAg
      clear hB hKs hcx hAg
      by_cases hltm : m < LA
      case pos =>
        have hltx : m < l.length := by rw [HLA.out]; exact hltm
        obtain ⟨g, o, hq, -, hc⟩ := (HV.out wr BB.out.ok.frame).cells (fun e => by rw [e] at hltx; simp at hltx)
        subst hq
        obtain ⟨c0, c1, c2, c3⟩ := hc m hltx
        have hmem : l[m] ∈ l := List.getElem_mem hltx
        obtain ⟨z1, z2⟩ := HSH.out _ hmem
        have hdo := do_any HK.out w wr _ FP s b l[m] BB.out HKS.out HCX.out (by omega) (by omega) (HI.out _ hmem)
        have HK2 : Hid (Keeps (actS s l[m])) := actS_keeps HKS.out _
        have HC2 : Hid ((actS s l[m]).cut ≤ 9223372036854775807) := actS_top HCX.out _ (HI.out _ hmem).2
        have HA2 : Hid (Aged (actS s l[m])) := actS_aged HKS.out HAG.out _
        unfold acV at hdo
        generalize actS s l[m] = s' at *
        generalize l[m].1 = x1 at *
        generalize l[m].2.1 = x2 at *
        generalize l[m].2.2.1 = x3 at *
        generalize l[m].2.2.2 = x4 at *
        have hi2 : (m : Int) < (LA : Int) := by omega
        have hi3 : (0 : Int) ≤ (m : Int) := by omega
        clear hc hmem z1 z2 hltx
        go_wp2_with fail
        refine hdo.mono ?_
        rintro e w5 ⟨rfl, FP5, hB5⟩
        clear hdo
        have B5 : Hid (Both EM SAt w.heap.size w w5 (.pointer (some p)) FP5 s' b s') := hB5
        clear hB5
        go_wp2
        go_roundw
        case rel => exact ⟨m + 1, s', FP5, by omega, by go_num, B5.out, HK2.out, HC2.out, HA2.out⟩
        case measure => simp [intOf]; omega
      case neg =>
      obtain rfl : m = LA := by omega
      have hjj : ¬ (m : Int) < (m : Int) := by omega
      obtain ⟨W3, hW3⟩ : ∃ W, W = wr := ⟨_, rfl⟩
      subst hW3
      have hBW : Below w.heap.size w W3 := BB.out.ok.frame
      go_wp2
      go_loopw [20, 21] (fun o i wr => ∃ n : Nat, n ≤ NL ∧ i = .int .i64 n ∧ wr.ownsRow W3.heap.size 9 1 o (needed.take n).length ((needed.take n).map Value.string) ∧ Below W3.heap.size W3 wr) (fun _ i _ => NL - (intOf i).toNat)
      case atStart => exact ⟨0, by omega, rfl, World.ownsRow_nil _ _ _ _, Below.refl _ _⟩
      case round =>
      obtain ⟨r, hr, rfl, ho, hbr⟩ := hrel
      have HO : Hid (wr.ownsRow W3.heap.size 9 1 u20 (needed.take r).length ((needed.take r).map Value.string)) := ho
      have hBr : Below w.heap.size w wr := hBW.trans (hbr.mono hBW.size)
      clear ho
      by_cases hltr : r < NL
      case pos =>
        have hltx : r < needed.length := by rw [HNL.out]; exact hltr
        obtain ⟨g, o, hq, hc⟩ := (H5.out wr hBr).at (fun e => by rw [e] at hltx; simp at hltx)
        subst hq
        have c0 := hc r hltx
        have HTK : Hid (needed.take (r + 1) = needed.take r ++ [needed[r]]) := (List.take_append_getElem hltx).symm
        have hsz := H5Z.out needed[r] (List.getElem_mem _)
        unfold maxLen at hsz
        have hr1 : (r : Int) < (NL : Int) := by omega
        have hr0 : (0 : Int) ≤ (r : Int) := by omega
        generalize needed[r] = t at c0 HTK hsz
        clear hc hltx
        by_cases h40 : 40 < t.size
        case pos =>
          have h40' : (40 : Int) < (t.size : Int) := by omega
          go_wp2
          go_ret
          exact ⟨rfl, hBr⟩
        case neg =>
          have h40' : ¬ (40 : Int) < (t.size : Int) := by omega
          obtain ⟨v8, W8, hr8, ho8, hbut8, -⟩ := str_run HO.out hbr.size t rfl (by rw [List.length_take]; omega)
          have hB8 : Below W3.heap.size W3 W8 := hbr.trans (hbut8.below hbr.size (fun k hk => (own_blk HO.out hk).1))
          have HR : Hid (W8.ownsRow W3.heap.size 9 1 v8 (needed.take (r + 1)).length ((needed.take (r + 1)).map Value.string)) := by
            show World.ownsRow _ _ _ _ _ _ _
            rw [HTK.out]
            exact ho8
          clear HTK ho8 hbut8 HO
          go_upto_region 29 with fail
          go_wp2_with (at_builtin; refine wpList_append_run (by rfl) _ _ _ (by rfl) _ _ _ (by rfl) (by rfl) hr8 ?_)
          go_roundw
          case rel => exact ⟨r + 1, by omega, by go_num, HR.out, hB8⟩
          case measure => simp [intOf]; omega
      case neg =>
      obtain rfl : r = NL := by omega
      have hkk : ¬ (r : Int) < (r : Int) := by omega
      have HTX : Hid (∀ W, Below wr.heap.size wr W → TxsAt W u20 needed) := fun W hW => by
        have h' := txs_of_own HO.out
        rw [List.take_of_length_le (by rw [HNL.out]; exact Nat.le_refl _)] at h'
        exact h'.below hW
      have BR : Hid (Both EM SAt w.heap.size w wr (.pointer (some p)) FP s b s) := BB.out.quiet HK.out hbr
      have hor := HKO.out.orph wr _ FP s u20 needed age BR.out.ok.env BR.out.ok.at_ HKS.out HAG.out (HTX.out wr (Below.refl _ _)) (by rw [HNL.out]; omega)
      have HOF : Hid (∀ W, Below wr.heap.size wr W → Calls Tryz.prog 19 #[.pointer (some ⟨b, 0, none⟩), .slice q5 r cap5, .int .i64 age] W fun e w' => ∃ v', e = .returned v' ∧ TsAt w' v' (orphL s needed age) ∧ Below W.heap.size W w') := fun W hW => orphansOf_any b s _ needed age W (BR.out.mat.below hW) (H5.out W (hBr.trans (hW.mono hBr.size))) (Nat.le_trans HKS.out.many (by decide)) (by rw [HNL.out]; omega) (fun o ho => by
        have h1 := HAG.out o ho
        have h2 := HKS.out.day0
        have h3 := HKS.out.day1
        omega)
      have HOL : Hid ((orphL s needed age).length ≤ 1000) := Nat.le_trans (orphL_len _ _ _) (Nat.le_trans HKS.out.many (by decide))
      have HON : Hid (∀ W, Calls Tryz.prog 18 #[.pointer none, u20, .int .i64 age] W fun e w' => e = .returned (.slice none 0 0) ∧ Below W.heap.size W w') := fun W => HKO.out.none W u20 age
      generalize orphL s needed age = OL at hor HOF HOL
      clear HO HTX BB BR
      go_wp2_with fail
      refine hor.mono ?_
      rintro e x1 ⟨y1, rfl, ht1, hb1'⟩
      clear hor
      go_wp2_with fail
      refine (HOF.out x1 hb1').mono ?_
      rintro e x2 ⟨y2, rfl, ht2, hb2'⟩
      have hR2 : Below wr.heap.size wr x2 := hb1'.trans (hb2'.mono hb1'.size)
      have hst := sameTexts_yes y1 y2 OL x2 (ht1.below hb2') (ts_txs ht2) HOL.out
      clear HOF ht1 ht2 hb1' hb2'
      go_wp2_with fail
      refine hst.mono ?_
      rintro e x3 ⟨rfl, hb3'⟩
      have hR3 : Below wr.heap.size wr x3 := hR2.trans (hb3'.mono hR2.size)
      clear hst hb3' hR2
      go_wp2_with fail
      refine (HON.out x3).mono ?_
      rintro e x4 ⟨rfl, hb4'⟩
      have hR4 : Below wr.heap.size wr x4 := hR3.trans (hb4'.mono hR3.size)
      have hB4 : Below w.heap.size w x4 := hBr.trans (hR4.mono hBr.size)
      clear HON hb4' hR3 hR4
      go_wp2
      go_ret
      exact ⟨rfl, hB4⟩
end Go.Proofs.YtbdhdlloihkibaaGreatDoor
namespace Go.Proofs.YtbdhdlloihkibaaGreatDoor
open Go
set_option maxRecDepth 100000

theorem expireTells_inPlace : Tryz.prog.inPlace 3 = Rows.expireTellsRow.inPlace := by kernel_rfl
theorem expireTells_unfollowed : Tryz.prog.unfollowed 3 = true := by kernel_rfl
theorem expireTells_recurses : Tryz.prog.recurses 3 = true := by unfold Program.recurses; rw [expireTells_unfollowed]; rfl
theorem expireTells_named : Tryz.prog.varsNamed 3 = Rows.expireTellsRow.named := by kernel_rfl
theorem expireTells_facts : joinedFacts Tryz.prog 3 Tryz.f3 Rows.expireTellsSpec Rows.expireTellsRow = true := by
  unfold joinedFacts
  rw [expireTells_inPlace, expireTells_unfollowed, expireTells_recurses, expireTells_named]
  kernel_rfl
end Go.Proofs.YtbdhdlloihkibaaGreatDoor
