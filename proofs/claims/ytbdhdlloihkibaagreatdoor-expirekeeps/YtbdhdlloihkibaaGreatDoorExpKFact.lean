/-
  The closed facts of ExpireKeeps's row, one declaration each: together they take more than ten gigabytes.
-/
import Derived.Test.YtbdhdlloihkibaaGreatDoorStoUp
import Derived.Test.YtbdhdlloihkibaaGreatDoorRows
import Derived.JoinedOf
namespace Go.Proofs.YtbdhdlloihkibaaGreatDoor
open Go.RowKit Go.Extern.Stop Go.Stop Go.Extern Go.Sort Go.Shelf Go.Lib

structure ExpD (SAt : World → Value → (Nat → Prop) → St → Prop) : Prop where
  day : ∀ (W : World) (v : Value) (FP : Nat → Prop) (s : St), SAt W v FP s → Calls Tryz.prog 23 #[v] W fun e w' => e = .returned (.int .i64 s.day) ∧ w' = W
  born : ∀ (W : World) (v : Value) (FP : Nat → Prop) (s : St) (n : ByteArray), SAt W v FP s → n.size ≤ 1000 → Calls Tryz.prog 24 #[v, .string n] W fun e w' => e = .returned (.int .i64 (bornO s.obs n)) ∧ w' = W

theorem keys_at {w : World} {q : Option Addr} {n c : Nat} {zs : List Int} (h : KeysAt w (.slice q n c) zs) (hne : zs ≠ []) : ∃ b o, q = some ⟨b, o, none⟩ ∧ ∀ j (h : j < zs.length), w.cell? ⟨b, o + j, none⟩ = some (.int .i64 zs[j]) := by
  rcases h with ⟨p, c', _, e⟩ | ⟨b, o, cap, e, hc⟩
  · exact absurd e hne
  · injection e with e1
    exact ⟨b, o, e1, hc⟩
theorem nm_short {s : St} (K : Keeps s) {n : Nat} (hn : n < s.obs.length) : s.obs[n].1.size ≤ 1000 := by
  have := K.names _ (List.getElem_mem hn)
  simp only [objB, Bool.and_eq_true, decide_eq_true_eq] at this
  rw [← size_list]
  omega

set_option maxRecDepth 100000 in
set_option maxHeartbeats 16000000 in
theorem expireKeeps_any {a : Nat → Addr} {EM : World → Prop} {SAt : World → Value → (Nat → Prop) → St → Prop} (w : World) (K : StoreK a w.heap.size EM SAt) (KE : ExpK EM) (KO : ExpO EM SAt) (KD : ExpD SAt) (h : EM w) (v0 : Value) (ss : List Sn) (day age count : Int) (v4 : Value) (l : List Ac)
    (h0 : SnsAt w v0 ss) (h0l : ss.length ≤ maxLen) (h0z : SnsOk ss)
    (hv : AcsAt w v4 l) (hl : l.length ≤ maxLen) (hz : ∀ x ∈ l, x.2.1.size ≤ maxLen ∧ x.2.2.1.size ≤ maxLen) (hi : ∀ x ∈ l, -9223372036854775808 ≤ x.2.2.2 ∧ x.2.2.2 ≤ 9223372036854775807) :
    Calls Tryz.prog 4 #[v0, .int .i64 day, .int .i64 age, .int .i64 count, v4] w fun e w' => e = .returned (.bool true) ∧ Below w.heap.size w w' := by
  have hex := expired_any KE w h
  have HK : Hid (StoreK a w.heap.size EM SAt) := K
  have HKE : Hid (ExpK EM) := KE
  have HKO : Hid (ExpO EM SAt) := KO
  have HKD : Hid (ExpD SAt) := KD
  have HE : Hid (EM w) := h
  have HLG : Hid (∀ W', Below w.heap.size w W' → Calls Tryz.prog 6 #[v4] W' fun e w' => e = .returned (.int .i64 (if acsLong l = true then 1 else 0)) ∧ w' = W') := fun W' hb => longActs_any v4 l W' (hv.below hb (Nat.le_refl _)) hl hz
  have HV : Hid (∀ W', Below w.heap.size w W' → AcsAt W' v4 l) := fun W' hb => hv.below hb (Nat.le_refl _)
  have HI : Hid (∀ x ∈ l, -9223372036854775808 ≤ x.2.2.2 ∧ x.2.2.2 ≤ 9223372036854775807) := hi
  have H0 : Hid (∀ W', Below w.heap.size w W' → SnsAt W' v0 ss) := fun W' hb => h0.below hb
  have HZ : Hid (SnsOk ss) := h0z
  obtain ⟨q0, cap0, rfl⟩ := h0.form
  obtain ⟨q4, cap4, rfl⟩ := hv.form
  unfold maxLen at h0l hl
  obtain ⟨L, hL⟩ : ∃ L, ss.length = L := ⟨_, rfl⟩
  have HL : Hid (ss.length = L) := hL
  obtain ⟨LA, hLA⟩ : ∃ L, l.length = L := ⟨_, rfl⟩
  have HLA : Hid (l.length = LA) := hLA
  rw [hL] at H0 h0l ⊢
  rw [hLA] at HLG HV hl ⊢
  clear K KE KO KD h h0 h0z hv hz hi hL hLA
  by_cases t1 : 10 < L
  case pos =>
    have t1' : (10 : Int) < (L : Int) := by omega
    go_enter Tryz.func4, Tryz.ntmps4
    go_wp2_with fail
    refine hex.mono ?_
    rintro e w1 ⟨rfl, hb1⟩
    clear hex
    go_wp2
    go_ret
    exact ⟨rfl, hb1⟩
  case neg =>
  have t1' : ¬ (10 : Int) < (L : Int) := by omega
  cases hlong : acsLong l
  case true =>
    rw [hlong, if_pos rfl] at HLG
    clear hlong
    go_enter Tryz.func4, Tryz.ntmps4
    go_wp2_with fail
    refine hex.mono ?_
    rintro e w1 ⟨rfl, hb1⟩
    clear hex
    go_wp2_with fail
    refine (HLG.out w1 hb1).mono ?_
    rintro e w2 ⟨rfl, rfl⟩
    go_wp2
    go_ret
    exact ⟨rfl, hb1⟩
  case false =>
  obtain ⟨s1, s2⟩ := acs_short hlong
  have HSH : Hid (∀ x ∈ l, x.2.1.size ≤ 40 ∧ x.2.2.1.size ≤ 20001) := s2
  rw [HLA.out] at s1
  rw [hlong, if_neg (by simp)] at HLG
  clear hlong s2
  go_enter Tryz.func4, Tryz.ntmps4
  go_wp2_with fail
  refine hex.mono ?_
  rintro e w1 ⟨rfl, hb1⟩
  clear hex
  go_wp2_with fail
  refine (HLG.out w1 hb1).mono ?_
  rintro e w2 ⟨rfl, hw2⟩
  rw [hw2]
  clear HLG hw2
  go_wp2
  go_loopw [12] (fun i wr => ∃ n : Nat, n ≤ L ∧ i = .int .i64 n ∧ Below w1.heap.size w1 wr ∧ ∀ s ∈ ss.take n, longSn s = false) (fun i _ => L - (intOf i).toNat)
  case atStart => exact ⟨0, by omega, rfl, Below.refl _ _, fun _ h => by simp at h⟩
  case round =>
  obtain ⟨n, hn, rfl, hb, hsh⟩ := hrel
  have HLS : Hid (∀ s ∈ ss.take n, longSn s = false) := hsh
  have hBw : Below w.heap.size w wr := hb1.trans (hb.mono hb1.size)
  clear hsh
  by_cases hlt : n < L
  case pos =>
    have hltx : n < ss.length := by rw [HL.out]; exact hlt
    obtain ⟨g, o, hq, hc⟩ := (H0.out w (Below.refl _ _)).cells (fun e => by rw [e] at hltx; simp at hltx)
    subst hq
    obtain ⟨c0, c3, vf, c6, hfs, c1, c2, c4, c5⟩ := hc n hltx
    have hzn := HZ.out ss[n] (List.getElem_mem _)
    obtain ⟨-, z5, z6, z7⟩ := hzn
    have hls := longSnap_any ss[n] vf wr (hfs.below hBw) z5 z6 z7
    have HTK : Hid (ss.take (n + 1) = ss.take n ++ [ss[n]]) := (List.take_append_getElem hltx).symm
    replace c0 := below_keep hBw c0
    replace c1 := below_keep hBw c1
    replace c2 := below_keep hBw c2
    replace c3 := below_keep hBw c3
    replace c4 := below_keep hBw c4
    replace c5 := below_keep hBw c5
    replace c6 := below_keep hBw c6
    have hi1 : (n : Int) < (L : Int) := by omega
    have hi0 : (0 : Int) ≤ (n : Int) := by omega
    generalize ss[n] = sn at *
    obtain ⟨g0, g1, g2, g3, g4, g5, fs⟩ := sn
    obtain ⟨fq, fc, rfl⟩ := hfs.form
    dsimp only at *
    generalize fs.length = FL at *
    unfold snV at hls
    dsimp only at hls
    clear hc hltx hfs z5 z6 z7
    cases hlg : longSn (g0, g1, g2, g3, g4, g5, fs)
    case true =>
      rw [hlg, if_pos rfl] at hls
      clear hlg
      go_wp2_with fail
      refine hls.mono ?_
      rintro e w3 ⟨rfl, hb3⟩
      have hB3 : Below w.heap.size w w3 := hBw.trans (hb3.mono hBw.size)
      clear hls hb3
      go_wp2
      go_ret
      exact ⟨rfl, hB3⟩
    case false =>
      have HL2 : Hid (∀ s ∈ ss.take (n + 1), longSn s = false) := fun s hs => by
        rw [HTK.out] at hs
        rcases List.mem_append.1 hs with hs | hs
        · exact HLS.out s hs
        · rw [List.mem_singleton] at hs
          rw [hs]
          exact hlg
      rw [hlg, if_neg (by simp)] at hls
      clear hlg HLS HTK
      go_wp2_with fail
      refine hls.mono ?_
      rintro e w3 ⟨rfl, hb3⟩
      have h13 : Below w1.heap.size w1 w3 := hb.trans (hb3.mono hb.size)
      clear hls hb3
      go_wp2
      go_roundw
      case rel => exact ⟨n + 1, by omega, by go_num, h13, HL2.out⟩
      case measure => simp [intOf]; omega
  case neg =>
  obtain rfl : n = L := by omega
  have hii : ¬ (n : Int) < (n : Int) := by omega
  have htk : ss.take n = ss := List.take_of_length_le (by rw [HL.out]; exact Nat.le_refl _)
  have HOK : Hid (∀ s ∈ ss, SnOk s) := fun s hs => (HZ.out s hs).1
  have H61 : Hid (∀ s ∈ ss, s.2.2.2.2.2.2.length ≤ 61) := fun s hs => (longSn_no (HLS.out s (by rw [htk]; exact hs))).2.1
  have HFN : Hid ((ss.flatMap needS).length ≤ 900) := by
    have h1 := flat_need H61.out
    have h2 := HL.out
    show _ ≤ _
    omega
  clear htk HLS
  by_cases a1 : age < 0
  · go_wp2
    go_ret
    exact ⟨rfl, hBw⟩
  by_cases a2 : 1073741824 ≤ age
  · go_wp2
    go_ret
    exact ⟨rfl, hBw⟩
  by_cases a3 : count < 0
  · go_wp2
    go_ret
    exact ⟨rfl, hBw⟩
  by_cases a4 : 100 < count
  · go_wp2
    go_ret
    exact ⟨rfl, hBw⟩
  by_cases a5 : day < 0
  · go_wp2
    go_ret
    exact ⟨rfl, hBw⟩
  by_cases a6 : 100000 < day
  · go_wp2
    go_ret
    exact ⟨rfl, hBw⟩
  have HKK : Hid (∀ (W : World) (ag co : Int), Below w.heap.size w W → Calls Tryz.prog 10 #[.slice q0 n cap0, .int .i64 day, .int .i64 ag, .int .i64 co] W fun e W' => ∃ v', e = .returned v' ∧ KeysAt W' v' (keepL day ag co ss) ∧ Below W.heap.size W W') := fun W ag co hW => HKE.out.keep _ ss day ag co W (HK.out.below _ _ HE.out hW) (H0.out W hW) (by rw [HL.out]; omega) HOK.out
  have HKA : Hid (∀ x ∈ keepL day age count ss, (keepL day (age + 1) count ss).contains x = true ∧ (keepL day age (count + 1) ss).contains x = true) := fun x hx => ⟨List.contains_iff_mem.2 (keep_age ⟨by omega, by omega⟩ ⟨by omega, by omega⟩ ss x hx), List.contains_iff_mem.2 (keep_count ss x hx)⟩
  have HKF : Hid (∀ h : ss ≠ [], (keepL day age count ss).contains (ss.getLast h).1 = true) := fun h => List.contains_iff_mem.2 (keep_last day age count ss h)
  have HK0 : Hid (ss = [] → (keepL day age count ss).length = 0) := fun e => by rw [e]; rfl
  have HX1 : Hid ((keepL day age count ss).length ≤ 10) := Nat.le_trans (keepL_len _ _ _ _) (by rw [HL.out]; omega)
  have HX2 : Hid ((keepL day (age + 1) count ss).length ≤ 10) := Nat.le_trans (keepL_len _ _ _ _) (by rw [HL.out]; omega)
  have HX3 : Hid ((keepL day age (count + 1) ss).length ≤ 10) := Nat.le_trans (keepL_len _ _ _ _) (by rw [HL.out]; omega)
  have k1 := HKK.out wr age count hBw
  go_wp2_with fail
  refine k1.mono ?_
  rintro e w3 ⟨x1, rfl, hx1, hb3⟩
  have hB3 : Below w.heap.size w w3 := hBw.trans (hb3.mono hBw.size)
  have k2 := HKK.out w3 (age + 1) count hB3
  clear k1 hb3
  go_wp2_with fail
  refine k2.mono ?_
  rintro e w4 ⟨x2, rfl, hx2, hb4⟩
  have hB4 : Below w.heap.size w w4 := hB3.trans (hb4.mono hB3.size)
  have k3 := HKK.out w4 age (count + 1) hB4
  have hx1' := hx1.below hb4
  clear k2 hb4 hx1 hB3
  go_wp2_with fail
  refine k3.mono ?_
  rintro e w5 ⟨x3, rfl, hx3, hb5⟩
  have hB5 : Below w.heap.size w w5 := hB4.trans (hb5.mono hB4.size)
  have HX1K : Hid (∀ W, Below w5.heap.size w5 W → KeysAt W x1 (keepL day age count ss)) := fun W hW => (hx1'.below hb5).below hW
  have HX2K : Hid (∀ W, Below w5.heap.size w5 W → KeysAt W x2 (keepL day (age + 1) count ss)) := fun W hW => (hx2.below hb5).below hW
  have HX3K : Hid (∀ W, Below w5.heap.size w5 W → KeysAt W x3 (keepL day age (count + 1) ss)) := fun W hW => hx3.below hW
  obtain ⟨xq, xc, rfl⟩ := hx1'.form
  clear k3 hb5 hx1' hx2 hx3 hB4 HKK hb hBw
  generalize keepL day age count ss = X1 at *
  generalize keepL day (age + 1) count ss = X2 at *
  generalize keepL day age (count + 1) ss = X3 at *
  obtain ⟨XL, hXL⟩ : ∃ k, X1.length = k := ⟨_, rfl⟩
  have HXL : Hid (X1.length = XL) := hXL
  rw [hXL] at HX1 HX1K HK0
  rw [hXL]
  clear hXL
  go_upto_region 14 with fail
  go_cut [119] from 95 to 118 (fun c wx => c = .bool false ∧ wx = w5)
  case first =>
    by_cases hL0 : n = 0
    case pos =>
      have hse : ss = [] := List.length_eq_zero_iff.1 (by rw [HL.out]; exact hL0)
      have hx0 := HK0.out hse
      have z1 : ¬ (0 : Int) < (n : Int) := by omega
      have z2 : ((n : Int) == 0) = true := by simp; omega
      have z3 : decide (0 < XL) = false := decide_eq_false (by omega)
      clear hse hx0 hL0
      go_wp2
      go_meet
      case rel => exact ⟨by first | rfl | rw [z3], by trivial⟩
    case neg =>
      have hne : ss ≠ [] := fun e => hL0 (by rw [← HL.out, e]; rfl)
      obtain ⟨k, hk⟩ : ∃ k, n = k + 1 := ⟨n - 1, by omega⟩
      have hkx : k < ss.length := by rw [HL.out]; omega
      obtain ⟨g, o, hq, hc⟩ := (H0.out w5 hB5).cells hne
      subst hq
      have c0 := (hc k hkx).1
      have hct := HKF.out hne
      have hlast : ss.getLast hne = ss[k] := by
        rw [List.getLast_eq_getElem]
        congr 1
        have := HL.out
        omega
      rw [hlast] at hct
      have hin := inInts_any (.slice xq XL xc) X1 ss[k].1 w5 (HX1K.out w5 (Below.refl _ _)) (by rw [HXL.out]; have := HX1.out; unfold maxLen; omega)
      rw [hct] at hin
      generalize ss[k].1 = id at c0 hin
      have z1 : (0 : Int) < (n : Int) := by omega
      have z2 : ((n : Int) == 0) = false := beq_eq_false_iff_ne.2 (by omega)
      have hw : IntKind.i64.wrap ((n : Int) - 1) = (k : Int) := by rw [IntWalk.i64_in _ (by omega)]; omega
      have hi1 : (k : Int) < (n : Int) := by omega
      have hi2 : (0 : Int) ≤ (k : Int) := by omega
      clear hc hkx hne hlast hct hk hL0 t1 t1' hn h0l hlt hii
      go_wp2_with fail
      refine hin.mono ?_
      rintro e w6 ⟨rfl, hw6⟩
      rw [hw6]
      clear hin hw6
      go_wp2
      go_meet
      case rel => exact ⟨rfl, by trivial⟩
  case rest =>
  obtain ⟨rfl, hwc⟩ := hcut
  subst hwc
  clear HKF HK0
  have hx10 : XL ≤ 10 := HX1.out
  go_wp2
  go_loopw [16] (fun i wr => ∃ m : Nat, m ≤ XL ∧ i = .int .i64 m ∧ wr = wc) (fun i _ => XL - (intOf i).toNat)
  case atStart => exact ⟨0, by omega, rfl, rfl⟩
  case round =>
  obtain ⟨m, hm, rfl, hwr⟩ := hrel
  subst hwr
  by_cases hltm : m < XL
  case pos =>
    have hmx : m < X1.length := by rw [HXL.out]; exact hltm
    obtain ⟨g, o, hq, hc⟩ := keys_at (HX1K.out wr (Below.refl _ _)) (fun e => by rw [e] at hmx; simp at hmx)
    subst hq
    have c0 := hc m hmx
    obtain ⟨e2, e3⟩ := HKA.out X1[m] (List.getElem_mem _)
    have i2 := inInts_any x2 X2 X1[m] wr (HX2K.out wr (Below.refl _ _)) (by have := HX2.out; unfold maxLen; omega)
    have i3 := inInts_any x3 X3 X1[m] wr (HX3K.out wr (Below.refl _ _)) (by have := HX3.out; unfold maxLen; omega)
    rw [e2] at i2
    rw [e3] at i3
    generalize X1[m] = z at c0 i2 i3
    have hi1 : (m : Int) < (XL : Int) := by omega
    have hi0 : (0 : Int) ≤ (m : Int) := by omega
    clear hc hmx e2 e3
    go_wp2_with fail
    refine i2.mono ?_
    rintro e w6 ⟨rfl, hw6⟩
    rw [hw6]
    clear i2 hw6
    go_wp2_with fail
    refine i3.mono ?_
    rintro e w7 ⟨rfl, hw7⟩
    rw [hw7]
    clear i3 hw7
    go_wp2
    go_roundw
    case rel => exact ⟨m + 1, by omega, by go_num, by trivial⟩
    case measure => simp [intOf]; omega
  case neg =>
  obtain rfl : m = XL := by omega
  have hjj : ¬ (m : Int) < (m : Int) := by omega
  have hre := HKE.out.reach _ ss wr (HK.out.below _ _ HE.out hB5) (H0.out wr hB5) (by rw [HL.out]; omega) HOK.out H61.out
  have HPN : Hid (∀ i j (hi : i < ss.length) (hj : j < ss[i].2.2.2.2.2.2.length), inT (reachL ss) ss[i].2.2.2.2.2.2[j].1 = true) := fun i j hi hj => path_needed hi hj
  have HRL : Hid ((reachL ss).length ≤ 1000) := Nat.le_trans (reachL_len ss) (Nat.le_trans HFN.out (by decide))
  generalize reachL ss = RL at hre HPN HRL
  clear HX1K HX2K HX3K HKA HX1 HX2 HX3
  go_wp2_with fail
  refine hre.mono ?_
  rintro e w6 ⟨v6, rfl, ht6, hb6⟩
  have hB6 : Below w.heap.size w w6 := hB5.trans (hb6.mono hB5.size)
  have HT6 : Hid (∀ W, Below w6.heap.size w6 W → TxsAt W v6 RL) := fun W hW => ht6.below hW
  clear hre ht6 hb6 hB5 HFN HOK
  go_wp2
  go_loopw [18, 19] (fun i _ wr => ∃ r : Nat, r ≤ n ∧ i = .int .i64 r ∧ wr = w6) (fun i _ _ => n - (intOf i).toNat)
  case atStart => exact ⟨0, by omega, rfl, rfl⟩
  case round =>
  obtain ⟨r, hr, rfl, hwr⟩ := hrel
  subst hwr
  by_cases hltr : r < n
  case pos =>
    have hrx : r < ss.length := by rw [HL.out]; exact hltr
    obtain ⟨g, o, hq, hc⟩ := (H0.out wr hB6).cells (fun e => by rw [e] at hrx; simp at hrx)
    subst hq
    obtain ⟨-, -, vf, c6, hfs, -⟩ := hc r hrx
    have HPR : Hid (∀ j (hj : j < ss[r].2.2.2.2.2.2.length), inT RL ss[r].2.2.2.2.2.2[j].1 = true) := fun j hj => HPN.out r j hrx hj
    have hfl := H61.out ss[r] (List.getElem_mem _)
    generalize ss[r].2.2.2.2.2.2 = fs at hfs HPR hfl
    obtain ⟨fq, fc, rfl⟩ := hfs.form
    have HFS : Hid (FlsAt wr (.slice fq fs.length fc) fs) := hfs
    obtain ⟨M, hM⟩ : ∃ k, fs.length = k := ⟨_, rfl⟩
    have HM : Hid (fs.length = M) := hM
    rw [hM] at c6 HFS hfl
    have hr1 : (r : Int) < (n : Int) := by omega
    have hr0 : (0 : Int) ≤ (r : Int) := by omega
    clear hc hrx hfs hM
    obtain ⟨Wk, hWk⟩ : ∃ W, W = wr := ⟨_, rfl⟩
    subst hWk
    go_wp2
    go_loopw [19] (fun k wx => ∃ j : Nat, j ≤ M ∧ k = .int .i64 j ∧ wx = Wk) (fun k _ => M - (intOf k).toNat)
    case atStart => exact ⟨0, by omega, rfl, rfl⟩
    case round =>
    obtain ⟨j, hj, rfl, hwx⟩ := hrel
    subst hwx
    by_cases hltj : j < M
    case pos =>
      have hjx : j < fs.length := by rw [HM.out]; exact hltj
      obtain ⟨fb, fo, hfq, hfc⟩ := HFS.out.cells (fun e => by rw [e] at hjx; simp at hjx)
      subst hfq
      have f0 := (hfc j hjx).1
      have hin := inTx_any fs[j].1 v6 RL wr (HT6.out wr (Below.refl _ _)) (Nat.le_trans HRL.out (by decide))
      rw [HPR.out j hjx] at hin
      generalize fs[j].1 = pth at f0 hin
      have hj1 : (j : Int) < (M : Int) := by omega
      have hj0 : (0 : Int) ≤ (j : Int) := by omega
      clear hfc hjx
      go_wp2_with fail
      refine hin.mono ?_
      rintro e w7 ⟨rfl, hw7⟩
      rw [hw7]
      clear hin hw7
      go_wp2
      go_roundw
      case rel => exact ⟨j + 1, by omega, by go_num, by trivial⟩
      case measure => simp [intOf]; omega
    case neg =>
      obtain rfl : j = M := by omega
      have hmm : ¬ (j : Int) < (j : Int) := by omega
      go_wp2
      go_roundw
      case rel => exact ⟨r + 1, by omega, by go_num, by trivial⟩
      case measure => simp [intOf]; omega
  case neg =>
  obtain rfl : r = n := by omega
  have hrr : ¬ (r : Int) < (r : Int) := by omega
  have E8 := HK.out.below _ _ HE.out hB6
  clear HPN H61
  obtain ⟨w8, hw8⟩ : ∃ W, W = wr := ⟨_, rfl⟩
  subst hw8
  have KU : Hid (StoreK a w8.heap.size (upE EM w8.heap.size) SAt) := HK.out.up hB6.size
  have E9 : upE EM w8.heap.size w8 := ⟨E8, Nat.le_refl _⟩
  clear E8
  go_wp2_with fail
  refine (KU.out.new w8 E9).mono ?_
  rintro e w9 ⟨v9, FP9, rfl, hs9, hn9, hb9⟩
  have S9 : Hid (SOk (upE EM w8.heap.size) SAt w8.heap.size w8 w9 v9 FP9 newS) := ⟨KU.out.below _ _ E9 hb9, hb9, Nat.le_refl _, hs9, hn9⟩
  obtain ⟨p, rfl⟩ := HK.out.ptr _ _ _ _ hs9
  clear hs9 hn9 hb9 E9
  go_wp2_with fail
  refine (newStore_any w9).mono ?_
  rintro e w10 ⟨b, rfl, hm10, -, hb10, hB10⟩
  have B10 : Hid (Both (upE EM w8.heap.size) SAt w8.heap.size w8 w10 (.pointer (some p)) FP9 newS b newS) := both_new KU.out S9.out hm10 hb10 hB10
  clear hm10 hb10 hB10 S9
  go_wp2
  go_loopw [22] (fun k wr => ∃ (m : Nat) (s : St) (FP : Nat → Prop), m ≤ LA ∧ k = .int .i64 m ∧ Both (upE EM w8.heap.size) SAt w8.heap.size w8 wr (.pointer (some p)) FP s b s ∧ Keeps s ∧ s.cut ≤ 9223372036854775807 ∧ Aged s) (fun k _ => LA - (intOf k).toNat)
  case atStart => exact ⟨0, newS, FP9, by omega, rfl, B10.out, newS_keeps, by decide, newS_aged⟩
  case round =>
  clear B10
  obtain ⟨t, s, FP, ht, rfl, hB, hKs, hcx, hAg⟩ := hrel
  have BB : Hid (Both (upE EM w8.heap.size) SAt w8.heap.size w8 wr (.pointer (some p)) FP s b s) := hB
  have HKS : Hid (Keeps s) := hKs
  have HCX : Hid (s.cut ≤ 9223372036854775807) := hcx
  have HAG : Hid (Aged s) := hAg
  clear hB hKs hcx hAg
  by_cases hltt : t < LA
  case pos =>
    have hltx : t < l.length := by rw [HLA.out]; exact hltt
    obtain ⟨g, o, hq, -, hc⟩ := (HV.out wr (hB6.trans (BB.out.ok.frame.mono hB6.size))).cells (fun e => by rw [e] at hltx; simp at hltx)
    subst hq
    obtain ⟨c0, c1, c2, c3⟩ := hc t hltx
    have hmem : l[t] ∈ l := List.getElem_mem hltx
    obtain ⟨z1, z2⟩ := HSH.out _ hmem
    have hdo := do_any KU.out w8 wr _ FP s b l[t] BB.out HKS.out HCX.out (by omega) (by omega) (HI.out _ hmem)
    have HK2 : Hid (Keeps (actS s l[t])) := actS_keeps HKS.out _
    have HC2 : Hid ((actS s l[t]).cut ≤ 9223372036854775807) := actS_top HCX.out _ (HI.out _ hmem).2
    have HA2 : Hid (Aged (actS s l[t])) := actS_aged HKS.out HAG.out _
    unfold acV at hdo
    generalize actS s l[t] = s' at *
    generalize l[t].1 = x1 at *
    generalize l[t].2.1 = x2 at *
    generalize l[t].2.2.1 = x3 at *
    generalize l[t].2.2.2 = x4 at *
    have hi2 : (t : Int) < (LA : Int) := by omega
    have hi3 : (0 : Int) ≤ (t : Int) := by omega
    clear hc hmem z1 z2 hltx
    go_wp2_with fail
    refine hdo.mono ?_
    rintro e w5 ⟨rfl, FP5, hB5⟩
    clear hdo
    have B5 : Hid (Both (upE EM w8.heap.size) SAt w8.heap.size w8 w5 (.pointer (some p)) FP5 s' b s') := hB5
    clear hB5
    go_wp2
    go_roundw
    case rel => exact ⟨t + 1, s', FP5, by omega, by go_num, B5.out, HK2.out, HC2.out, HA2.out⟩
    case measure => simp [intOf]; omega
  case neg =>
  obtain rfl : t = LA := by omega
  have htt : ¬ (t : Int) < (t : Int) := by omega
  have hor := HKO.out.orph wr _ FP s v6 RL age BB.out.ok.env.1 BB.out.ok.at_ HKS.out HAG.out (HT6.out wr BB.out.ok.frame) HRL.out
  have HIS : Hid (∀ i (hi : i < s.obs.length), inT (orphL s RL age) s.obs[i].1 = (decide (age ≤ s.day - bornO s.obs s.obs[i].1) && !inT RL s.obs[i].1)) := fun i hi => orph_is HKS.out RL age hi
  have HOL : Hid ((orphL s RL age).length ≤ 20000) := Nat.le_trans (orphL_len _ _ _) (Nat.le_trans HKS.out.many (by decide))
  generalize orphL s RL age = OL at hor HIS HOL
  go_wp2_with fail
  refine hor.mono ?_
  rintro e y1 ⟨ov, rfl, ht1, hb1'⟩
  have BY : Hid (Both (upE EM w8.heap.size) SAt w8.heap.size w8 y1 (.pointer (some p)) FP s b s) := BB.out.quiet KU.out hb1'
  clear hor hb1' BB
  go_wp2_with fail
  refine (KU.out.names y1 _ FP s BY.out.ok.env BY.out.ok.at_ HKS.out).mono ?_
  rintro e y2 ⟨nv, rfl, ht2, hb2'⟩
  have BZ : Hid (Both (upE EM w8.heap.size) SAt w8.heap.size w8 y2 (.pointer (some p)) FP s b s) := BY.out.quiet KU.out hb2'
  have HOV : Hid (∀ W, Below y2.heap.size y2 W → TxsAt W ov OL) := fun W hW => (ht1.below hb2').below hW
  have HNV : Hid (∀ W, Below y2.heap.size y2 W → TxsAt W nv (s.obs.map fun o => o.1)) := fun W hW => ht2.below hW
  have HRV : Hid (∀ W, Below y2.heap.size y2 W → TxsAt W v6 RL) := fun W hW => HT6.out W (BZ.out.ok.frame.trans (hW.mono BZ.out.ok.frame.size))
  have hBy : Below w.heap.size w y2 := hB6.trans (BZ.out.ok.frame.mono hB6.size)
  obtain ⟨nsq, nsc, hnf⟩ := ht2.form
  rw [List.length_map] at hnf
  subst hnf
  obtain ⟨NN, hNN⟩ : ∃ k, s.obs.length = k := ⟨_, rfl⟩
  have HNN : Hid (s.obs.length = NN) := hNN
  have hmany := HKS.out.many
  rw [hNN] at HNV hmany
  rw [hNN]
  clear hNN ht1 ht2 hb2' BY HT6
  go_wp2
  go_loopw [25, 26, 27, 28] (fun i _ _ _ wr => ∃ k : Nat, k ≤ NN ∧ i = .int .i64 k ∧ Below y2.heap.size y2 wr) (fun i _ _ _ _ => NN - (intOf i).toNat)
  case atStart => exact ⟨0, by omega, rfl, Below.refl _ _⟩
  case round =>
  obtain ⟨k, hk, rfl, hbk⟩ := hrel
  have hBk : Below w.heap.size w wr := hBy.trans (hbk.mono hBy.size)
  by_cases hltk : k < NN
  case neg =>
    obtain rfl : k = NN := by omega
    have hkk : ¬ (k : Int) < (k : Int) := by omega
    go_wp2
    go_ret
    exact ⟨rfl, hBk⟩
  case pos =>
  have hkx : k < s.obs.length := by rw [HNN.out]; exact hltk
  obtain ⟨g, o, hq, hc⟩ := (HNV.out wr hbk).at (fun e => by have h' := congrArg List.length e; rw [List.length_map] at h'; simp only [List.length_nil] at h'; omega)
  subst hq
  have c0 := hc k (by rw [List.length_map]; exact hkx)
  rw [List.getElem_map] at c0
  have hse := HIS.out k hkx
  have hnz := nm_short HKS.out hkx
  obtain ⟨b1, b2⟩ := born_aged HAG.out s.obs[k].1
  obtain ⟨d1, d2⟩ : 0 ≤ s.day ∧ s.day ≤ 100000 := ⟨HKS.out.day0, HKS.out.day1⟩
  have i1 := inTx_any s.obs[k].1 ov OL wr (HOV.out wr hbk) HOL.out
  have HI2 : Hid (∀ W, Below y2.heap.size y2 W → Calls Tryz.prog 21 #[.string s.obs[k].1, v6] W fun e w' => e = .returned (.bool (inT RL s.obs[k].1)) ∧ w' = W) := fun W hW => inTx_any s.obs[k].1 v6 RL W (HRV.out W hW) (Nat.le_trans HRL.out (by decide))
  have HDY : Hid (∀ W, Below wr.heap.size wr W → Calls Tryz.prog 23 #[.pointer (some p)] W fun e w' => e = .returned (.int .i64 s.day) ∧ w' = W) := fun W hW => HKD.out.day W _ FP s (BZ.out.quiet KU.out (hbk.trans (hW.mono hbk.size))).ok.at_
  have HBO : Hid (∀ W, Below wr.heap.size wr W → Calls Tryz.prog 24 #[.pointer (some p), .string s.obs[k].1] W fun e w' => e = .returned (.int .i64 (bornO s.obs s.obs[k].1)) ∧ w' = W) := fun W hW => HKD.out.born W _ FP s _ (BZ.out.quiet KU.out (hbk.trans (hW.mono hbk.size))).ok.at_ hnz
  have hk1 : (k : Int) < (NN : Int) := by omega
  have hk0 : (0 : Int) ≤ (k : Int) := by omega
  generalize bornO s.obs s.obs[k].1 = BO at *
  generalize s.obs[k].1 = nm at *
  generalize hDY : s.day = DY at *
  clear hDY hc hkx hnz
  generalize inT OL nm = IS at *
  generalize inT RL nm = IN at *
  go_wp2_with fail
  refine i1.mono ?_
  rintro e w7 ⟨rfl, hw7⟩
  rw [hw7]
  clear i1 hw7
  go_wp2
  go_quiet (first | (go_at_call 23; exact Calls.quiet_of_same (HDY.out _ (below_drewN (Below.refl _ _) _))) | (go_at_call 24; exact Calls.quiet_of_same (HBO.out _ (below_drewN (Below.refl _ _) _))))
  have hbr : Below wr.heap.size wr (wr.drewN nq) := below_drewN (Below.refl _ _) _
  have c1 := below_keep hbr c0
  have hb9 : Below y2.heap.size y2 (wr.drewN nq) := hbk.trans (hbr.mono hbk.size)
  have i2 := HI2.out _ hb9
  clear HI2 HDY HBO hbr c0
  generalize wr.drewN nq = W9 at *
  go_wp2_with fail
  refine i2.mono ?_
  rintro e w7' ⟨rfl, hw7'⟩
  rw [hw7']
  clear i2 hw7'
  go_upto_region 47 with fail
  generalize decide (age ≤ DY - BO) = OLD at *
  subst hse
  cases OLD
  case false =>
    go_wp2
    go_roundw
    case rel => exact ⟨k + 1, by omega, by go_num, hb9⟩
    case measure => simp [intOf]; omega
  case true =>
  cases IN
  case false =>
    go_wp2
    go_roundw
    case rel => exact ⟨k + 1, by omega, by go_num, hb9⟩
    case measure => simp [intOf]; omega
  case true =>
    go_wp2
    go_roundw
    case rel => exact ⟨k + 1, by omega, by go_num, hb9⟩
    case measure => simp [intOf]; omega
end Go.Proofs.YtbdhdlloihkibaaGreatDoor
namespace Go.Proofs.YtbdhdlloihkibaaGreatDoor
open Go
set_option maxRecDepth 100000

theorem expireKeeps_inPlace : Tryz.prog.inPlace 4 = Rows.expireKeepsRow.inPlace := by kernel_rfl
theorem expireKeeps_unfollowed : Tryz.prog.unfollowed 4 = true := by kernel_rfl
theorem expireKeeps_recurses : Tryz.prog.recurses 4 = true := by unfold Program.recurses; rw [expireKeeps_unfollowed]; rfl
theorem expireKeeps_named : Tryz.prog.varsNamed 4 = Rows.expireKeepsRow.named := by kernel_rfl
theorem expireKeeps_facts : joinedFacts Tryz.prog 4 Tryz.f4 Rows.expireKeepsSpec Rows.expireKeepsRow = true := by
  unfold joinedFacts
  rw [expireKeeps_inPlace, expireKeeps_unfollowed, expireKeeps_recurses, expireKeeps_named]
  kernel_rfl
end Go.Proofs.YtbdhdlloihkibaaGreatDoor
