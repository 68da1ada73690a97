/-
  A snap, as it came in.
-/
import Derived.Test.YtpkoefpdpoikkaaGreatDoorSetByte
import Derived.Deep.RegionWith
import Derived.ProofKit
import Derived.Deep.Strs
import Derived.HandedShaped
namespace Go.Proofs.YtpkoefpdpoikkaaGreatDoor
open Go.RowKit Go.Extern.Stop Go.Stop Go.Extern Go.Sort Go.Shelf Go.Lib

set_option maxRecDepth 100000 in
set_option maxHeartbeats 1000000 in
theorem coded2_err (n : Nat) (hn : n ≤ 12) (w : World) (a : Nat → Addr) (h : Errs w a) :
    Calls Tryz.prog 50 #[errV a n, .int .i64 n] w fun e w' => e = .returned (.bool true) ∧ Below w.heap.size w w' := by
  have hc := err_code n hn w a h
  generalize errV a n = v at hc ⊢
  go_enter Tryz.func50, Tryz.ntmps50
  go_wp2_with fail
  refine hc.mono ?_
  rintro e w' ⟨rfl, hw⟩
  go_wp2
  go_ret
  exact ⟨rfl, hw⟩

structure BackT (s : Sn) (T : ByteArray) (H B : Nat) : Prop where
  size : T.size = H + 1 + B
  low : H ≤ 100 ∧ B ≤ 6060
  ahead : ∀ n (_ : n < H) (h : n < T.size), ¬ (T[n].toNat : Int) = 10
  line : ∀ (h : H < T.size), (T[H].toNat : Int) = 10
  back : readS T.data.toList = (s, 0, none)
  other : ∀ m (c : UInt8) (_ : m < B) (h : H + 1 + m < T.size), T[H + 1 + m] ≠ c → readS (T.data.toList.set (H + 1 + m) c) = (zeroS, 10, none)

theorem backT {s : Sn} (h : (snapE s).1 = 0) : ∃ H B, BackT s (bytesOf (snapL s)) H B := by
  obtain ⟨l1, l2⟩ := snap_len h
  have hno := snapH_no_end (snap_good h).2.1 (sumL (listL s.2.2.2.2.2.2))
  have hd : (bytesOf (snapL s)).data.toList = snapL s := by simp [bytesOf]
  have hrd := snap_read h
  have hot := fun i c hi hc => @snap_other s h i c hi hc
  have hsz : (bytesOf (snapL s)).size = (snapL s).length := by rw [bytes_len]
  unfold snapL at hd hsz hrd ⊢
  generalize snapH s (sumL (listL s.2.2.2.2.2.2)) = hh at *
  generalize listL s.2.2.2.2.2.2 = bb at *
  generalize bytesOf (hh ++ 10 :: bb) = T at *
  have hsz' : T.size = hh.length + 1 + bb.length := by rw [hsz]; simp; omega
  have hget : ∀ n (h : n < T.size), (hh ++ 10 :: bb)[n]? = some T[n] := fun n h => by rw [← hd]; exact byte_list T n h
  refine ⟨hh.length, bb.length, hsz', ⟨l1, l2⟩, ?_, ?_, ?_, ?_⟩
  · intro n hn h e
    have h1 := hget n h
    rw [List.getElem?_append_left hn] at h1
    exact hno T[n] (List.mem_iff_getElem?.2 ⟨n, h1⟩) (UInt8.toNat_inj.1 (by have e10 : (10 : UInt8).toNat = 10 := rfl; omega))
  · intro h
    have h1 := hget hh.length h
    rw [List.getElem?_append_right (Nat.le_refl _), Nat.sub_self] at h1
    have h2 : T[hh.length] = 10 := (Option.some.inj h1).symm
    rw [h2]; rfl
  · rw [hd]; exact hrd
  · intro m c hm h hc
    have h1 := hget (hh.length + 1 + m) h
    rw [List.getElem?_append_right (by omega)] at h1
    have e1 : hh.length + 1 + m - hh.length = m + 1 := by omega
    rw [e1, List.getElem?_cons_succ, List.getElem?_eq_getElem hm] at h1
    have h2 := Option.some.inj h1
    rw [hd, List.set_append_right _ _ (by omega), e1, List.set_cons_succ]
    exact hot m c hm (fun e => hc (by rw [← h2]; exact e))

set_option maxRecDepth 100000 in
set_option maxHeartbeats 16000000 in
theorem snapBack_any (s : Sn) (q : Option Addr) (cap : Nat) (at_ : Int) (c : UInt8) (w : World) (a : Nat → Addr) (EP : World → Prop) (K : SnapK a EP) (h : EP w) (hE : Errs w a) (hx : FlsAt w (.slice q s.2.2.2.2.2.2.length cap) s.2.2.2.2.2.2) (ho : s.2.2.2.2.2.1.size ≤ maxLen) (hl : s.2.2.2.2.2.2.length ≤ maxLen) (hsz : ∀ g ∈ s.2.2.2.2.2.2, g.1.size ≤ maxLen ∧ g.2.1.size ≤ maxLen) (ha0 : -9223372036854775808 ≤ at_) (ha : at_ ≤ 9223372036854775807) :
    Calls Tryz.prog 7 #[snV s (.slice q s.2.2.2.2.2.2.length cap), .int .i64 at_, .int .u8 c.toNat] w fun e w' => e = .returned (.bool true) ∧ Below w.heap.size w w' := by
  have HL : Hid (∀ W, Below w.heap.size w W → EP W) := fun W hb => K.below _ _ h hb
  have HE : Hid (∀ W, Below w.heap.size w W → Errs W a) := fun W hb => hE.below hb
  have HX : Hid (∀ W, Below w.heap.size w W → FlsAt W (.slice q s.2.2.2.2.2.2.length cap) s.2.2.2.2.2.2) := fun W hb => hx.below hb
  have hda := fun W (hb : Below w.heap.size w W) => snapped_any W a EP K (HL.out W hb)
  have hlo := fun W (hb : Below w.heap.size w W) => longSnap_any s (.slice q s.2.2.2.2.2.2.length cap) W (HX.out W hb) ho hl hsz
  have hno := @longSn_no s
  generalize hLB : longSn s = LB at hlo hno
  clear hLB
  have HOW : Hid (∀ W, Below w.heap.size w W → LB = false → Calls Tryz.prog 47 #[snV s (.slice q s.2.2.2.2.2.2.length cap)] W fun e w' => ∃ v', e = .returned (snV s v') ∧ FlsAt w' v' s.2.2.2.2.2.2 ∧ Below W.heap.size W w') := fun W hb e => ownSnap_any s _ W (HX.out W hb) (by have := (hno e).2.1; omega)
  have HNO : Hid (LB = false → s.2.2.2.2.2.2.length ≤ 61 ∧ Short s.2.2.2.2.2.2) := fun e => (hno e).2
  have HTE0 : Hid (∀ W vf, EP W → FlsAt W vf s.2.2.2.2.2.2 → s.2.2.2.2.2.2.length ≤ 100 → Short s.2.2.2.2.2.2 → Calls Tryz.prog 46 #[snV s vf] W fun e w' => ∃ ev, e = .returned (.tuple #[.string (if (snapE s).1 = 0 then bytesOf (snapL s) else ⟨#[]⟩), ev]) ∧ ToldE w' a ev (snapE s) ∧ Below W.heap.size W w') := fun W vf => K.text W s vf
  have HSM : Hid (∀ W va, FlsAt W va s.2.2.2.2.2.2 → Below w.heap.size w W → s.2.2.2.2.2.2.length ≤ 61 → Calls Tryz.prog 49 #[snV s va, snV s (.slice q s.2.2.2.2.2.2.length cap)] W fun e w' => e = .returned (.bool true) ∧ Below W.heap.size W w') := fun W va hv hb h61 => sameSnap_yes s va _ W hv (HX.out W hb) (by omega)
  have HBK : Hid ((snapE s).1 = 0 → ∃ H B, BackT s (bytesOf (snapL s)) H B) := fun e => backT e
  generalize hSL : bytesOf (snapL s) = TL at HBK HTE0
  generalize hSE : snapE s = CE at HBK HTE0
  clear hSL hSE hx hno ho hsz
  obtain ⟨id, par, seq, day, idx, op, fs⟩ := s
  unfold snV at hlo HOW HTE0 HSM ⊢
  dsimp only at *
  obtain ⟨L, hL⟩ : ∃ L, fs.length = L := ⟨_, rfl⟩
  have HLE : Hid (fs.length = L) := hL
  rw [hL] at hl hlo HX HOW HNO HTE0 HSM ⊢
  clear hL
  have hal : Below w.heap.size w (w.alloc (.cells #[.int .i64 id, .int .i64 par, .int .i64 seq, .int .i64 day, .int .i64 idx, .string op, .slice q L cap] 74)) := (Below.refl _ _).alloc (Nat.le_refl _) _
  have hsn : SnAt (w.alloc (.cells #[.int .i64 id, .int .i64 par, .int .i64 seq, .int .i64 day, .int .i64 idx, .string op, .slice q L cap] 74)) w.heap.size (id, par, seq, day, idx, op, fs) (.slice q L cap) := SnAt.new w (id, par, seq, day, idx, op, fs) (.slice q L cap)
  unfold maxLen at hl
  have hd1 := hda _ hal
  clear hda
  go_enter Tryz.func7, Tryz.ntmps7
  go_wp2_with fail
  generalize w.alloc (.cells #[.int .i64 id, .int .i64 par, .int .i64 seq, .int .i64 day, .int .i64 idx, .string op, .slice q L cap] 74) = WA at hal hsn hd1 ⊢
  refine hd1.mono ?_
  rintro e w1 ⟨rfl, hb1⟩
  clear hd1
  have hB1 : Below w.heap.size w w1 := hal.trans (hb1.mono hal.size)
  have hs1 := hsn.below hb1
  clear hal hsn hb1
  obtain ⟨BT, hBT⟩ : ∃ B : Bool, B = (LB || decide (at_ < 0)) := ⟨_, rfl⟩
  go_upto_region 2 with fail
  go_cut [26] from 16 to 25 (fun c wx => c = .bool BT ∧ Below w1.heap.size w1 wx)
  case first =>
    obtain ⟨z0, z1, z2, z3, z4, z5, z6⟩ := hs1.cells
    dsimp only at z0 z1 z2 z3 z4 z5
    have hl1 := hlo w1 hB1
    clear hlo hs1
    cases LB
    · simp only [Bool.false_eq_true, if_false] at hl1
      by_cases i1 : at_ < 0
      · obtain rfl : BT = true := by rw [hBT]; simp [i1]
        clear hBT
        go_wp2_with fail
        refine hl1.mono ?_
        rintro e w2 ⟨rfl, hb2⟩
        go_wp2
        go_meet
        case rel => exact ⟨rfl, hb2⟩
      · obtain rfl : BT = false := by rw [hBT]; simp [i1]
        clear hBT
        go_wp2_with fail
        refine hl1.mono ?_
        rintro e w2 ⟨rfl, hb2⟩
        go_wp2
        go_meet
        case rel => exact ⟨by simp; omega, hb2⟩
    · obtain rfl : BT = true := by rw [hBT]; rfl
      simp only [if_true] at hl1
      clear hBT
      go_wp2_with fail
      refine hl1.mono ?_
      rintro e w2 ⟨rfl, hb2⟩
      go_wp2
      go_meet
      case rel => exact ⟨rfl, hb2⟩
  case rest =>
  obtain ⟨rfl, hb2⟩ := hcut
  have hB2 : Below w.heap.size w wc := hB1.trans (hb2.mono hB1.size)
  have hs2 := hs1.below hb2
  clear hlo hs1 hB1 hb2
  generalize wc = w2 at *
  cases BT
  case true =>
    clear hBT hs2
    go_wp2
    go_ret
    exact ⟨rfl, hB2⟩
  case false =>
  obtain ⟨hLB, hat⟩ : LB = false ∧ 0 ≤ at_ := by
    cases LB
    · exact ⟨rfl, by simpa using hBT⟩
    · simp at hBT
  clear hBT
  have HLX : Hid (L ≤ 61) := (HNO.out hLB).1
  have HSH : Hid (Short fs) := (HNO.out hLB).2
  obtain ⟨z0, z1, z2, z3, z4, z5, z6⟩ := hs2.cells
  dsimp only at z0 z1 z2 z3 z4 z5
  have ho2 := HOW.out w2 hB2 hLB
  clear HNO HOW
  go_wp2_with fail
  refine ho2.mono ?_
  rintro e w3 ⟨v3, rfl, hv3, hb3⟩
  clear ho2 z0 z1 z2 z3 z4 z5 z6
  have hB3 : Below w.heap.size w w3 := hB2.trans (hb3.mono hB2.size)
  have hs3 := hs2.below hb3
  clear hs2 hb3 hB2
  have ht3 := HTE0.out w3 v3 (HL.out w3 hB3) hv3 (by have := HLX.out; omega) HSH.out
  clear HTE0 HSH
  by_cases hEC : CE.1 = 0
  case neg =>
    rw [if_neg hEC] at ht3
    go_wp2_with fail
    refine ht3.mono ?_
    rintro e w4 ⟨ev, rfl, hev, hb4⟩
    clear ht3
    obtain ⟨tt, uu, rfl⟩ := hev.bad hEC
    clear hev
    have hB4 : Below w.heap.size w w4 := hB3.trans (hb4.mono hB3.size)
    go_wp2
    go_ret
    exact ⟨rfl, hB4⟩
  case pos =>
  rw [if_pos hEC] at ht3
  obtain ⟨H, B, hbt⟩ := HBK.out hEC
  have HBT : Hid (BackT (id, par, seq, day, idx, op, fs) TL H B) := hbt
  clear HBK
  obtain ⟨hTs, ⟨hH, hB⟩, -, -, -, -⟩ := hbt
  go_wp2_with fail
  refine ht3.mono ?_
  rintro e w4 ⟨ev, rfl, hev, hb4⟩
  clear ht3
  obtain rfl := hev.ok hEC
  clear hev hEC
  have hB4 : Below w.heap.size w w4 := hB3.trans (hb4.mono hB3.size)
  have hs4 := hs3.below hb4
  clear hs3 hb4 hB3 hv3
  have hr4 := K.read w4 TL (HL.out w4 hB4) (by unfold maxLen; omega)
  rw [HBT.out.back] at hr4
  go_wp2_with fail
  refine hr4.mono ?_
  rintro e w5 ⟨vx, ev, rfl, hvx, hev, hb5⟩
  clear hr4
  obtain rfl : ev = .nilIface := hev
  dsimp only at hvx
  obtain ⟨qx, cx, hq⟩ := hvx.form
  subst hq
  unfold snV
  dsimp only
  rw [HLE.out] at hvx ⊢
  have hB5 : Below w.heap.size w w5 := hB4.trans (hb5.mono hB4.size)
  have hs5 := hs4.below hb5
  have hal : Below w5.heap.size w5 (w5.alloc (.cells #[.int .i64 id, .int .i64 par, .int .i64 seq, .int .i64 day, .int .i64 idx, .string op, .slice qx L cx] 74)) := (Below.refl _ _).alloc (Nat.le_refl _) _
  have hX6 : SnAt (w5.alloc (.cells #[.int .i64 id, .int .i64 par, .int .i64 seq, .int .i64 day, .int .i64 idx, .string op, .slice qx L cx] 74)) w5.heap.size (id, par, seq, day, idx, op, fs) (.slice qx L cx) := SnAt.new w5 (id, par, seq, day, idx, op, fs) (.slice qx L cx)
  have hv6 := hvx.below hal
  have hs6 := hs5.below hal
  have hB6 : Below w.heap.size w (w5.alloc (.cells #[.int .i64 id, .int .i64 par, .int .i64 seq, .int .i64 day, .int .i64 idx, .string op, .slice qx L cx] 74)) := hB5.trans (hal.mono hB5.size)
  clear hvx hs4 hs5 hb5 hal hB4 hB5
  go_upto_region 8 with fail
  generalize w5.alloc (.cells #[.int .i64 id, .int .i64 par, .int .i64 seq, .int .i64 day, .int .i64 idx, .string op, .slice qx L cx] 74) = w6 at hX6 hv6 hs6 hB6 ⊢
  generalize w5.heap.size = BX at hX6 ⊢
  have hsm := HSM.out w6 _ hv6 hB6 HLX.out
  clear HSM
  obtain ⟨a0, a1, a2, a3, a4, a5, a6⟩ := hX6.cells
  obtain ⟨b0, b1, b2, b3, b4, b5, b6⟩ := hs6.cells
  dsimp only at a0 a1 a2 a3 a4 a5 b0 b1 b2 b3 b4 b5
  go_wp2_with fail
  refine hsm.mono ?_
  rintro e w7 ⟨rfl, hb7⟩
  clear hsm a0 a1 a2 a3 a4 a5 a6 b0 b1 b2 b3 b4 b5 b6 hX6 hs6 hv6
  have hB7 : Below w.heap.size w w7 := hB6.trans (hb7.mono hB6.size)
  clear hB6 hb7
  obtain ⟨m, rfl⟩ : ∃ m : Nat, at_ = (m : Int) := ⟨at_.toNat, by omega⟩
  obtain ⟨S, hS⟩ : ∃ S, TL.size = S := ⟨_, rfl⟩
  have HS : Hid (TL.size = S) := hS
  have hHS : H < S := by omega
  go_wp2
  go_loop [12] (fun k => ∃ n : Nat, n ≤ H ∧ k = .int .i64 n) (fun k => TL.size - (intOf k).toNat)
  case atStart => exact ⟨0, Nat.zero_le _, rfl⟩
  case round =>
    obtain ⟨n, hn, rfl⟩ := hrel
    have hlt : n < TL.size := by omega
    have hi : (n : Int) < (TL.size : Int) := by omega
    have hi0 : (0 : Int) ≤ (n : Int) := by omega
    by_cases hnH : n < H
    · have hne := HBT.out.ahead n hnH hlt
      clear hS hTs
      go_wp2
      go_round
      case rel => exact ⟨n + 1, by omega, by go_num⟩
      case measure => simp [intOf]; omega
    obtain rfl : n = H := by omega
    have heq := HBT.out.line hlt
    obtain ⟨k, hk⟩ : ∃ k, n + 1 = k := ⟨_, rfl⟩
    have hw1 : IntKind.i64.wrap ((n : Int) + 1) = (k : Int) := by rw [IntWalk.i64_in _ (by omega)]; omega
    have hw2 : IntKind.i64.wrap ((TL.size : Int) - (k : Int)) = (B : Int) := by rw [IntWalk.i64_in _ (by omega)]; omega
    by_cases hmB : m < B
    case neg =>
      have hge : (B : Int) ≤ (m : Int) := by omega
      clear hS hTs
      go_wp2
      go_ret
      exact ⟨rfl, hB7⟩
    have hnge : ¬ (B : Int) ≤ (m : Int) := by omega
    obtain ⟨J, hJ⟩ : ∃ J, k + m = J := ⟨_, rfl⟩
    have hw3 : IntKind.i64.wrap ((k : Int) + (m : Int)) = (J : Int) := by rw [IntWalk.i64_in _ (by omega)]; omega
    have hJS : J < TL.size := by omega
    have hj1 : (J : Int) < (TL.size : Int) := by omega
    have hj0 : (0 : Int) ≤ (J : Int) := by omega
    by_cases hsame : TL[J] = c
    · subst hsame
      clear hS hTs hk hJ
      go_wp2
      go_ret
      exact ⟨rfl, hB7⟩
    have hbn : ¬ ((TL[J].toNat : Int) = (c.toNat : Int)) := fun e => hsame (UInt8.toNat_inj.1 (by omega))
    have hro : readS (TL.data.toList.set J c) = (zeroS, 10, none) := by
      subst hJ hk
      exact HBT.out.other m c hmB hJS hsame
    obtain ⟨C, W1, v0, hcv, hcell, hfz, hbk, hbw⟩ := set_byte TL J hJS c w7
    have hB8 : Below w.heap.size w (W1.setCell ⟨w7.heap.size, J, none⟩ (.int .u8 c.toNat)) := hB7.trans (hbw.mono hB7.size)
    have hr5 := K.read _ (bytesOf (TL.data.toList.set J c)) (HL.out _ hB8) (by rw [bytes_len, List.length_set, size_list]; unfold maxLen; omega)
    have eL : (bytesOf (TL.data.toList.set J c)).data.toList = TL.data.toList.set J c := by simp [bytesOf]
    rw [eL, hro] at hr5
    generalize bytesOf (TL.data.toList.set J c) = S' at hbk hr5
    clear hbw eL hro hS hTs hk hJ hsame
    go_wp2_with fail
    refine hr5.mono ?_
    rintro e w9 ⟨vz, ev, rfl, hvz, hev, hb9⟩
    clear hr5 hcv hbk
    obtain rfl : ev = errV a 10 := hev
    unfold snV zeroS
    dsimp only
    have hB9 : Below w.heap.size w w9 := hB8.trans (hb9.mono hB8.size)
    have hcd := coded2_err 10 (by decide) w9 a (HE.out w9 hB9)
    clear hvz hb9 hB8
    generalize errV a 10 = ev at hcd ⊢
    go_wp2_with fail
    refine hcd.mono ?_
    rintro e w10 ⟨rfl, hb10⟩
    go_wp2
    go_ret
    exact ⟨rfl, hB9.trans (hb10.mono hB9.size)⟩
end Go.Proofs.YtpkoefpdpoikkaaGreatDoor
namespace Go.Proofs.YtpkoefpdpoikkaaGreatDoor
open Go.ChangeShapes Go.WideShapes Go.ChangeAt Go.RowKit Go.Deep

theorem Tryz.cellsInt : Tryz.prog.cellsOf 3 = 1 := by kernel_rfl
theorem Tryz.cellsString : Tryz.prog.cellsOf 9 = 1 := by kernel_rfl

theorem addr_none {W : World} {a : Addr} {v : Value} (h : W.cell? a = some v) : a.spot = none := by
  unfold World.cell? at h
  split at h
  · split at h
    · cases h
    · rename_i hs; simpa using hs
  · cases h

theorem wf_i64 {n : Int} (h : (Lit.int .i64 n).wf = true) : -9223372036854775808 ≤ n ∧ n ≤ 9223372036854775807 := by
  simpa [Lit.wf, IntKind.min, IntKind.max, IntKind.signed, IntKind.bits] using h

section
variable {H : Type} {enc : TypeId × Value → H} {W : World} {base : Nat} {spare : Nat → Bool} {held : Bool}

end

theorem returns_and_shaped {H : Type} {enc : TypeId × Value → H} {a : Assume} {C : Checked} {os : Os} {f : FuncId} {fn : Func} {s : ChangeSpec} {conds : List PathCond} {apart fresh handsOn again : Bool} {X : World → Array Value → Prop}
    (hX : ∀ (w w' : World) (args : Array Value), w.heap = w'.heap → X w args → X w' args)
    (own : ownKnob C.prog.godebug = none) (started : os.Started) (noInit : C.prog.inits.idxOf? f = none) (hfn : C.prog.funcs[f]? = some fn)
    (witness : ∃ (w : World) (tape : Tape) (i : Input), w.os = os ∧ (w.forCall tape i).Shaped C.prog ∧ i.vars = [] ∧ Input.okWide C.prog (w.forCall tape i) .any w.heap.size f i ∧
      ((s.pre enc C.prog fn conds apart (w.forCall tape i).memory i.args ∧ X (w.forCall tape i).memory i.args) ∧ sizedMet enc C.prog fn (OpenSpec.ofChange s) apart (w.forCall tape i).memory i.args) ∧ a.holds C.prog (lone (Frame.enter C.prog f i.args .normal) [] (w.forCall tape i)))
    (contract : ∀ (W : World) (base : Nat) (args : Array Value) (ds gs : List (DataW H)) (before : List MemPlace),
      (∀ (j : Nat) t v, fn.params[j]? = some t → args[j]? = some v → Value.okWide C.prog W .any base t v) →
      DataW.Whole enc C.prog fn.params.toList s.vars apart W args.toList ds gs before → W.ShapedOpen C.prog → X W args →
      Calls C.prog f args W fun e W' => ∃ v, e = .returned v ∧ s.post enc C.prog fn apart fresh handsOn again W args v W') :
    ReturnsInHanded a C os f .any (fun w args => (s.pre enc C.prog fn conds apart w args ∧ X w args) ∧ sizedMet enc C.prog fn (OpenSpec.ofChange s) apart w args) (s.post enc C.prog fn apart fresh handsOn again) := by
  refine returnsInHanded_of_calls own started noInit witness fun w tape i _ hsh _ hok hpre _ => ?_
  obtain ⟨_, _, _, fn', hfn', _, _, _, _, hval⟩ := hok
  cases Option.some.inj (hfn'.symm.trans hfn)
  obtain ⟨⟨⟨ds, gs, before, hw, _⟩, hx⟩, _⟩ := hpre
  have hw' := DataW.Whole.of_heap (w' := w.forCall tape i) (by rfl) hw
  have hx' := hX _ (w.forCall tape i) _ (by rfl) hx
  refine (contract (w.forCall tape i) w.heap.size i.args ds gs before hval hw' hsh hx').mono fun e W' ⟨v, he, hp⟩ => ?_
  subst he
  exact ChangeSpec.post_blind hp
end Go.Proofs.YtpkoefpdpoikkaaGreatDoor
namespace Go.Proofs.YtpkoefpdpoikkaaGreatDoor
open Go.ChangeShapes Go.WideShapes Go.ChangeAt Go.RowKit Go.Lib Go.Shelf

theorem Tryz.cellsFile : Tryz.prog.cellsOf 23 = 6 := by kernel_rfl

theorem list6 {α : Type} {l : List α} (h : l.length = 6) : ∃ a b c d e f, l = [a, b, c, d, e, f] := by
  match l, h with
  | [a, b, c, d, e, f], _ => exact ⟨a, b, c, d, e, f, rfl⟩

section
variable {H : Type} {enc : TypeId × Value → H} {W : World} {base : Nat} {spare : Nat → Bool} {held : Bool}

end
end Go.Proofs.YtpkoefpdpoikkaaGreatDoor
namespace Go.Proofs.YtpkoefpdpoikkaaGreatDoor
open Go.ChangeShapes Go.WideShapes Go.ChangeAt Go.RowKit Go.Deep Go.Lib Go.Shelf

section
variable {H : Type} {enc : TypeId × Value → H} {W : World} {base : Nat} {spare : Nat → Bool} {held : Bool}

set_option maxRecDepth 100000 in
theorem open_six {fuel : Nat} {cs : List Value} {x : DataW H × List MemPlace} (h : DataW.trod enc Tryz.prog W base spare held fuel 23 cs = some x) :
    ∃ f : Fl, cs = encF f ∧ f.1.size ≤ maxLen ∧ f.2.1.size ≤ maxLen := by
  obtain ⟨xs, n, _, _, hl, hlen, hfs⟩ := DataW.trod_struct Tryz.underlying23 h
  obtain ⟨c0, c1, c2, c3, c4, c5, rfl⟩ := list6 (hl.trans Tryz.cellsFile)
  obtain ⟨y0, y1, y2, y3, y4, y5, rfl⟩ := list6 (show xs.length = 6 from hlen)
  have f0 : DataW.trod enc Tryz.prog W base spare held n 9 [c0] = some y0 := by simpa [Tryz.cellsString] using hfs 0 _ rfl
  have f1 : DataW.trod enc Tryz.prog W base spare held n 9 [c1] = some y1 := by simpa [Tryz.cellsString] using hfs 1 _ rfl
  have f2 : DataW.trod enc Tryz.prog W base spare held n 3 [c2] = some y2 := by simpa [Tryz.cellsInt] using hfs 2 _ rfl
  have f3 : DataW.trod enc Tryz.prog W base spare held n 3 [c3] = some y3 := by simpa [Tryz.cellsInt] using hfs 3 _ rfl
  have f4 : DataW.trod enc Tryz.prog W base spare held n 3 [c4] = some y4 := by simpa [Tryz.cellsInt] using hfs 4 _ rfl
  have f5 : DataW.trod enc Tryz.prog W base spare held n 3 [c5] = some y5 := by simpa [Tryz.cellsInt] using hfs 5 _ rfl
  obtain ⟨s0, e0, _, h0⟩ := DataW.trod_string Tryz.underlying9 f0
  obtain ⟨s1, e1, _, h1⟩ := DataW.trod_string Tryz.underlying9 f1
  obtain ⟨k2, e2, _, _⟩ := DataW.trod_int Tryz.underlying3 f2
  obtain ⟨k3, e3, _, _⟩ := DataW.trod_int Tryz.underlying3 f3
  obtain ⟨k4, e4, _, _⟩ := DataW.trod_int Tryz.underlying3 f4
  obtain ⟨k5, e5, _, _⟩ := DataW.trod_int Tryz.underlying3 f5
  simp only [List.cons.injEq, and_true] at e0 e1 e2 e3 e4 e5
  exact ⟨(s0, s1, k2, k3, k4, k5), by rw [e0, e1, e2, e3, e4, e5]; rfl, h0, h1⟩

theorem open_files {fuel : Nat} {v : Value} {x : DataW H × List MemPlace} (h : DataW.trod enc Tryz.prog W base spare held fuel 50 [v] = some x) :
    ∃ fs : List Fl, FlsAt W v fs ∧ fs.length ≤ maxLen ∧ ∀ g ∈ fs, g.1.size ≤ maxLen ∧ g.2.1.size ≤ maxLen := by
  rcases open_slice Tryz.underlying50 h with ⟨e, _⟩ | ⟨a, len, cap, m, n, D, Pl, e, _, hl, hm, hmm, _, hx⟩
  · simp only [List.cons.injEq, and_true] at e
    exact ⟨[], Or.inl ⟨none, 0, e, fun _ => rfl, rfl⟩, by decide, fun _ h => by cases h⟩
  · simp only [List.cons.injEq, and_true] at e
    rw [Tryz.cellsFile] at hx
    have hlm : len ≤ m := by rw [hmm]; split <;> omega
    have each : ∀ i, i < len → ∃ f : Fl, (∀ c u, (encF f)[c]? = some u → W.cell? (a.add (i * 6 + c)) = some u) ∧ f.1.size ≤ maxLen ∧ f.2.1.size ≤ maxLen := fun i hi => by
      obtain ⟨cs', h1, h2⟩ := hx i (by omega)
      obtain ⟨_, _, hcell⟩ := World.cells?_some h1
      obtain ⟨f, hr, hk⟩ := open_six h2
      subst hr
      refine ⟨f, fun c u hu => ?_, hk⟩
      have hc : c < 6 := by
        rcases Nat.lt_or_ge c 6 with h' | h'
        · exact h'
        · rw [List.getElem?_eq_none (by rw [encF_len]; exact h')] at hu; cases hu
      have e0 := hcell c hc
      rw [add_add] at e0
      rw [e0]
      exact hu
    obtain ⟨f, hf⟩ := choose_lt each
    rcases Nat.eq_zero_or_pos len with h0 | hpos
    · subst h0
      exact ⟨[], Or.inl ⟨_, _, e, fun h => (nomatch h), rfl⟩, by decide, fun _ h => by cases h⟩
    · have hsp := addr_none ((hf 0 hpos).1 0 _ rfl)
      have hsp' : a.spot = none := by
        cases a with | mk b o spt => cases spt <;> simp [Addr.add] at hsp ⊢
      obtain ⟨b, o, spt⟩ := a
      simp only at hsp'
      subst hsp'
      refine ⟨(List.range len).map f, Or.inr ⟨b, o, cap, by simpa using e, by simpa using hl, flCells_of fun t u hu => ?_⟩, by simp; omega, fun r hr => ?_⟩
      · have ht : t < (flatF ((List.range len).map f)).length := by
          rcases Nat.lt_or_ge t (flatF ((List.range len).map f)).length with h' | h'
          · exact h'
          · rw [List.getElem?_eq_none h'] at hu; cases hu
        rw [flatF_len, List.length_map, List.length_range] at ht
        have hj : t / 6 < len := by omega
        have et : t = t / 6 * 6 + t % 6 := by omega
        rw [et, flatF_get _ (t / 6) (t % 6) (by simpa using hj) (by omega), List.getElem_map, List.getElem_range] at hu
        have h' := (hf (t / 6) hj).1 (t % 6) u hu
        rw [Addr.add_lit, ← et] at h'
        exact h'
      · simp only [List.mem_map, List.mem_range] at hr
        obtain ⟨i, hi, rfl⟩ := hr
        exact (hf i hi).2
end
end Go.Proofs.YtpkoefpdpoikkaaGreatDoor
namespace Go.Proofs.YtpkoefpdpoikkaaGreatDoor
open Go.ChangeShapes Go.WideShapes Go.ChangeAt Go.RowKit Go.Deep Go.Lib Go.Shelf

theorem Tryz.cellsSnap : Tryz.prog.cellsOf 74 = 7 := by kernel_rfl
theorem Tryz.cellsFiles : Tryz.prog.cellsOf 50 = 1 := by kernel_rfl

theorem list7 {α : Type} {l : List α} (h : l.length = 7) : ∃ a b c d e f g, l = [a, b, c, d, e, f, g] := by
  match l, h with
  | [a, b, c, d, e, f, g], _ => exact ⟨a, b, c, d, e, f, g, rfl⟩

theorem array7 {α : Type} {cs : Array α} (h : cs.size = 7) : ∃ a b c d e f g, cs = #[a, b, c, d, e, f, g] := by
  obtain ⟨l⟩ := cs
  obtain ⟨a, b, c, d, e, f, g, rfl⟩ := list7 (l := l) h
  exact ⟨a, b, c, d, e, f, g, rfl⟩

section
variable {H : Type} {enc : TypeId × Value → H} {W : World} {base : Nat} {spare : Nat → Bool} {held : Bool}

set_option maxRecDepth 100000 in
theorem open_snap {r : Reach} {b0 : Nat} {v : Value} {d : DataW H} {p : List MemPlace} (hv : Value.okWide Tryz.prog W r b0 74 v) (h : DataW.Trod enc Tryz.prog W base spare held 74 v d p) :
    ∃ (s : Sn) (q : Option Addr) (cap : Nat), v = snV s (.slice q s.2.2.2.2.2.2.length cap) ∧ FlsAt W (.slice q s.2.2.2.2.2.2.length cap) s.2.2.2.2.2.2 ∧ s.2.2.2.2.2.1.size ≤ maxLen ∧ s.2.2.2.2.2.2.length ≤ maxLen ∧ ∀ g ∈ s.2.2.2.2.2.2, g.1.size ≤ maxLen ∧ g.2.1.size ≤ maxLen := by
  obtain ⟨cs, rfl, hsz⟩ := okWide_struct Tryz.underlying74 hv
  obtain ⟨c0, c1, c2, c3, c4, c5, c6, rfl⟩ := array7 (hsz.trans Tryz.cellsSnap)
  obtain ⟨fuel, hf⟩ := h
  have hf' : DataW.trod enc Tryz.prog W base spare held fuel 74 [c0, c1, c2, c3, c4, c5, c6] = some (d, p) := by simpa [Value.cells] using hf
  obtain ⟨xs, n, _, _, _, hlen, hfs⟩ := DataW.trod_struct Tryz.underlying74 hf'
  obtain ⟨y0, y1, y2, y3, y4, y5, y6, rfl⟩ := list7 (show xs.length = 7 from hlen)
  have f0 : DataW.trod enc Tryz.prog W base spare held n 3 [c0] = some y0 := by simpa [Tryz.cellsInt] using hfs 0 _ rfl
  have f1 : DataW.trod enc Tryz.prog W base spare held n 3 [c1] = some y1 := by simpa [Tryz.cellsInt] using hfs 1 _ rfl
  have f2 : DataW.trod enc Tryz.prog W base spare held n 3 [c2] = some y2 := by simpa [Tryz.cellsInt] using hfs 2 _ rfl
  have f3 : DataW.trod enc Tryz.prog W base spare held n 3 [c3] = some y3 := by simpa [Tryz.cellsInt] using hfs 3 _ rfl
  have f4 : DataW.trod enc Tryz.prog W base spare held n 3 [c4] = some y4 := by simpa [Tryz.cellsInt] using hfs 4 _ rfl
  have f5 : DataW.trod enc Tryz.prog W base spare held n 9 [c5] = some y5 := by simpa [Tryz.cellsString] using hfs 5 _ rfl
  have f6 : DataW.trod enc Tryz.prog W base spare held n 50 [c6] = some y6 := by simpa [Tryz.cellsFiles] using hfs 6 _ rfl
  obtain ⟨k0, e0, _, _⟩ := DataW.trod_int Tryz.underlying3 f0
  obtain ⟨k1, e1, _, _⟩ := DataW.trod_int Tryz.underlying3 f1
  obtain ⟨k2, e2, _, _⟩ := DataW.trod_int Tryz.underlying3 f2
  obtain ⟨k3, e3, _, _⟩ := DataW.trod_int Tryz.underlying3 f3
  obtain ⟨k4, e4, _, _⟩ := DataW.trod_int Tryz.underlying3 f4
  obtain ⟨s5, e5, _, h5⟩ := DataW.trod_string Tryz.underlying9 f5
  obtain ⟨fs, hx, hl, hg⟩ := open_files f6
  obtain ⟨q, c, e6⟩ := hx.form
  simp only [List.cons.injEq, and_true] at e0 e1 e2 e3 e4 e5
  rw [e6] at hx
  exact ⟨(k0, k1, k2, k3, k4, s5, fs), q, c, by rw [e0, e1, e2, e3, e4, e5, e6]; rfl, hx, h5, hl, hg⟩
end
end Go.Proofs.YtpkoefpdpoikkaaGreatDoor
