/-
  The walk of SnapTells: whatever snap and text: true; what was there is as it was.
-/
import Derived.Test.YtpkoefpdpoikkaaGreatDoorSnapLaw
import Derived.Test.YtpkoefpdpoikkaaGreatDoorRefSnap3
namespace Go.Proofs.YtpkoefpdpoikkaaGreatDoor
open Go.RowKit Go.Extern.Stop Go.Stop Go.Extern Go.Sort Go.Shelf Go.Lib

theorem rf_le (l : List UInt8) : (readF l).2 ≤ 12 := by
  have key : ∀ f : Fl, (chkF f).2 ≤ 12 := fun f => by
    unfold chkF
    have := fileE_le f
    split
    · exact Nat.zero_le _
    · dsimp only; omega
  unfold readF
  split
  · split
    · exact key _
    · exact (by decide : (1 : Nat) ≤ 12)
  · exact (by decide : (1 : Nat) ≤ 12)

theorem rl_le (s : List UInt8) : (readL s).2.1 ≤ 12 := by
  have h := rowsG_le fileK rf_le (pieces 10 s) 0 []
  rw [readL_def]
  split
  · exact (by decide : (8 : Nat) ≤ 12)
  · split
    · exact h
    · exact Nat.zero_le _

theorem readS_le (l : List UInt8) : (readS l).2.1 ≤ 12 := by
  unfold readS
  split
  · exact (by decide : (2 : Nat) ≤ 12)
  · split
    · exact (by decide : (1 : Nat) ≤ 12)
    · split
      · exact (by decide : (1 : Nat) ≤ 12)
      · split
        · exact (by decide : (10 : Nat) ≤ 12)
        · split
          · exact rl_le _
          · split
            · exact snapE_le _
            · exact Nat.zero_le _

theorem lsG_vals : ∀ (fs : List Fl) (prev : Int) (i : Nat), (lstG prev fs i).1 ≤ 5 ∨ (lstG prev fs i).1 = 9
  | [], _, _ => by simp [lstG]
  | f :: r, prev, i => by
    unfold lstG
    have := fileE_le f
    split
    · exact Or.inl this
    · split
      · exact Or.inr rfl
      · exact lsG_vals r _ _

theorem snapE_vals (s : Sn) : (snapE s).1 ≤ 5 ∨ (snapE s).1 = 8 ∨ (snapE s).1 = 9 := by
  unfold snapE
  split
  · exact Or.inl (by decide : (2 : Nat) ≤ 5)
  · split
    · exact Or.inl (by decide : (4 : Nat) ≤ 5)
    · split
      · unfold listE
        split
        · exact Or.inr (Or.inl rfl)
        · rcases lsG_vals s.2.2.2.2.2.2 0 0 with h | h
          · exact Or.inl h
          · exact Or.inr (Or.inr h)
      · rcases seqG_vals s.2.2.1 s.2.2.2.2.2.2 0 with e | ⟨j, e⟩
        · rw [e]; exact Or.inl (Nat.zero_le _)
        · rw [e]; exact Or.inr (Or.inr rfl)

set_option maxRecDepth 100000 in
set_option maxHeartbeats 32000000 in
theorem snapTells_any (s : Sn) (q : Option Addr) (cap : Nat) (t : ByteArray) (w : World) (a : Nat → Addr) (EP : World → Prop) (R : SnapR a EP) (h : EP w) (hE : Errs w a) (hx : FlsAt w (.slice q s.2.2.2.2.2.2.length cap) s.2.2.2.2.2.2) (ho : s.2.2.2.2.2.1.size ≤ maxLen) (hl : s.2.2.2.2.2.2.length ≤ maxLen) (hsz : ∀ g ∈ s.2.2.2.2.2.2, g.1.size ≤ maxLen ∧ g.2.1.size ≤ maxLen) (ht : t.size ≤ maxLen) :
    Calls Tryz.prog 8 #[snV s (.slice q s.2.2.2.2.2.2.length cap), .string t] w fun e w' => e = .returned (.bool true) ∧ Below w.heap.size w w' := by
  have K := R.core
  have HL : Hid (∀ W, Below w.heap.size w W → EP W) := fun W hb => K.below _ _ h hb
  have HE : Hid (∀ W, Below w.heap.size w W → Errs W a) := fun W hb => hE.below hb
  have HX : Hid (∀ W, Below w.heap.size w W → FlsAt W (.slice q s.2.2.2.2.2.2.length cap) s.2.2.2.2.2.2) := fun W hb => hx.below hb
  have hda := fun W (hb : Below w.heap.size w W) => snapped_any W a EP K (HL.out W hb)
  have hlo := fun W (hb : Below w.heap.size w W) => longSnap_any s (.slice q s.2.2.2.2.2.2.length cap) W (HX.out W hb) ho hl hsz
  have hno := @longSn_no s
  generalize hLB : longSn s = LB at hlo hno
  clear hLB
  have HSF : Hid (∀ W, Below w.heap.size w W → LB = false → Calls Tryz.prog 51 #[snV s (.slice q s.2.2.2.2.2.2.length cap)] W fun e w' => e = .returned (.agg #[.int .i64 (snapE s).1, .int .i64 (atZ (snapE s).2)]) ∧ Below W.heap.size W w') := fun W hb e => snapFault_any s _ W (HX.out W hb) (by have := (hno e).2.1; omega) (fun f hf => by have := (hno e).2.2 f hf; omega)
  have HTX : Hid ((snapE s).1 = 0 → ∀ W, Below w.heap.size w W → Calls Tryz.prog 53 #[snV s (.slice q s.2.2.2.2.2.2.length cap)] W fun e w' => e = .returned (.string (bytesOf (snapL s))) ∧ Below W.heap.size W w') := fun e W hb => snapText_any s _ W (HX.out W hb) e
  have HOW : Hid (∀ W, Below w.heap.size w W → LB = false → Calls Tryz.prog 47 #[snV s (.slice q s.2.2.2.2.2.2.length cap)] W fun e w' => ∃ v', e = .returned (snV s v') ∧ FlsAt w' v' s.2.2.2.2.2.2 ∧ Below W.heap.size W w') := fun W hb e => ownSnap_any s _ W (HX.out W hb) (by have := (hno e).2.1; omega)
  have HNO : Hid (LB = false → s.2.2.2.2.2.2.length ≤ 61 ∧ Short s.2.2.2.2.2.2) := fun e => (hno e).2
  have HOK : Hid ((snapE s).1 = 0 → ∀ f ∈ s.2.2.2.2.2.2, fileE f = 0) := fun e f hf => ((listE_ok.1 (snap_good e).2.2.1).2.1 f hf).1
  have hCle := snapE_le s
  have hCv := snapE_vals s
  have HRK : Hid (rkS s = if (snapE s).1 = 0 then rk s.2.2.2.2.2.2 0 0 else (0, 0)) := rfl
  have HCK0 : Hid (∀ W vf, EP W → FlsAt W vf s.2.2.2.2.2.2 → s.2.2.2.2.2.2.length ≤ 100 → Short s.2.2.2.2.2.2 → Calls Tryz.prog 52 #[snV s vf] W fun e w' => ∃ ev, e = .returned ev ∧ ToldE w' a ev (snapE s) ∧ Below W.heap.size W w') := fun W vf => K.check W s vf
  have HTE0 : Hid (∀ W vf, EP W → FlsAt W vf s.2.2.2.2.2.2 → s.2.2.2.2.2.2.length ≤ 100 → Short s.2.2.2.2.2.2 → Calls Tryz.prog 46 #[snV s vf] W fun e w' => ∃ ev, e = .returned (.tuple #[.string (if (snapE s).1 = 0 then bytesOf (snapL s) else ⟨#[]⟩), ev]) ∧ ToldE w' a ev (snapE s) ∧ Below W.heap.size W w') := fun W vf => K.text W s vf
  have HRO0 : Hid (∀ W vf, EP W → FlsAt W vf s.2.2.2.2.2.2 → s.2.2.2.2.2.2.length ≤ 100 → Short s.2.2.2.2.2.2 → Calls Tryz.prog 54 #[snV s vf] W fun e w' => e = .returned (.tuple #[.int .i64 (rkS s).1, .int .i64 (rkS s).2]) ∧ Below W.heap.size W w') := fun W vf => R.rows W s vf
  generalize rkS s = RK at HRK HRO0
  generalize hSL : bytesOf (snapL s) = TL at HTX HTE0
  generalize hSE : snapE s = CE at HSF HTX HOK hCle hCv HRK HCK0 HTE0
  clear hSL hSE hx hno ho hsz
  obtain ⟨id, par, seq, day, idx, op, fs⟩ := s
  unfold snV at hlo HSF HTX HOW HCK0 HTE0 HRO0 ⊢
  dsimp only at *
  obtain ⟨L, hL⟩ : ∃ L, fs.length = L := ⟨_, rfl⟩
  have HLE : Hid (fs.length = L) := hL
  rw [hL] at hl hlo HX HSF HTX HOW HNO HCK0 HTE0 HRO0 ⊢
  clear hL
  obtain ⟨EC, EA⟩ := CE
  dsimp only at *
  have hal : Below w.heap.size w (w.alloc (.cells #[.int .i64 id, .int .i64 par, .int .i64 seq, .int .i64 day, .int .i64 idx, .string op, .slice q L cap] 74)) := (Below.refl _ _).alloc (Nat.le_refl _) _
  have hsn : SnAt (w.alloc (.cells #[.int .i64 id, .int .i64 par, .int .i64 seq, .int .i64 day, .int .i64 idx, .string op, .slice q L cap] 74)) w.heap.size (id, par, seq, day, idx, op, fs) (.slice q L cap) := SnAt.new w (id, par, seq, day, idx, op, fs) (.slice q L cap)
  unfold maxLen at ht hl
  have hd1 := hda _ hal
  clear hda
  go_enter Tryz.func8, Tryz.ntmps8
  go_wp2_with fail
  generalize w.alloc (.cells #[.int .i64 id, .int .i64 par, .int .i64 seq, .int .i64 day, .int .i64 idx, .string op, .slice q L cap] 74) = WA at hal hsn hd1 ⊢
  refine hd1.mono ?_
  rintro e w1 ⟨rfl, hb1⟩
  clear hd1
  have hB1 : Below w.heap.size w w1 := hal.trans (hb1.mono hal.size)
  have hs1 := hsn.below hb1
  clear hal hsn hb1
  obtain ⟨BT, hBT⟩ : ∃ B : Bool, B = (LB || (decide (2500 < t.size) && decide (t.size ≠ 20001))) := ⟨_, rfl⟩
  go_upto_region 2 with fail
  go_cut [36] from 20 to 35 (fun c wx => c = .bool BT ∧ Below w1.heap.size w1 wx)
  case first =>
    obtain ⟨z0, z1, z2, z3, z4, z5, z6⟩ := hs1.cells
    dsimp only at z0 z1 z2 z3 z4 z5
    have hl1 := hlo w1 hB1
    clear hlo hs1
    cases LB
    · have hc3 : (¬ 2500 < t.size) ∨ (2500 < t.size ∧ t.size = 20001) ∨ (2500 < t.size ∧ t.size ≠ 20001) := by omega
      simp only [Bool.false_eq_true, if_false] at hl1
      rcases hc3 with i1 | ⟨i1, i2⟩ | ⟨i1, i2⟩
      · obtain rfl : BT = false := by rw [hBT]; simp [i1]
        have i3 : ¬ (2500 : Int) < (t.size : Int) := by omega
        clear hBT i1
        go_wp2_with fail
        refine hl1.mono ?_
        rintro e w2 ⟨rfl, hb2⟩
        go_wp2
        go_meet
        case rel => exact ⟨rfl, hb2⟩
      · obtain rfl : BT = false := by rw [hBT]; simp [i2]
        have i3 : (2500 : Int) < (t.size : Int) := by omega
        have i4 : ((t.size : Int) != 20001) = false := by simp; omega
        clear hBT i1 i2
        go_wp2_with fail
        refine hl1.mono ?_
        rintro e w2 ⟨rfl, hb2⟩
        go_wp2
        go_meet
        case rel => exact ⟨rfl, hb2⟩
      · obtain rfl : BT = true := by rw [hBT]; simp [i1, i2]
        have i3 : (2500 : Int) < (t.size : Int) := by omega
        have i4 : ((t.size : Int) != 20001) = true := by simp; omega
        clear hBT i1 i2
        go_wp2_with fail
        refine hl1.mono ?_
        rintro e w2 ⟨rfl, hb2⟩
        go_wp2
        go_meet
        case rel => exact ⟨rfl, hb2⟩
    · obtain rfl : BT = true := by rw [hBT]; rfl
      simp only [if_true] at hl1
      clear hBT
      go_wp2_with fail
      refine hl1.mono ?_
      rintro e w2 ⟨rfl, hb2⟩
      go_wp2
      go_meet
      case rel => exact ⟨rfl, hb2⟩
  case rest =>
  obtain ⟨rfl, hb2⟩ := hcut
  have hB2 : Below w.heap.size w wc := hB1.trans (hb2.mono hB1.size)
  have hs2 := hs1.below hb2
  clear hlo hs1 hB1 hb2
  generalize wc = w2 at *
  cases BT
  case true =>
    clear hBT hs2
    go_wp2
    go_ret
    exact ⟨rfl, hB2⟩
  case false =>
  have hLB : LB = false := by
    cases LB
    · rfl
    · simp at hBT
  clear hBT
  have HLX : Hid (L ≤ 61) := (HNO.out hLB).1
  have HSH : Hid (Short fs) := (HNO.out hLB).2
  obtain ⟨z0, z1, z2, z3, z4, z5, z6⟩ := hs2.cells
  dsimp only at z0 z1 z2 z3 z4 z5
  have ho2 := HOW.out w2 hB2 hLB
  clear HNO HOW
  go_wp2_with fail
  refine ho2.mono ?_
  rintro e w3 ⟨v3, rfl, hv3, hb3⟩
  clear ho2 z0 z1 z2 z3 z4 z5 z6
  obtain ⟨qo, co, hq⟩ := hv3.form
  subst hq
  have hB3 : Below w.heap.size w w3 := hB2.trans (hb3.mono hB2.size)
  have hs3 := hs2.below hb3
  clear hs2 hb3 hB2
  rw [HLE.out] at hv3 ⊢
  have hal : Below w3.heap.size w3 (w3.alloc (.cells #[.int .i64 id, .int .i64 par, .int .i64 seq, .int .i64 day, .int .i64 idx, .string op, .slice qo L co] 74)) := (Below.refl _ _).alloc (Nat.le_refl _) _
  have ho4 : SnAt (w3.alloc (.cells #[.int .i64 id, .int .i64 par, .int .i64 seq, .int .i64 day, .int .i64 idx, .string op, .slice qo L co] 74)) w3.heap.size (id, par, seq, day, idx, op, fs) (.slice qo L co) := SnAt.new w3 (id, par, seq, day, idx, op, fs) (.slice qo L co)
  have hs4 := hs3.below hal
  have hv4 := hv3.below hal
  have hB4 : Below w.heap.size w (w3.alloc (.cells #[.int .i64 id, .int .i64 par, .int .i64 seq, .int .i64 day, .int .i64 idx, .string op, .slice qo L co] 74)) := hB3.trans (hal.mono hB3.size)
  have hSO : w.heap.size < w3.heap.size := hs3.lt
  clear hs3 hv3 hal hB3
  go_upto_region 5 with fail
  generalize w3.alloc (.cells #[.int .i64 id, .int .i64 par, .int .i64 seq, .int .i64 day, .int .i64 idx, .string op, .slice qo L co] 74) = w4 at ho4 hs4 hv4 hB4 ⊢
  generalize w3.heap.size = O at ho4 hSO ⊢
  obtain ⟨z0, z1, z2, z3, z4, z5, z6⟩ := hs4.cells
  dsimp only at z0 z1 z2 z3 z4 z5
  have hf4 := HSF.out w4 hB4 hLB
  clear HSF
  go_wp2_with fail
  refine hf4.mono ?_
  rintro e w5 ⟨rfl, hb5⟩
  clear hf4 z0 z1 z2 z3 z4 z5 z6
  obtain ⟨X, hX⟩ : ∃ X : Int, (EC : Int) = X := ⟨_, rfl⟩
  have HXE : Hid ((EC : Int) = X) := hX
  have hXv : X = 0 ∨ X = 1 ∨ X = 2 ∨ X = 3 ∨ X = 4 ∨ X = 5 ∨ X = 8 ∨ X = 9 := by omega
  rw [hX]
  clear hX hCv
  have hal5 : Below w5.heap.size w5 (w5.alloc (.cells #[.int .i64 X, .int .i64 (atZ EA)] 64)) := (Below.refl _ _).alloc (Nat.le_refl _) _
  have hb46 := hb5.trans (hal5.mono hb5.size)
  have hv6 := hv4.below hb46
  have hs6 := hs4.below hb46
  have ho6 := ho4.below hb46
  have hF6 : FC (w5.alloc (.cells #[.int .i64 X, .int .i64 (atZ EA)] 64)) w5.heap.size X (atZ EA) := heap_alloc_new _ _
  have hB6 : Below w.heap.size w (w5.alloc (.cells #[.int .i64 X, .int .i64 (atZ EA)] 64)) := hB4.trans (hb46.mono hB4.size)
  have hOF : O < w5.heap.size := (ho4.below hb5).lt
  clear hv4 hs4 ho4 hb5 hal5 hb46 hB4
  go_upto_region 6 with fail
  generalize w5.alloc (.cells #[.int .i64 X, .int .i64 (atZ EA)] 64) = w6 at hv6 hs6 ho6 hF6 hB6 ⊢
  generalize w5.heap.size = F at hF6 hOF ⊢
  obtain ⟨z0, z1, z2, z3, z4, z5, z6⟩ := ho6.cells
  dsimp only at z0 z1 z2 z3 z4 z5
  have ht6 := HTE0.out w6 (.slice qo L co) (HL.out w6 hB6) hv6 (by have := HLX.out; omega) HSH.out
  obtain ⟨T, hT⟩ : ∃ T, (if EC = 0 then TL else (⟨#[]⟩ : ByteArray)) = T := ⟨_, rfl⟩
  rw [hT] at ht6
  have HT : Hid ((if EC = 0 then TL else (⟨#[]⟩ : ByteArray)) = T) := hT
  clear hT HTE0
  go_wp2_with fail
  refine ht6.mono ?_
  rintro e w7 ⟨ev7, rfl, he7, hb7⟩
  clear ht6 z0 z1 z2 z3 z4 z5 z6
  have hv7 := hv6.below hb7
  have hs7 := hs6.below hb7
  have ho7 := ho6.below hb7
  have hF7 := hF6.below hb7
  have hB7 : Below w.heap.size w w7 := hB6.trans (hb7.mono hB6.size)
  clear hv6 hs6 ho6 hF6 hb7 hB6
  have HCK : Hid (∀ W, Below w7.heap.size w7 W → Calls Tryz.prog 52 #[(.agg #[.int .i64 id, .int .i64 par, .int .i64 seq, .int .i64 day, .int .i64 idx, .string op, .slice qo L co])] W fun e w' => ∃ ev, e = .returned ev ∧ ToldE w' a ev (EC, EA) ∧ Below W.heap.size W w') := fun W hb => HCK0.out W _ (HL.out W (hB7.trans (hb.mono hB7.size))) (hv7.below hb) (by have := HLX.out; omega) HSH.out
  have HSM : Hid (∀ W ev, ToldE W a ev (EC, EA) → Below w7.heap.size w7 W → Calls Tryz.prog 37 #[ev, .agg #[.int .i64 X, .int .i64 (atZ EA)]] W fun e w' => e = .returned (.bool true) ∧ Below W.heap.size W w') := fun W ev ht hb => by
    have h' := ht.same hCle (HE.out W (hB7.trans (hb.mono hB7.size)))
    dsimp only at h'
    rw [HXE.out] at h'
    exact h'
  have HEV : Hid (∀ W, Below w7.heap.size w7 W → ToldE W a ev7 (EC, EA)) := fun W hb => he7.keep (keepsC_below hb)
  clear HCK0
  go_upto_region 7 with fail
  go_cut [66] from 47 to 65 (fun c wx => c = .bool false ∧ Below w7.heap.size w7 wx)
  case first =>
    have k0 := hF7.c0
    have k1 := hF7.c1
    obtain ⟨p0, p1, p2, p3, p4, p5, p6⟩ := ho7.cells
    dsimp only at p0 p1 p2 p3 p4 p5
    have hb0 : Below w7.heap.size w7 w7 := Below.refl _ _
    have hbd : Below w7.heap.size w7 w7.drew := hb0.drew
    have hTe : X ≠ 0 → T = ⟨#[]⟩ := fun hne => by
      rw [← HT.out, if_neg (by have := HXE.out; omega)]
    have k0d := below_keep hbd k0
    have k1d := below_keep hbd k1
    obtain ⟨d0, d1, d2, d3, d4, d5, d6⟩ := (ho7.below hbd).cells
    dsimp only at d0 d1 d2 d3 d4 d5
    clear hs7 ho7 hF7 hv7 he7
    rcases hXv with rfl | rfl | rfl | rfl | rfl | rfl | rfl | rfl
    · clear hTe
      first
        | (go_region_with (first
            | (go_at_call 52; with_reducible refine (HCK.out _ (by first | exact hb0 | exact hbd)).mono ?_; rintro e wX ⟨evC, rfl, heC, hbX⟩; have hY : Below w7.heap.size w7 wX := (by first | exact hbX | exact hbd.trans (hbX.mono hbd.size)); have x0 := below_keep hY k0; have x1 := below_keep hY k1)
            | (go_at_call 37; with_reducible refine (HSM.out _ _ heC hY).mono ?_; rintro e wY ⟨rfl, hbY⟩; have hZ : Below w7.heap.size w7 wY := hY.trans (hbY.mono hY.size); have y0 := below_keep hZ k0; have y1 := below_keep hZ k1)
            | (go_at_call 37; with_reducible refine (HSM.out _ _ (HEV.out _ hZ) hZ).mono ?_; rintro e wZ ⟨rfl, hbZ⟩; have hQ : Below w7.heap.size w7 wZ := hZ.trans (hbZ.mono hZ.size); have z0 := below_keep hQ k0; have z1 := below_keep hQ k1)))
        | fail
      all_goals
        go_wp2
        go_meet
        case rel => exact ⟨rfl, hQ⟩
    · obtain rfl := hTe (by decide)
      clear hTe
      go_region_held3 (fun w' => w'.cell? ⟨O, 0, none⟩ = some (.int .i64 id) ∧ w'.cell? ⟨O, 1, none⟩ = some (.int .i64 par) ∧ w'.cell? ⟨O, 2, none⟩ = some (.int .i64 seq) ∧ w'.cell? ⟨O, 3, none⟩ = some (.int .i64 day) ∧ w'.cell? ⟨O, 4, none⟩ = some (.int .i64 idx) ∧ w'.cell? ⟨O, 5, none⟩ = some (.string op) ∧ w'.cell? ⟨O, 6, none⟩ = some (.slice qo L co) ∧ w'.cell? ⟨F, 0, none⟩ = some (.int .i64 (1 : Int)) ∧ w'.cell? ⟨F, 1, none⟩ = some (.int .i64 (atZ EA)) ∧ Below w7.heap.size w7 w')
        (first
          | (go_split_ands; with_reducible exact ⟨below_keep hbX (by assumption), below_keep hbX (by assumption), below_keep hbX (by assumption), below_keep hbX (by assumption), below_keep hbX (by assumption), below_keep hbX (by assumption), below_keep hbX (by assumption), below_keep hbX (by assumption), below_keep hbX (by assumption), Below.trans (by assumption) (hbX.mono (Below.size (by assumption)))⟩)
          | (go_split_ands; exact ⟨by go_keep, by go_keep, by go_keep, by go_keep, by go_keep, by go_keep, by go_keep, by go_keep, by go_keep, by assumption⟩)
          | (go_split_ands; exact ⟨by go_keep, by go_keep, by go_keep, by go_keep, by go_keep, by go_keep, by go_keep, by go_keep, by go_keep, Below.drew (by assumption)⟩))
        (first
          | (go_at_call 52; with_reducible refine (HCK.out _ (by go_split_ands; assumption)).mono ?_; rintro e wX ⟨evC, rfl, heC, hbX⟩)
          | (go_at_call 37; with_reducible refine (HSM.out _ _ heC (by go_split_ands; assumption)).mono ?_; rintro e wX ⟨rfl, hbX⟩)
          | (go_at_call 37; with_reducible refine (HSM.out _ _ (HEV.out _ (by go_split_ands; assumption)) (by go_split_ands; assumption)).mono ?_; rintro e wX ⟨rfl, hbX⟩))
      go_split_ands
      have g0 : wX.cell? ⟨F, 0, none⟩ = some (.int .i64 (1 : Int)) := by assumption
      have g9 : Below w7.heap.size w7 wX := by assumption
      go_wp2
      go_meet
      case rel => exact ⟨rfl, g9⟩
    · obtain rfl := hTe (by decide)
      clear hTe
      go_region_held3 (fun w' => w'.cell? ⟨O, 0, none⟩ = some (.int .i64 id) ∧ w'.cell? ⟨O, 1, none⟩ = some (.int .i64 par) ∧ w'.cell? ⟨O, 2, none⟩ = some (.int .i64 seq) ∧ w'.cell? ⟨O, 3, none⟩ = some (.int .i64 day) ∧ w'.cell? ⟨O, 4, none⟩ = some (.int .i64 idx) ∧ w'.cell? ⟨O, 5, none⟩ = some (.string op) ∧ w'.cell? ⟨O, 6, none⟩ = some (.slice qo L co) ∧ w'.cell? ⟨F, 0, none⟩ = some (.int .i64 (2 : Int)) ∧ w'.cell? ⟨F, 1, none⟩ = some (.int .i64 (atZ EA)) ∧ Below w7.heap.size w7 w')
        (first
          | (go_split_ands; with_reducible exact ⟨below_keep hbX (by assumption), below_keep hbX (by assumption), below_keep hbX (by assumption), below_keep hbX (by assumption), below_keep hbX (by assumption), below_keep hbX (by assumption), below_keep hbX (by assumption), below_keep hbX (by assumption), below_keep hbX (by assumption), Below.trans (by assumption) (hbX.mono (Below.size (by assumption)))⟩)
          | (go_split_ands; exact ⟨by go_keep, by go_keep, by go_keep, by go_keep, by go_keep, by go_keep, by go_keep, by go_keep, by go_keep, by assumption⟩)
          | (go_split_ands; exact ⟨by go_keep, by go_keep, by go_keep, by go_keep, by go_keep, by go_keep, by go_keep, by go_keep, by go_keep, Below.drew (by assumption)⟩))
        (first
          | (go_at_call 52; with_reducible refine (HCK.out _ (by go_split_ands; assumption)).mono ?_; rintro e wX ⟨evC, rfl, heC, hbX⟩)
          | (go_at_call 37; with_reducible refine (HSM.out _ _ heC (by go_split_ands; assumption)).mono ?_; rintro e wX ⟨rfl, hbX⟩)
          | (go_at_call 37; with_reducible refine (HSM.out _ _ (HEV.out _ (by go_split_ands; assumption)) (by go_split_ands; assumption)).mono ?_; rintro e wX ⟨rfl, hbX⟩))
      go_split_ands
      have g0 : wX.cell? ⟨F, 0, none⟩ = some (.int .i64 (2 : Int)) := by assumption
      have g9 : Below w7.heap.size w7 wX := by assumption
      go_wp2
      go_meet
      case rel => exact ⟨rfl, g9⟩
    · obtain rfl := hTe (by decide)
      clear hTe
      go_region_held3 (fun w' => w'.cell? ⟨O, 0, none⟩ = some (.int .i64 id) ∧ w'.cell? ⟨O, 1, none⟩ = some (.int .i64 par) ∧ w'.cell? ⟨O, 2, none⟩ = some (.int .i64 seq) ∧ w'.cell? ⟨O, 3, none⟩ = some (.int .i64 day) ∧ w'.cell? ⟨O, 4, none⟩ = some (.int .i64 idx) ∧ w'.cell? ⟨O, 5, none⟩ = some (.string op) ∧ w'.cell? ⟨O, 6, none⟩ = some (.slice qo L co) ∧ w'.cell? ⟨F, 0, none⟩ = some (.int .i64 (3 : Int)) ∧ w'.cell? ⟨F, 1, none⟩ = some (.int .i64 (atZ EA)) ∧ Below w7.heap.size w7 w')
        (first
          | (go_split_ands; with_reducible exact ⟨below_keep hbX (by assumption), below_keep hbX (by assumption), below_keep hbX (by assumption), below_keep hbX (by assumption), below_keep hbX (by assumption), below_keep hbX (by assumption), below_keep hbX (by assumption), below_keep hbX (by assumption), below_keep hbX (by assumption), Below.trans (by assumption) (hbX.mono (Below.size (by assumption)))⟩)
          | (go_split_ands; exact ⟨by go_keep, by go_keep, by go_keep, by go_keep, by go_keep, by go_keep, by go_keep, by go_keep, by go_keep, by assumption⟩)
          | (go_split_ands; exact ⟨by go_keep, by go_keep, by go_keep, by go_keep, by go_keep, by go_keep, by go_keep, by go_keep, by go_keep, Below.drew (by assumption)⟩))
        (first
          | (go_at_call 52; with_reducible refine (HCK.out _ (by go_split_ands; assumption)).mono ?_; rintro e wX ⟨evC, rfl, heC, hbX⟩)
          | (go_at_call 37; with_reducible refine (HSM.out _ _ heC (by go_split_ands; assumption)).mono ?_; rintro e wX ⟨rfl, hbX⟩)
          | (go_at_call 37; with_reducible refine (HSM.out _ _ (HEV.out _ (by go_split_ands; assumption)) (by go_split_ands; assumption)).mono ?_; rintro e wX ⟨rfl, hbX⟩))
      go_split_ands
      have g0 : wX.cell? ⟨F, 0, none⟩ = some (.int .i64 (3 : Int)) := by assumption
      have g9 : Below w7.heap.size w7 wX := by assumption
      go_wp2
      go_meet
      case rel => exact ⟨rfl, g9⟩
    · obtain rfl := hTe (by decide)
      clear hTe
      go_region_held3 (fun w' => w'.cell? ⟨O, 0, none⟩ = some (.int .i64 id) ∧ w'.cell? ⟨O, 1, none⟩ = some (.int .i64 par) ∧ w'.cell? ⟨O, 2, none⟩ = some (.int .i64 seq) ∧ w'.cell? ⟨O, 3, none⟩ = some (.int .i64 day) ∧ w'.cell? ⟨O, 4, none⟩ = some (.int .i64 idx) ∧ w'.cell? ⟨O, 5, none⟩ = some (.string op) ∧ w'.cell? ⟨O, 6, none⟩ = some (.slice qo L co) ∧ w'.cell? ⟨F, 0, none⟩ = some (.int .i64 (4 : Int)) ∧ w'.cell? ⟨F, 1, none⟩ = some (.int .i64 (atZ EA)) ∧ Below w7.heap.size w7 w')
        (first
          | (go_split_ands; with_reducible exact ⟨below_keep hbX (by assumption), below_keep hbX (by assumption), below_keep hbX (by assumption), below_keep hbX (by assumption), below_keep hbX (by assumption), below_keep hbX (by assumption), below_keep hbX (by assumption), below_keep hbX (by assumption), below_keep hbX (by assumption), Below.trans (by assumption) (hbX.mono (Below.size (by assumption)))⟩)
          | (go_split_ands; exact ⟨by go_keep, by go_keep, by go_keep, by go_keep, by go_keep, by go_keep, by go_keep, by go_keep, by go_keep, by assumption⟩)
          | (go_split_ands; exact ⟨by go_keep, by go_keep, by go_keep, by go_keep, by go_keep, by go_keep, by go_keep, by go_keep, by go_keep, Below.drew (by assumption)⟩))
        (first
          | (go_at_call 52; with_reducible refine (HCK.out _ (by go_split_ands; assumption)).mono ?_; rintro e wX ⟨evC, rfl, heC, hbX⟩)
          | (go_at_call 37; with_reducible refine (HSM.out _ _ heC (by go_split_ands; assumption)).mono ?_; rintro e wX ⟨rfl, hbX⟩)
          | (go_at_call 37; with_reducible refine (HSM.out _ _ (HEV.out _ (by go_split_ands; assumption)) (by go_split_ands; assumption)).mono ?_; rintro e wX ⟨rfl, hbX⟩))
      go_split_ands
      have g0 : wX.cell? ⟨F, 0, none⟩ = some (.int .i64 (4 : Int)) := by assumption
      have g9 : Below w7.heap.size w7 wX := by assumption
      go_wp2
      go_meet
      case rel => exact ⟨rfl, g9⟩
    · obtain rfl := hTe (by decide)
      clear hTe
      go_region_held3 (fun w' => w'.cell? ⟨O, 0, none⟩ = some (.int .i64 id) ∧ w'.cell? ⟨O, 1, none⟩ = some (.int .i64 par) ∧ w'.cell? ⟨O, 2, none⟩ = some (.int .i64 seq) ∧ w'.cell? ⟨O, 3, none⟩ = some (.int .i64 day) ∧ w'.cell? ⟨O, 4, none⟩ = some (.int .i64 idx) ∧ w'.cell? ⟨O, 5, none⟩ = some (.string op) ∧ w'.cell? ⟨O, 6, none⟩ = some (.slice qo L co) ∧ w'.cell? ⟨F, 0, none⟩ = some (.int .i64 (5 : Int)) ∧ w'.cell? ⟨F, 1, none⟩ = some (.int .i64 (atZ EA)) ∧ Below w7.heap.size w7 w')
        (first
          | (go_split_ands; with_reducible exact ⟨below_keep hbX (by assumption), below_keep hbX (by assumption), below_keep hbX (by assumption), below_keep hbX (by assumption), below_keep hbX (by assumption), below_keep hbX (by assumption), below_keep hbX (by assumption), below_keep hbX (by assumption), below_keep hbX (by assumption), Below.trans (by assumption) (hbX.mono (Below.size (by assumption)))⟩)
          | (go_split_ands; exact ⟨by go_keep, by go_keep, by go_keep, by go_keep, by go_keep, by go_keep, by go_keep, by go_keep, by go_keep, by assumption⟩)
          | (go_split_ands; exact ⟨by go_keep, by go_keep, by go_keep, by go_keep, by go_keep, by go_keep, by go_keep, by go_keep, by go_keep, Below.drew (by assumption)⟩))
        (first
          | (go_at_call 52; with_reducible refine (HCK.out _ (by go_split_ands; assumption)).mono ?_; rintro e wX ⟨evC, rfl, heC, hbX⟩)
          | (go_at_call 37; with_reducible refine (HSM.out _ _ heC (by go_split_ands; assumption)).mono ?_; rintro e wX ⟨rfl, hbX⟩)
          | (go_at_call 37; with_reducible refine (HSM.out _ _ (HEV.out _ (by go_split_ands; assumption)) (by go_split_ands; assumption)).mono ?_; rintro e wX ⟨rfl, hbX⟩))
      go_split_ands
      have g0 : wX.cell? ⟨F, 0, none⟩ = some (.int .i64 (5 : Int)) := by assumption
      have g9 : Below w7.heap.size w7 wX := by assumption
      go_wp2
      go_meet
      case rel => exact ⟨rfl, g9⟩
    · obtain rfl := hTe (by decide)
      clear hTe
      go_region_held3 (fun w' => w'.cell? ⟨O, 0, none⟩ = some (.int .i64 id) ∧ w'.cell? ⟨O, 1, none⟩ = some (.int .i64 par) ∧ w'.cell? ⟨O, 2, none⟩ = some (.int .i64 seq) ∧ w'.cell? ⟨O, 3, none⟩ = some (.int .i64 day) ∧ w'.cell? ⟨O, 4, none⟩ = some (.int .i64 idx) ∧ w'.cell? ⟨O, 5, none⟩ = some (.string op) ∧ w'.cell? ⟨O, 6, none⟩ = some (.slice qo L co) ∧ w'.cell? ⟨F, 0, none⟩ = some (.int .i64 (8 : Int)) ∧ w'.cell? ⟨F, 1, none⟩ = some (.int .i64 (atZ EA)) ∧ Below w7.heap.size w7 w')
        (first
          | (go_split_ands; with_reducible exact ⟨below_keep hbX (by assumption), below_keep hbX (by assumption), below_keep hbX (by assumption), below_keep hbX (by assumption), below_keep hbX (by assumption), below_keep hbX (by assumption), below_keep hbX (by assumption), below_keep hbX (by assumption), below_keep hbX (by assumption), Below.trans (by assumption) (hbX.mono (Below.size (by assumption)))⟩)
          | (go_split_ands; exact ⟨by go_keep, by go_keep, by go_keep, by go_keep, by go_keep, by go_keep, by go_keep, by go_keep, by go_keep, by assumption⟩)
          | (go_split_ands; exact ⟨by go_keep, by go_keep, by go_keep, by go_keep, by go_keep, by go_keep, by go_keep, by go_keep, by go_keep, Below.drew (by assumption)⟩))
        (first
          | (go_at_call 52; with_reducible refine (HCK.out _ (by go_split_ands; assumption)).mono ?_; rintro e wX ⟨evC, rfl, heC, hbX⟩)
          | (go_at_call 37; with_reducible refine (HSM.out _ _ heC (by go_split_ands; assumption)).mono ?_; rintro e wX ⟨rfl, hbX⟩)
          | (go_at_call 37; with_reducible refine (HSM.out _ _ (HEV.out _ (by go_split_ands; assumption)) (by go_split_ands; assumption)).mono ?_; rintro e wX ⟨rfl, hbX⟩))
      go_split_ands
      have g0 : wX.cell? ⟨F, 0, none⟩ = some (.int .i64 (8 : Int)) := by assumption
      have g9 : Below w7.heap.size w7 wX := by assumption
      go_wp2
      go_meet
      case rel => exact ⟨rfl, g9⟩
    · obtain rfl := hTe (by decide)
      clear hTe
      go_region_held3 (fun w' => w'.cell? ⟨O, 0, none⟩ = some (.int .i64 id) ∧ w'.cell? ⟨O, 1, none⟩ = some (.int .i64 par) ∧ w'.cell? ⟨O, 2, none⟩ = some (.int .i64 seq) ∧ w'.cell? ⟨O, 3, none⟩ = some (.int .i64 day) ∧ w'.cell? ⟨O, 4, none⟩ = some (.int .i64 idx) ∧ w'.cell? ⟨O, 5, none⟩ = some (.string op) ∧ w'.cell? ⟨O, 6, none⟩ = some (.slice qo L co) ∧ w'.cell? ⟨F, 0, none⟩ = some (.int .i64 (9 : Int)) ∧ w'.cell? ⟨F, 1, none⟩ = some (.int .i64 (atZ EA)) ∧ Below w7.heap.size w7 w')
        (first
          | (go_split_ands; with_reducible exact ⟨below_keep hbX (by assumption), below_keep hbX (by assumption), below_keep hbX (by assumption), below_keep hbX (by assumption), below_keep hbX (by assumption), below_keep hbX (by assumption), below_keep hbX (by assumption), below_keep hbX (by assumption), below_keep hbX (by assumption), Below.trans (by assumption) (hbX.mono (Below.size (by assumption)))⟩)
          | (go_split_ands; exact ⟨by go_keep, by go_keep, by go_keep, by go_keep, by go_keep, by go_keep, by go_keep, by go_keep, by go_keep, by assumption⟩)
          | (go_split_ands; exact ⟨by go_keep, by go_keep, by go_keep, by go_keep, by go_keep, by go_keep, by go_keep, by go_keep, by go_keep, Below.drew (by assumption)⟩))
        (first
          | (go_at_call 52; with_reducible refine (HCK.out _ (by go_split_ands; assumption)).mono ?_; rintro e wX ⟨evC, rfl, heC, hbX⟩)
          | (go_at_call 37; with_reducible refine (HSM.out _ _ heC (by go_split_ands; assumption)).mono ?_; rintro e wX ⟨rfl, hbX⟩)
          | (go_at_call 37; with_reducible refine (HSM.out _ _ (HEV.out _ (by go_split_ands; assumption)) (by go_split_ands; assumption)).mono ?_; rintro e wX ⟨rfl, hbX⟩))
      go_split_ands
      have g0 : wX.cell? ⟨F, 0, none⟩ = some (.int .i64 (9 : Int)) := by assumption
      have g9 : Below w7.heap.size w7 wX := by assumption
      go_wp2
      go_meet
      case rel => exact ⟨rfl, g9⟩
  case rest =>
  obtain ⟨rfl, hb8⟩ := hcut
  have hB8 : Below w.heap.size w wc := hB7.trans (hb8.mono hB7.size)
  have hv8 := hv7.below hb8
  have hs8 := hs7.below hb8
  have ho8 := ho7.below hb8
  have hF8 := hF7.below hb8
  clear hv7 hs7 ho7 hF7 HCK HSM HEV he7 hB7 hb8
  generalize wc = w8 at *
  go_upto_region 9 with fail
  go_cut [75] from 67 to 74 (fun c wx => c = .bool false ∧ Below w8.heap.size w8 wx)
  case first =>
    have k0 := hF8.c0
    have hb0 : Below w8.heap.size w8 w8 := Below.refl _ _
    obtain ⟨z0, z1, z2, z3, z4, z5, z6⟩ := hs8.cells
    dsimp only at z0 z1 z2 z3 z4 z5
    by_cases hX0 : X = 0
    · have hEC : EC = 0 := by have := HXE.out; omega
      have hTT : TL = T := by rw [← HT.out, if_pos hEC]
      have htx := HTX.out hEC w8 hB8
      rw [hTT] at htx
      subst hX0
      clear hTT hEC
      go_wp2_with fail
      refine htx.mono ?_
      rintro e w9 ⟨rfl, hb9⟩
      clear htx
      have hbe : (T.toList == T.toList) = true := by simp
      go_wp2
      go_meet
      case rel => exact ⟨rfl, hb9⟩
    · have q1 : (X == 0) = false := beq_eq_false_iff_ne.2 hX0
      go_wp2
      go_meet
      case rel => exact ⟨rfl, hb0⟩
  case rest =>
  obtain ⟨rfl, hb9⟩ := hcut
  have hB9 : Below w.heap.size w wc := hB8.trans (hb9.mono hB8.size)
  have hv9 := hv8.below hb9
  have hs9 := hs8.below hb9
  have ho9 := ho8.below hb9
  have hF9 := hF8.below hb9
  clear hv8 hs8 ho8 hF8 hB8 hb9 HT HTX hXv
  generalize wc = w9 at *
  go_upto_block 0 with fail
  go_cut [10, 11, 12] from 76 to 110 (fun x y _ wx => x = .int .i64 RK.1 ∧ y = .int .i64 RK.2 ∧ wx = w9)
  case first =>
    have k0 := hF9.c0
    have z6 := hs9.cells.2.2.2.2.2.2
    by_cases hX0 : X = 0
    case neg =>
      have q1 : (X == 0) = false := beq_eq_false_iff_ne.2 hX0
      have hRR : RK = (0, 0) := by rw [HRK.out, if_neg (by have := HXE.out; omega)]
      subst hRR
      clear HRK
      go_wp2_with fail
      go_loopw [10, 11, 12] (fun x y k wr => x = .int .i64 0 ∧ y = .int .i64 0 ∧ k = .int .i64 0 ∧ wr = w9) (fun _ _ _ _ => 0)
      case atStart => exact ⟨rfl, rfl, rfl, rfl⟩
      case round =>
        obtain ⟨rfl, rfl, rfl, rfl⟩ := hrel
        by_cases hL0 : (0 : Int) < (L : Int)
        · go_wp2
          go_meet
          case rel => exact ⟨rfl, rfl, rfl⟩
        · go_wp2
          go_meet
          case rel => exact ⟨rfl, rfl, rfl⟩
    case pos =>
    have hEC : EC = 0 := by have := HXE.out; omega
    have HOK2 : Hid (∀ f ∈ fs, fileE f = 0) := HOK.out hEC
    have HRK2 : Hid (RK = rk fs 0 0) := by
      show _ = _
      rw [HRK.out, if_pos hEC]
    have HFX : Hid (FlsAt w9 (.slice q L cap) fs) := HX.out w9 hB9
    subst hX0
    clear HRK HOK hEC
    go_wp2_with fail
    go_loopw [10, 11, 12] (fun x y k wr => ∃ (n : Nat) (xr yr : Int), n ≤ L ∧ x = .int .i64 xr ∧ y = .int .i64 yr ∧ k = .int .i64 n ∧ RkLeft fs n xr yr ∧ wr = w9) (fun _ _ k _ => L - (intOf k).toNat)
    case atStart => exact ⟨0, 0, 0, by omega, rfl, rfl, rfl, rkL_zero fs, rfl⟩
    case round =>
      obtain ⟨n, xr, yr, hn, rfl, rfl, rfl, hrk, rfl⟩ := hrel
      have HRL : Hid (RkLeft fs n xr yr) := hrk
      obtain ⟨-, hx0, hx1, hy0, hy1⟩ := hrk
      by_cases hlt : n < L
      · have hltx : n < fs.length := by rw [HLE.out]; exact hlt
        obtain ⟨b, o, hq, hc⟩ := HFX.out.cells (fun e => by rw [e] at hltx; simp at hltx)
        subst hq
        obtain ⟨-, c1, c2, -, -, -⟩ := hc n hltx
        obtain ⟨k1, k2, -⟩ := file_kind (HOK2.out fs[n] (List.getElem_mem _))
        have hgo := fun e => rkL_gone HRL.out hltx e k1 k2
        have hda := fun e => rkL_data HRL.out hltx e k1 k2
        generalize fs[n] = f at c1 c2 hgo hda k1 k2
        obtain ⟨fp, fq, fn, flo, fhi, fseq⟩ := f
        dsimp only at c1 c2 hgo hda k1 k2
        have hiL : (n : Int) < (L : Int) := by omega
        have hi0' : (0 : Int) ≤ (n : Int) := by omega
        have hL61 := HLX.out
        have hwx : IntKind.i64.wrap (xr + fn) = xr + fn := IntWalk.i64_in _ (by omega)
        have hwy : IntKind.i64.wrap (yr + fn) = yr + fn := IntWalk.i64_in _ (by omega)
        clear hL61
        clear hc hltx HRL
        by_cases hd : fq.data.toList = [45]
        · have HNX : Hid (RkLeft fs (n + 1) xr (yr + fn)) := hgo hd
          have d1 := eqB_of hd
          clear hgo hda hd
          go_wp2
          go_roundw
          case rel => exact ⟨n + 1, xr, yr + fn, by omega, rfl, rfl, by go_num, HNX.out, by first | rfl | trivial⟩
          case measure => simp [intOf]; omega
        · have HNX : Hid (RkLeft fs (n + 1) (xr + fn) yr) := hda hd
          have d1 := neB_of hd
          clear hgo hda hd
          go_wp2
          go_roundw
          case rel => exact ⟨n + 1, xr + fn, yr, by omega, rfl, rfl, by go_num, HNX.out, by first | rfl | trivial⟩
          case measure => simp [intOf]; omega
      · obtain rfl : n = L := by omega
        have HPP : Hid (RK = (xr, yr)) := by
          show _ = _
          have h' := HRL.out
          rw [← HLE.out] at h'
          rw [HRK2.out]
          exact rkL_all h'
        go_wp2
        go_meet
        case rel => rw [HPP.out]; exact ⟨rfl, rfl, rfl⟩
  case rest =>
  obtain ⟨rfl, rfl, rfl⟩ := hcut
  generalize wc = w9 at *
  clear HOK HRK
  obtain ⟨RR, RG⟩ := RK
  dsimp only at *
  obtain ⟨z0, z1, z2, z3, z4, z5, z6⟩ := ho9.cells
  dsimp only at z0 z1 z2 z3 z4 z5
  have hro := HRO0.out w9 (.slice qo L co) (HL.out w9 hB9) hv9 (by have := HLX.out; omega) HSH.out
  clear HRO0
  go_wp2_with fail
  refine hro.mono ?_
  rintro e w10 ⟨rfl, hb10⟩
  clear hro z0 z1 z2 z3 z4 z5 z6
  have hB10 : Below w.heap.size w w10 := hB9.trans (hb10.mono hB9.size)
  have hF10 := hF9.below hb10
  have hFS : w.heap.size < F := by omega
  clear hs9 ho9 hv9 hF9 hB9 hb10 HX HSH HLX
  have hrd := K.read w10 t (HL.out w10 hB10) ht
  have hrs := fun W => readSnap_any t W ht
  have hr12 := readS_le t.data.toList
  have hrl := readS_60 t.data.toList
  generalize readS t.data.toList = RD at hrd hrs hr12 hrl
  obtain ⟨⟨xid, xpar, xseq, xday, xidx, xop, xfs⟩, RC1, RC2⟩ := RD
  dsimp only at hr12 hrl
  go_wp2_with fail
  refine hrd.mono ?_
  rintro e w11 ⟨vx, ev, rfl, hvx, hev, hb11⟩
  clear hrd
  dsimp only at hvx hev
  obtain ⟨qx, cx, hq⟩ := hvx.form
  subst hq
  unfold snV
  dsimp only
  obtain ⟨N, hN⟩ : ∃ N, xfs.length = N := ⟨_, rfl⟩
  have HN : Hid (xfs.length = N) := hN
  rw [hN] at hvx hrl ⊢
  clear hN
  have hB11 : Below w.heap.size w w11 := hB10.trans (hb11.mono hB10.size)
  have hF11 := hF10.below hb11
  clear hB10 hF10 hb11
  have hal : Below w11.heap.size w11 (w11.alloc (.cells #[.int .i64 xid, .int .i64 xpar, .int .i64 xseq, .int .i64 xday, .int .i64 xidx, .string xop, .slice qx N cx] 74)) := (Below.refl _ _).alloc (Nat.le_refl _) _
  have hX12 : SnAt (w11.alloc (.cells #[.int .i64 xid, .int .i64 xpar, .int .i64 xseq, .int .i64 xday, .int .i64 xidx, .string xop, .slice qx N cx] 74)) w11.heap.size (xid, xpar, xseq, xday, xidx, xop, xfs) (.slice qx N cx) := SnAt.new w11 (xid, xpar, xseq, xday, xidx, xop, xfs) (.slice qx N cx)
  have hv12 := hvx.below hal
  have hF12 := hF11.below hal
  have hB12 : Below w.heap.size w (w11.alloc (.cells #[.int .i64 xid, .int .i64 xpar, .int .i64 xseq, .int .i64 xday, .int .i64 xidx, .string xop, .slice qx N cx] 74)) := hB11.trans (hal.mono hB11.size)
  have he12 := hev.keep (keepsC_below hal)
  have hFX : F < w11.heap.size := hF11.lt
  clear hvx hF11 hB11 hev hal
  go_upto_region 21 with fail
  generalize w11.alloc (.cells #[.int .i64 xid, .int .i64 xpar, .int .i64 xseq, .int .i64 xday, .int .i64 xidx, .string xop, .slice qx N cx] 74) = w12 at hX12 hv12 hF12 hB12 he12 ⊢
  generalize w11.heap.size = BX at hX12 hFX ⊢
  have hrs1 := hrs w12
  clear hrs
  go_wp2_with fail
  refine hrs1.mono ?_
  rintro e w13 ⟨vw, rfl, hvw, hb13⟩
  clear hrs1
  dsimp only at hvw
  obtain ⟨qw, cw, hq⟩ := hvw.form
  subst hq
  unfold snV
  dsimp only
  rw [HN.out] at hvw ⊢
  have hFw2 : w.heap.size ≤ F := Nat.le_of_lt hFS
  have hal0 : Below w13.heap.size w13 (w13.alloc (.cells #[.int .i64 xid, .int .i64 xpar, .int .i64 xseq, .int .i64 xday, .int .i64 xidx, .string xop, .slice qw N cw] 74)) := (Below.refl _ _).alloc (Nat.le_refl _) _
  have hFa := hF12.below hb13
  have hXa := hX12.below hb13
  have hBa : Below w.heap.size w w13 := hB12.trans (hb13.mono hB12.size)
  have hFW : F < w13.heap.size := hFa.lt
  have hF1 : FC (w13.setCell ⟨F, 0, none⟩ (.int .i64 RC1)) F RC1 (atZ EA) := by
    have := hFa
    unfold FC at *
    rw [heap_setCell_same _ _ _ _ _ _ this]; rfl
  have hal1 : Below (w13.setCell ⟨F, 0, none⟩ (.int .i64 RC1)).heap.size (w13.setCell ⟨F, 0, none⟩ (.int .i64 RC1)) ((w13.setCell ⟨F, 0, none⟩ (.int .i64 RC1)).alloc (.cells #[.int .i64 xid, .int .i64 xpar, .int .i64 xseq, .int .i64 xday, .int .i64 xidx, .string xop, .slice qw N cw] 74)) := (Below.refl _ _).alloc (Nat.le_refl _) _
  have hFs := hFa.set RC1 (atZ RC2)
  have hBs : Below w.heap.size w ((w13.setCell ⟨F, 0, none⟩ (.int .i64 RC1)).setCell ⟨F, 1, none⟩ (.int .i64 (atZ RC2))) := (hBa.setCell hFw2 _).setCell hFw2 _
  have hxs := hFa.ne_fls (hv12.below hb13) 0 (.int .i64 RC1) 1 (.int .i64 (atZ RC2))
  have hys := hFa.ne_fls hvw 0 (.int .i64 RC1) 1 (.int .i64 (atZ RC2))
  have hXs : SnAt ((w13.setCell ⟨F, 0, none⟩ (.int .i64 RC1)).setCell ⟨F, 1, none⟩ (.int .i64 (atZ RC2))) BX (xid, xpar, xseq, xday, xidx, xop, xfs) (.slice qx N cx) := sn_other (sn_other hXa (by omega) _ _) (by omega) _ _
  have hes : ToldE ((w13.setCell ⟨F, 0, none⟩ (.int .i64 RC1)).setCell ⟨F, 1, none⟩ (.int .i64 (atZ RC2))) a ev (RC1, RC2) := he12.keep (keepsC_set (keepsC_below hb13) hFa _ _)
  have hsz : ((w13.setCell ⟨F, 0, none⟩ (.int .i64 RC1)).setCell ⟨F, 1, none⟩ (.int .i64 (atZ RC2))).heap.size = w13.heap.size := by simp [World.setCell]
  have hal : Below ((w13.setCell ⟨F, 0, none⟩ (.int .i64 RC1)).setCell ⟨F, 1, none⟩ (.int .i64 (atZ RC2))).heap.size ((w13.setCell ⟨F, 0, none⟩ (.int .i64 RC1)).setCell ⟨F, 1, none⟩ (.int .i64 (atZ RC2))) (((w13.setCell ⟨F, 0, none⟩ (.int .i64 RC1)).setCell ⟨F, 1, none⟩ (.int .i64 (atZ RC2))).alloc (.cells #[.int .i64 xid, .int .i64 xpar, .int .i64 xseq, .int .i64 xday, .int .i64 xidx, .string xop, .slice qw N cw] 74)) := (Below.refl _ _).alloc (Nat.le_refl _) _
  have hW14 : SnAt (((w13.setCell ⟨F, 0, none⟩ (.int .i64 RC1)).setCell ⟨F, 1, none⟩ (.int .i64 (atZ RC2))).alloc (.cells #[.int .i64 xid, .int .i64 xpar, .int .i64 xseq, .int .i64 xday, .int .i64 xidx, .string xop, .slice qw N cw] 74)) w13.heap.size (xid, xpar, xseq, xday, xidx, xop, xfs) (.slice qw N cw) := by
    rw [← hsz]
    exact SnAt.new ((w13.setCell ⟨F, 0, none⟩ (.int .i64 RC1)).setCell ⟨F, 1, none⟩ (.int .i64 (atZ RC2))) (xid, xpar, xseq, xday, xidx, xop, xfs) (.slice qw N cw)
  have hF14 := hFs.below hal
  have hX14 := hXs.below hal
  have hx14 := hxs.below hal
  have hy14 := hys.below hal
  have he14 := hes.keep (keepsC_below hal)
  have hB14 : Below w.heap.size w (((w13.setCell ⟨F, 0, none⟩ (.int .i64 RC1)).setCell ⟨F, 1, none⟩ (.int .i64 (atZ RC2))).alloc (.cells #[.int .i64 xid, .int .i64 xpar, .int .i64 xseq, .int .i64 xday, .int .i64 xidx, .string xop, .slice qw N cw] 74)) := hBs.trans (hal.mono hBs.size)
  have j0 := (hFa.below hal0).c0
  have j1 := (hFa.below hal0).c1
  have jz := (hFa.below hal0).fz
  have i0 := (hF1.below hal1).c0
  have i1 := (hF1.below hal1).c1
  have iz := (hF1.below hal1).fz
  clear hal hal0 hal1 hsz hF1 hFs hXs hxs hys hes hBs hBa hXa hB12 hF12 hX12 hv12 he12 hvw hb13
  go_upto_region 22 with fail
  clear j0 j1 jz i0 i1 iz hFa
  generalize ((w13.setCell ⟨F, 0, none⟩ (.int .i64 RC1)).setCell ⟨F, 1, none⟩ (.int .i64 (atZ RC2))).alloc (.cells #[.int .i64 xid, .int .i64 xpar, .int .i64 xseq, .int .i64 xday, .int .i64 xidx, .string xop, .slice qw N cw] 74) = w14 at hW14 hF14 hX14 hx14 hy14 he14 hB14 ⊢
  generalize w13.heap.size = BW at hW14 ⊢
  have hsm := sameSnap_yes (xid, xpar, xseq, xday, xidx, xop, xfs) (.slice qx N cx) (.slice qw N cw) w14 hx14 hy14 (by dsimp only; have := HN.out; omega)
  unfold snV at hsm
  dsimp only at hsm
  obtain ⟨a0, a1, a2, a3, a4, a5, a6⟩ := hX14.cells
  obtain ⟨b0, b1, b2, b3, b4, b5, b6⟩ := hW14.cells
  dsimp only at a0 a1 a2 a3 a4 a5 b0 b1 b2 b3 b4 b5
  go_wp2_with fail
  refine hsm.mono ?_
  rintro e w15 ⟨rfl, hb15⟩
  clear hsm a0 a1 a2 a3 a4 a5 a6 b0 b1 b2 b3 b4 b5 b6 hX14 hW14 hx14 hy14
  have hB15 : Below w.heap.size w w15 := hB14.trans (hb15.mono hB14.size)
  have hF15 := hF14.below hb15
  have he15 := he14.keep (keepsC_below hb15)
  clear hB14 hF14 he14 hb15
  have hfi := K.first w15
  unfold snV firstS at hfi
  dsimp only at hfi
  go_wp2_with fail
  refine hfi.mono ?_
  rintro e w16 ⟨rfl, hb16⟩
  clear hfi
  have hB16 : Below w.heap.size w w16 := hB15.trans (hb16.mono hB15.size)
  have hF16 := hF15.below hb16
  have he16 := he15.keep (keepsC_below hb16)
  clear hB15 hF15 he15 hb16
  have hs2 := sameSnap_yes firstS (.slice none 0 0) (.slice none 0 0) w16 (nilFls _) (nilFls _) (by decide)
  unfold snV firstS at hs2
  dsimp only at hs2
  go_wp2_with fail
  refine hs2.mono ?_
  rintro e w17 ⟨rfl, hb17⟩
  clear hs2
  have hB17 : Below w.heap.size w w17 := hB16.trans (hb17.mono hB16.size)
  have hF17 := hF16.below hb17
  have he17 := he16.keep (keepsC_below hb17)
  clear hB16 hF16 he16 hb17
  have hfa := he17.same hr12 (HE.out w17 hB17)
  dsimp only at hfa
  have l0 := hF17.c0
  have l1 := hF17.c1
  go_wp2_with fail
  refine hfa.mono ?_
  rintro e w18 ⟨rfl, hb18⟩
  clear hfa l0 l1
  go_wp2
  go_ret
  exact ⟨rfl, hB17.trans (hb18.mono hB17.size)⟩
end Go.Proofs.YtpkoefpdpoikkaaGreatDoor
