/-
  The walk of MetaTells: whatever numbers and text: true; what was there is as it was.
-/
import Derived.Test.YtniipgaacdpncaaGreatDoorMetaLaw
import Derived.Deep.RegionWith
import Derived.Deep.CutBlock
namespace Go.Proofs.YtniipgaacdpncaaGreatDoor
open Go.RowKit Go.Extern.Stop Go.Stop Go.Extern Go.Sort Go.Shelf Go.Lib

theorem last_at {zs : List Int} (h : zs ≠ []) : zs.getLastD 0 = zs[zs.length - 1]'(by have := List.length_pos_iff.2 h; omega) := by
  rw [List.getLastD_eq_getLast?, List.getLast?_eq_some_getLast h, Option.getD_some, List.getLast_eq_getElem]

theorem keys_off2 {W : World} {F : Nat} {v : Value} {zs : List Int} (h : KeysAt W v zs) (hn : ∀ k, v.ownBlock = some k → F < k) (p r : Int) : KeysAt ((W.setCell ⟨F, 0, none⟩ (.int .i64 p)).setCell ⟨F, 1, none⟩ (.int .i64 r)) v zs := keys_off h hn p r

set_option maxRecDepth 100000 in
set_option maxHeartbeats 32000000 in
theorem metaTells_any (q1 : Option Addr) (c1 : Nat) (zs : List Int) (q2 : Option Addr) (c2 : Nat) (ys : List Int) (id : Int) (s : ByteArray) (w : World) (a : Nat → Addr) (EM : World → Prop) (K : MetaK a EM) (h : EM w) (hE : Errs w a) (hz : KeysAt w (.slice q1 zs.length c1) zs) (hq1 : q1 = none → c1 = 0) (hy : KeysAt w (.slice q2 ys.length c2) ys) (hq2 : q2 = none → c2 = 0) (hlz : zs.length ≤ maxLen) (hly : ys.length ≤ maxLen) (hs : s.size ≤ maxLen) :
    Calls Tryz.prog 3 #[.slice q1 zs.length c1, .slice q2 ys.length c2, .int .i64 id, .string s] w fun e w' => e = .returned (.bool true) ∧ Below w.heap.size w w' := by
  have HL : Hid (∀ W, Below w.heap.size w W → EM W) := fun W hb => K.below _ _ h hb
  have HE : Hid (∀ W, Below w.heap.size w W → Errs W a) := fun W hb => hE.below hb
  have HZ : Hid (∀ W, Below w.heap.size w W → KeysAt W (.slice q1 zs.length c1) zs) := fun W hb => hz.below hb
  have HY : Hid (∀ W, Below w.heap.size w W → KeysAt W (.slice q2 ys.length c2) ys) := fun W hb => hy.below hb
  have hda := noted_any w a EM K h
  have HOZ : Hid (zs.length ≤ 45 → ∀ W, Below w.heap.size w W → Calls Tryz.prog 7 #[.slice q1 zs.length c1] W fun e w' => ∃ v', e = .returned v' ∧ w'.ownsRow W.heap.size 3 1 v' zs.length (zs.map encZ) ∧ Below W.heap.size W w') := fun h45 W hb => ownInts2_any q1 c1 zs W (HZ.out W hb) hq1 (by omega)
  have HOY : Hid (ys.length ≤ 45 → ∀ W, Below w.heap.size w W → Calls Tryz.prog 7 #[.slice q2 ys.length c2] W fun e w' => ∃ v', e = .returned v' ∧ w'.ownsRow W.heap.size 3 1 v' ys.length (ys.map encZ) ∧ Below W.heap.size W w') := fun h45 W hb => ownInts2_any q2 c2 ys W (HY.out W hb) hq2 (by omega)
  have HIF : Hid (zs.length ≤ 45 → ∀ W, Below w.heap.size w W → Calls Tryz.prog 5 #[.slice q1 zs.length c1] W fun e w' => e = .returned (.agg #[.int .i64 (idsE zs).1, .int .i64 (atZ (idsE zs).2)]) ∧ Below W.heap.size W w') := fun h45 W hb => idsFault_any _ zs W (HZ.out W hb) (by omega)
  have HTX : Hid ((idsE zs).1 = 0 → ∀ W, Below w.heap.size w W → Calls Tryz.prog 10 #[.slice q1 zs.length c1] W fun e w' => e = .returned (.string (bytesOf (idsL zs))) ∧ Below W.heap.size W w') := fun e W hb => idsText_any _ zs W (HZ.out W hb) e
  have HIN : Hid (∀ W (z : Int), Below w.heap.size w W → Calls Tryz.prog 18 #[.int .i64 z, .slice q2 ys.length c2] W fun e w' => e = .returned (.bool (ys.contains z)) ∧ w' = W) := fun W z hb => inInts_any _ ys z W (HY.out W hb) hly
  have HCE0 : Hid (∀ C, idsE zs = C → C.1 ≤ 12 ∧ (C.1 = 0 ∨ C.1 = 2 ∨ C.1 = 6 ∨ C.1 = 8 ∨ C.1 = 9)) := fun C e => by rw [← e]; exact ⟨idsE_le zs, idsE_vals zs⟩
  obtain ⟨L, hL⟩ : ∃ L, zs.length = L := ⟨_, rfl⟩
  obtain ⟨M, hM⟩ : ∃ L, ys.length = L := ⟨_, rfl⟩
  have HLE : Hid (zs.length = L) := hL
  have HME : Hid (ys.length = M) := hM
  rw [hL] at hlz HZ HOZ HIF HTX ⊢
  rw [hM] at hly HY HOY HIN ⊢
  clear hL hM hz hy hq1 hq2
  unfold maxLen at hlz hly hs
  go_enter Tryz.func3, Tryz.ntmps3
  go_wp2_with fail
  refine hda.mono ?_
  rintro e w1 ⟨rfl, hB1⟩
  clear hda
  obtain ⟨BT, hBT⟩ : ∃ B : Bool, B = (decide (45 < L) || decide (45 < M) || decide (500 < s.size)) := ⟨_, rfl⟩
  go_upto_region 2 with fail
  go_cut [36] from 20 to 35 (fun c wx => c = .bool BT ∧ wx = w1)
  case first =>
    by_cases i1 : 45 < L
    · obtain rfl : BT = true := by rw [hBT]; simp [i1]
      have j1 : (45 : Int) < (L : Int) := by omega
      clear hBT
      go_wp2
      go_meet
      case rel => exact ⟨rfl, rfl⟩
    have j1 : ¬ (45 : Int) < (L : Int) := by omega
    by_cases i2 : 45 < M
    · obtain rfl : BT = true := by rw [hBT]; simp [i2]
      have j2 : (45 : Int) < (M : Int) := by omega
      clear hBT
      go_wp2
      go_meet
      case rel => exact ⟨rfl, rfl⟩
    have j2 : ¬ (45 : Int) < (M : Int) := by omega
    by_cases i3 : 500 < s.size
    · obtain rfl : BT = true := by rw [hBT]; simp [i3]
      have j3 : (500 : Int) < (s.size : Int) := by omega
      clear hBT
      go_wp2
      go_meet
      case rel => exact ⟨rfl, rfl⟩
    obtain rfl : BT = false := by rw [hBT]; simp [i1, i2, i3]
    have j3 : ¬ (500 : Int) < (s.size : Int) := by omega
    clear hBT
    go_wp2
    go_meet
    case rel => exact ⟨rfl, rfl⟩
  case rest =>
  obtain ⟨rfl, rfl⟩ := hcut
  generalize wc = w2 at *
  cases BT
  case true =>
    clear hBT
    go_wp2
    go_ret
    exact ⟨rfl, hB1⟩
  case false =>
  obtain ⟨hL45, hM45, hs5⟩ : L ≤ 45 ∧ M ≤ 45 ∧ s.size ≤ 500 := by
    simp only [Bool.false_eq, Bool.or_eq_false_iff, decide_eq_false_iff_not] at hBT
    omega
  clear hBT
  have HOI0 : Hid (∀ W, Below w.heap.size w W → Calls Tryz.prog 7 #[.slice q1 L c1] W fun e w' => ∃ v', e = .returned v' ∧ w'.ownsRow W.heap.size 3 1 v' L (zs.map encZ) ∧ Below W.heap.size W w') := fun W hb => HOZ.out hL45 W hb
  have HOI1 : Hid (∀ W, Below w.heap.size w W → Calls Tryz.prog 7 #[.slice q1 L c1] W fun e w' => ∃ v', e = .returned v' ∧ IdsAt w' v' zs ∧ Below W.heap.size W w') := fun W hb => (HOZ.out hL45 W hb).mono fun e w' ⟨v', he, ho, hb'⟩ => ⟨v', he, idsAt_of_own (by rw [HLE.out]; exact ho), hb'⟩
  have HOJ1 : Hid (∀ W, Below w.heap.size w W → Calls Tryz.prog 7 #[.slice q2 M c2] W fun e w' => ∃ v', e = .returned v' ∧ KeysAt w' v' ys ∧ Below W.heap.size W w') := fun W hb => (HOY.out hM45 W hb).mono fun e w' ⟨v', he, ho, hb'⟩ => ⟨v', he, keysAt_of_own (by rw [HME.out]; exact ho), hb'⟩
  have HL100 : Hid (zs.length ≤ 100 ∧ ys.length ≤ 100) := ⟨by rw [HLE.out]; omega, by rw [HME.out]; omega⟩
  have hif := HIF.out hL45 w2 hB1
  clear HOZ HOY HIF
  go_wp2_with fail
  refine hif.mono ?_
  rintro e w5 ⟨rfl, hb5⟩
  clear hif
  obtain ⟨CE, hCE⟩ : ∃ C, idsE zs = C := ⟨_, rfl⟩
  have HCE : Hid (idsE zs = CE) := hCE
  obtain ⟨hCle, hCv⟩ := HCE0.out CE hCE
  rw [hCE] at HTX ⊢
  clear hCE HCE0
  obtain ⟨EC, EA⟩ := CE
  dsimp only at HTX hCle hCv ⊢
  obtain ⟨X, hX⟩ : ∃ X : Int, (EC : Int) = X := ⟨_, rfl⟩
  have HXE : Hid ((EC : Int) = X) := hX
  have hXv : X = 0 ∨ X = 2 ∨ X = 6 ∨ X = 8 ∨ X = 9 := by omega
  rw [hX]
  clear hX hCv
  have hB5 : Below w.heap.size w w5 := hB1.trans (hb5.mono hB1.size)
  have hal5 : Below w5.heap.size w5 (w5.alloc (.cells #[.int .i64 X, .int .i64 (atZ EA)] 25)) := (Below.refl _ _).alloc (Nat.le_refl _) _
  have hF6 : FC (w5.alloc (.cells #[.int .i64 X, .int .i64 (atZ EA)] 25)) w5.heap.size X (atZ EA) := heap_alloc_new _ _
  have hB6 : Below w.heap.size w (w5.alloc (.cells #[.int .i64 X, .int .i64 (atZ EA)] 25)) := hB5.trans (hal5.mono hB5.size)
  have hFw : w.heap.size ≤ w5.heap.size := hB5.size
  clear hb5 hal5 hB1 hB5
  go_upto_region 5 with fail
  generalize w5.alloc (.cells #[.int .i64 X, .int .i64 (atZ EA)] 25) = w6 at hF6 hB6 ⊢
  generalize w5.heap.size = F at hF6 hFw ⊢
  have ho6 := HOI1.out w6 hB6
  go_wp2_with fail
  refine ho6.mono ?_
  rintro e wa ⟨va, rfl, hva, hba⟩
  clear ho6
  have hBa : Below w.heap.size w wa := hB6.trans (hba.mono hB6.size)
  have hFa := hF6.below hba
  clear hF6 hB6 hba
  have ht6 := K.text wa va zs (HL.out wa hBa) hva HL100.out.1
  rw [HCE.out] at ht6
  dsimp only at ht6
  obtain ⟨T, hT⟩ : ∃ T, (if EC = 0 then bytesOf (idsL zs) else (⟨#[]⟩ : ByteArray)) = T := ⟨_, rfl⟩
  rw [hT] at ht6
  have HT : Hid ((if EC = 0 then bytesOf (idsL zs) else (⟨#[]⟩ : ByteArray)) = T) := hT
  clear hT hva
  go_wp2_with fail
  refine ht6.mono ?_
  rintro e w7 ⟨ev7, rfl, he7, hb7⟩
  clear ht6
  have hF7 := hFa.below hb7
  have hB7 : Below w.heap.size w w7 := hBa.trans (hb7.mono hBa.size)
  clear hFa hBa hb7
  have HOI : Hid (∀ W, Below w7.heap.size w7 W → Calls Tryz.prog 7 #[.slice q1 L c1] W fun e w' => ∃ v', e = .returned v' ∧ IdsAt w' v' zs ∧ Below W.heap.size W w') := fun W hb => HOI1.out W (hB7.trans (hb.mono hB7.size))
  have HCK : Hid (∀ W v, IdsAt W v zs → Below w7.heap.size w7 W → Calls Tryz.prog 9 #[v] W fun e w' => ∃ ev, e = .returned ev ∧ ToldE w' a ev (EC, EA) ∧ Below W.heap.size W w') := fun W v hv hb => by
    have h' := K.check W v zs (HL.out W (hB7.trans (hb.mono hB7.size))) hv HL100.out.1
    rw [HCE.out] at h'
    exact h'
  have HSM : Hid (∀ W ev, ToldE W a ev (EC, EA) → Below w7.heap.size w7 W → Calls Tryz.prog 8 #[ev, .agg #[.int .i64 X, .int .i64 (atZ EA)]] W fun e w' => e = .returned (.bool true) ∧ Below W.heap.size W w') := fun W ev ht hb => by
    have h' := ht.same hCle (HE.out W (hB7.trans (hb.mono hB7.size)))
    dsimp only at h'
    rw [HXE.out] at h'
    exact h'
  have HEV : Hid (∀ W, Below w7.heap.size w7 W → ToldE W a ev7 (EC, EA)) := fun W hb => he7.keep (keepsC_below hb)
  go_upto_region 6 with fail
  go_cut [66] from 46 to 65 (fun c wx => c = .bool false ∧ Below w7.heap.size w7 wx)
  case first =>
    have k0 := hF7.c0
    have k1 := hF7.c1
    have hb0 : Below w7.heap.size w7 w7 := Below.refl _ _
    have hbd : Below w7.heap.size w7 w7.drew := hb0.drew
    have hTe : X ≠ 0 → T = ⟨#[]⟩ := fun hne => by
      rw [← HT.out, if_neg (by have := HXE.out; omega)]
    have k0d := below_keep hbd k0
    have k1d := below_keep hbd k1
    clear hF7 he7
    rcases hXv with rfl | rfl | rfl | rfl | rfl
    · clear hTe
      first
        | (go_region_with (first
            | (go_at_call 7; with_reducible refine (HOI.out _ (by first | exact hb0 | exact hbd)).mono ?_; rintro e wO ⟨vO, rfl, hkO, hbO⟩; have hV : Below w7.heap.size w7 wO := (by first | exact hbO | exact hbd.trans (hbO.mono hbd.size)); have o0 := below_keep hV k0; have o1 := below_keep hV k1)
            | (go_at_call 9; with_reducible refine (HCK.out _ _ hkO hV).mono ?_; rintro e wX ⟨evC, rfl, heC, hbX⟩; have hY : Below w7.heap.size w7 wX := hV.trans (hbX.mono hV.size); have x0 := below_keep hY k0; have x1 := below_keep hY k1)
            | (go_at_call 8; with_reducible refine (HSM.out _ _ heC hY).mono ?_; rintro e wY ⟨rfl, hbY⟩; have hZ : Below w7.heap.size w7 wY := hY.trans (hbY.mono hY.size); have y0 := below_keep hZ k0; have y1 := below_keep hZ k1)
            | (go_at_call 8; with_reducible refine (HSM.out _ _ (HEV.out _ hZ) hZ).mono ?_; rintro e wZ ⟨rfl, hbZ⟩; have hQ : Below w7.heap.size w7 wZ := hZ.trans (hbZ.mono hZ.size); have z0 := below_keep hQ k0; have z1 := below_keep hQ k1)))
        | fail
      all_goals
        go_wp2
        go_meet
        case rel => exact ⟨rfl, hQ⟩
    · obtain rfl := hTe (by decide)
      clear hTe
      go_region_held3 (fun w' => w'.cell? ⟨F, 0, none⟩ = some (.int .i64 (2 : Int)) ∧ w'.cell? ⟨F, 1, none⟩ = some (.int .i64 (atZ EA)) ∧ Below w7.heap.size w7 w')
        (first
          | (go_split_ands; with_reducible exact ⟨below_keep hbX (by assumption), below_keep hbX (by assumption), Below.trans (by assumption) (hbX.mono (Below.size (by assumption)))⟩)
          | (go_split_ands; exact ⟨by go_keep, by go_keep, by assumption⟩)
          | (go_split_ands; exact ⟨by go_keep, by go_keep, Below.drew (by assumption)⟩))
        (first
          | (go_at_call 7; with_reducible refine (HOI.out _ (by go_split_ands; assumption)).mono ?_; rintro e wX ⟨vO, rfl, hkO, hbX⟩)
          | (go_at_call 9; with_reducible refine (HCK.out _ _ hkO (by go_split_ands; assumption)).mono ?_; rintro e wX ⟨evC, rfl, heC, hbX⟩)
          | (go_at_call 8; with_reducible refine (HSM.out _ _ heC (by go_split_ands; assumption)).mono ?_; rintro e wX ⟨rfl, hbX⟩)
          | (go_at_call 8; with_reducible refine (HSM.out _ _ (HEV.out _ (by go_split_ands; assumption)) (by go_split_ands; assumption)).mono ?_; rintro e wX ⟨rfl, hbX⟩))
      go_split_ands
      have g0 : wX.cell? ⟨F, 0, none⟩ = some (.int .i64 (2 : Int)) := by assumption
      have g9 : Below w7.heap.size w7 wX := by assumption
      go_wp2
      go_meet
      case rel => exact ⟨rfl, g9⟩
    · obtain rfl := hTe (by decide)
      clear hTe
      go_region_held3 (fun w' => w'.cell? ⟨F, 0, none⟩ = some (.int .i64 (6 : Int)) ∧ w'.cell? ⟨F, 1, none⟩ = some (.int .i64 (atZ EA)) ∧ Below w7.heap.size w7 w')
        (first
          | (go_split_ands; with_reducible exact ⟨below_keep hbX (by assumption), below_keep hbX (by assumption), Below.trans (by assumption) (hbX.mono (Below.size (by assumption)))⟩)
          | (go_split_ands; exact ⟨by go_keep, by go_keep, by assumption⟩)
          | (go_split_ands; exact ⟨by go_keep, by go_keep, Below.drew (by assumption)⟩))
        (first
          | (go_at_call 7; with_reducible refine (HOI.out _ (by go_split_ands; assumption)).mono ?_; rintro e wX ⟨vO, rfl, hkO, hbX⟩)
          | (go_at_call 9; with_reducible refine (HCK.out _ _ hkO (by go_split_ands; assumption)).mono ?_; rintro e wX ⟨evC, rfl, heC, hbX⟩)
          | (go_at_call 8; with_reducible refine (HSM.out _ _ heC (by go_split_ands; assumption)).mono ?_; rintro e wX ⟨rfl, hbX⟩)
          | (go_at_call 8; with_reducible refine (HSM.out _ _ (HEV.out _ (by go_split_ands; assumption)) (by go_split_ands; assumption)).mono ?_; rintro e wX ⟨rfl, hbX⟩))
      go_split_ands
      have g0 : wX.cell? ⟨F, 0, none⟩ = some (.int .i64 (6 : Int)) := by assumption
      have g9 : Below w7.heap.size w7 wX := by assumption
      go_wp2
      go_meet
      case rel => exact ⟨rfl, g9⟩
    · obtain rfl := hTe (by decide)
      clear hTe
      go_region_held3 (fun w' => w'.cell? ⟨F, 0, none⟩ = some (.int .i64 (8 : Int)) ∧ w'.cell? ⟨F, 1, none⟩ = some (.int .i64 (atZ EA)) ∧ Below w7.heap.size w7 w')
        (first
          | (go_split_ands; with_reducible exact ⟨below_keep hbX (by assumption), below_keep hbX (by assumption), Below.trans (by assumption) (hbX.mono (Below.size (by assumption)))⟩)
          | (go_split_ands; exact ⟨by go_keep, by go_keep, by assumption⟩)
          | (go_split_ands; exact ⟨by go_keep, by go_keep, Below.drew (by assumption)⟩))
        (first
          | (go_at_call 7; with_reducible refine (HOI.out _ (by go_split_ands; assumption)).mono ?_; rintro e wX ⟨vO, rfl, hkO, hbX⟩)
          | (go_at_call 9; with_reducible refine (HCK.out _ _ hkO (by go_split_ands; assumption)).mono ?_; rintro e wX ⟨evC, rfl, heC, hbX⟩)
          | (go_at_call 8; with_reducible refine (HSM.out _ _ heC (by go_split_ands; assumption)).mono ?_; rintro e wX ⟨rfl, hbX⟩)
          | (go_at_call 8; with_reducible refine (HSM.out _ _ (HEV.out _ (by go_split_ands; assumption)) (by go_split_ands; assumption)).mono ?_; rintro e wX ⟨rfl, hbX⟩))
      go_split_ands
      have g0 : wX.cell? ⟨F, 0, none⟩ = some (.int .i64 (8 : Int)) := by assumption
      have g9 : Below w7.heap.size w7 wX := by assumption
      go_wp2
      go_meet
      case rel => exact ⟨rfl, g9⟩
    · obtain rfl := hTe (by decide)
      clear hTe
      go_region_held3 (fun w' => w'.cell? ⟨F, 0, none⟩ = some (.int .i64 (9 : Int)) ∧ w'.cell? ⟨F, 1, none⟩ = some (.int .i64 (atZ EA)) ∧ Below w7.heap.size w7 w')
        (first
          | (go_split_ands; with_reducible exact ⟨below_keep hbX (by assumption), below_keep hbX (by assumption), Below.trans (by assumption) (hbX.mono (Below.size (by assumption)))⟩)
          | (go_split_ands; exact ⟨by go_keep, by go_keep, by assumption⟩)
          | (go_split_ands; exact ⟨by go_keep, by go_keep, Below.drew (by assumption)⟩))
        (first
          | (go_at_call 7; with_reducible refine (HOI.out _ (by go_split_ands; assumption)).mono ?_; rintro e wX ⟨vO, rfl, hkO, hbX⟩)
          | (go_at_call 9; with_reducible refine (HCK.out _ _ hkO (by go_split_ands; assumption)).mono ?_; rintro e wX ⟨evC, rfl, heC, hbX⟩)
          | (go_at_call 8; with_reducible refine (HSM.out _ _ heC (by go_split_ands; assumption)).mono ?_; rintro e wX ⟨rfl, hbX⟩)
          | (go_at_call 8; with_reducible refine (HSM.out _ _ (HEV.out _ (by go_split_ands; assumption)) (by go_split_ands; assumption)).mono ?_; rintro e wX ⟨rfl, hbX⟩))
      go_split_ands
      have g0 : wX.cell? ⟨F, 0, none⟩ = some (.int .i64 (9 : Int)) := by assumption
      have g9 : Below w7.heap.size w7 wX := by assumption
      go_wp2
      go_meet
      case rel => exact ⟨rfl, g9⟩
  case rest =>
  obtain ⟨rfl, hb8⟩ := hcut
  have hB8 : Below w.heap.size w wc := hB7.trans (hb8.mono hB7.size)
  have hF8 := hF7.below hb8
  clear hF7 HOI HCK HSM HEV he7 hB7 hb8
  generalize wc = w8 at *
  go_upto_region 8 with fail
  go_cut [75] from 67 to 74 (fun c wx => c = .bool false ∧ Below w8.heap.size w8 wx)
  case first =>
    have k0 := hF8.c0
    have hb0 : Below w8.heap.size w8 w8 := Below.refl _ _
    by_cases hX0 : X = 0
    · have hEC : EC = 0 := by have := HXE.out; omega
      have hTT : bytesOf (idsL zs) = T := by rw [← HT.out, if_pos hEC]
      have htx := HTX.out hEC w8 hB8
      rw [hTT] at htx
      subst hX0
      clear hTT hEC
      go_wp2_with fail
      refine htx.mono ?_
      rintro e w9 ⟨rfl, hb9⟩
      clear htx
      have hbe : (T.toList == T.toList) = true := by simp
      go_wp2
      go_meet
      case rel => exact ⟨rfl, hb9⟩
    · have q1' : (X == 0) = false := beq_eq_false_iff_ne.2 hX0
      go_wp2
      go_meet
      case rel => exact ⟨rfl, hb0⟩
  case rest =>
  obtain ⟨rfl, hb9⟩ := hcut
  have hB9 : Below w.heap.size w wc := hB8.trans (hb9.mono hB8.size)
  have hF9 := hF8.below hb9
  clear hF8 hB8 hb9 HT HTX hXv
  generalize wc = w9 at *
  have hrd := K.read w9 s (HL.out w9 hB9) (by omega)
  have hrs := fun W => readIDs_any s W (by omega)
  have hr12 := readI_le s.data.toList
  have hrl := readI_40 s.data.toList
  generalize readI s.data.toList = RD at hrd hrs hr12 hrl
  obtain ⟨RI, RC1, RC2⟩ := RD
  dsimp only at hrd hrs hr12 hrl
  go_wp2_with fail
  refine hrd.mono ?_
  rintro e w10 ⟨v10, ev10, rfl, hv10, he10, hb10⟩
  clear hrd
  have hB10 : Below w.heap.size w w10 := hB9.trans (hb10.mono hB9.size)
  have hF10 := hF9.below hb10
  clear hF9 hB9 hb10
  have hq10 := hrs w10
  clear hrs
  go_wp2_with fail
  refine hq10.mono ?_
  rintro e w11 ⟨v11, rfl, hv11, -, hb11⟩
  clear hq10
  have hB11 : Below w.heap.size w w11 := hB10.trans (hb11.mono hB10.size)
  have hF11 := hF10.below hb11
  have hk11 := hv10.below hb11
  have he11 := he10.keep (keepsC_below hb11)
  dsimp only at hv11
  clear hv10 he10 hF10 hB10 hb11
  have hal : Below w11.heap.size w11 (w11.alloc (.cells #[.int .i64 RC1, .int .i64 (atZ RC2)] 25)) := (Below.refl _ _).alloc (Nat.le_refl _) _
  have hB12 : Below w.heap.size w (w11.alloc (.cells #[.int .i64 RC1, .int .i64 (atZ RC2)] 25)) := hB11.trans (hal.mono hB11.size)
  have hF12 := hF11.below hal
  have hx12 := hk11.below hal
  have hy12 := hv11.below hal
  have he12 := he11.keep (keepsC_below hal)
  have hG12 : FC (w11.alloc (.cells #[.int .i64 RC1, .int .i64 (atZ RC2)] 25)) w11.heap.size RC1 (atZ RC2) := heap_alloc_new _ _
  have hFG : F < w11.heap.size := hF11.lt
  clear hal hB11 hF11 hk11 hv11 he11
  go_upto_region 12 with fail
  generalize w11.alloc (.cells #[.int .i64 RC1, .int .i64 (atZ RC2)] 25) = w12 at hB12 hF12 hx12 hy12 he12 hG12 ⊢
  generalize w11.heap.size = G at hG12 hFG ⊢
  have hfa := he12.same hr12 (HE.out _ hB12)
  dsimp only at hfa
  have l0 := hG12.c0
  have l1 := hG12.c1
  go_wp2_with fail
  refine hfa.mono ?_
  rintro e w13 ⟨rfl, hb13⟩
  clear hfa l0 l1
  have hsm := sameInts_yes v10 v11 RI w13 (hx12.below hb13) (hy12.below hb13) (by omega)
  go_wp2_with fail
  refine hsm.mono ?_
  rintro e w14 ⟨rfl, hb14⟩
  clear hsm
  have hbt := hb13.trans (hb14.mono hb13.size)
  have hB14 : Below w.heap.size w w14 := hB12.trans (hbt.mono hB12.size)
  have hF14 := hF12.below hbt
  have hG14 := hG12.below hbt
  clear hB12 hF12 hx12 hy12 he12 hG12 hb13 hb14 hbt hr12 hrl
  go_upto_if 98 with fail
  go_cut [16] from 98 to 104 (fun k wx => k = .int .i64 (zs.getLastD 0) ∧ wx = w14)
  case first =>
    by_cases hL0 : L = 0
    · have HZ0 : Hid (zs.getLastD 0 = 0) := by
        have : zs = [] := List.length_eq_zero_iff.1 (by rw [HLE.out]; exact hL0)
        show _ = _
        rw [this]; rfl
      have hpb : decide (0 < L) = false := by simp; omega
      rw [hpb]
      clear hF14 hG14 hL0 hpb
      go_wp2
      go_meet
      case rel => rw [HZ0.out]; exact ⟨rfl, rfl⟩
    · have hne : zs ≠ [] := fun e => hL0 (by rw [← HLE.out, e]; rfl)
      obtain ⟨b, o, hq, hc⟩ := (HZ.out w14 hB14).at hne
      subst hq
      obtain ⟨N, hN⟩ : ∃ N, L - 1 = N := ⟨_, rfl⟩
      have hla := last_at hne
      have hNz : N < zs.length := by rw [HLE.out]; omega
      have hcN := hc N hNz
      have HLA : Hid (zs.getLastD 0 = zs[N]) := by
        show _ = _
        rw [hla]
        congr 1
        rw [HLE.out]; exact hN
      generalize zs[N] = z at hcN HLA
      have hpb : decide (0 < L) = true := by simp; omega
      rw [hpb]
      have hw : IntKind.i64.wrap ((L : Int) - 1) = (N : Int) := by rw [IntWalk.i64_in _ (by omega)]; omega
      have hi1 : (N : Int) < (L : Int) := by omega
      have hi2 : (0 : Int) ≤ (N : Int) := by omega
      clear hc hla hN hNz hF14 hG14
      go_wp2
      go_meet
      case rel => rw [HLA.out]; exact ⟨rfl, rfl⟩
  case rest =>
  obtain ⟨rfl, rfl⟩ := hcut
  generalize wc = w14 at *
  have ho := HOI1.out w14 hB14
  go_wp2_with fail
  refine ho.mono ?_
  rintro e w15 ⟨v15, rfl, hv15, hb15⟩
  clear ho
  have hB15 : Below w.heap.size w w15 := hB14.trans (hb15.mono hB14.size)
  have hF15 := hF14.below hb15
  have hG15 := hG14.below hb15
  clear hB14 hF14 hG14 hb15
  have hno := K.now w15 v15 zs (HL.out w15 hB15) hv15.1 HL100.out.1
  clear hv15
  generalize zs.getLastD 0 = last at hno ⊢
  go_wp2_with fail
  refine hno.mono ?_
  rintro e w16 ⟨rfl, hb16⟩
  clear hno
  have hB16 : Below w.heap.size w w16 := hB15.trans (hb16.mono hB15.size)
  have hF16 := hF15.below hb16
  have hG16 := hG15.below hb16
  clear hB15 hF15 hG15 hb16
  have ho := HOI1.out w16 hB16
  go_wp2_with fail
  refine ho.mono ?_
  rintro e w17 ⟨v17, rfl, hv17, hb17⟩
  clear ho
  have hB17 : Below w.heap.size w w17 := hB16.trans (hb17.mono hB16.size)
  have hF17 := hF16.below hb17
  have hG17 := hG16.below hb17
  clear hB16 hF16 hG16 hb17
  have hpu := K.push w17 v17 zs id (HL.out w17 hB17) hv17 HL100.out.1
  have hP12 := pushE_le zs id
  have HPI : Hid (pushI zs id = if (pushE zs id).1 = 0 then zs ++ [id] else []) := rfl
  have HPE : Hid (pushE zs id = if EC ≠ 0 then (EC, EA) else ((idsE (zs ++ [id])).1, none)) := by
    show _ = _
    unfold pushE
    rw [HCE.out]
  have HIF2 : Hid (∀ W v, KeysAt W v (zs ++ [id]) → Calls Tryz.prog 5 #[v] W fun e w' => e = .returned (.agg #[.int .i64 (idsE (zs ++ [id])).1, .int .i64 (atZ (idsE (zs ++ [id])).2)]) ∧ Below W.heap.size W w') := fun W v hv => idsFault_any v _ W hv (by rw [List.length_append, HLE.out]; simp; omega)
  generalize pushI zs id = PI at hpu HPI
  generalize pushE zs id = PE at hpu hP12 HPI HPE
  generalize idsE (zs ++ [id]) = QE at HPE HIF2
  obtain ⟨PE1, PE2⟩ := PE
  obtain ⟨QE1, QE2⟩ := QE
  dsimp only at hpu hP12 HPI HPE HIF2
  go_wp2_with fail
  refine hpu.mono ?_
  rintro e w18 ⟨vx, ex, rfl, ⟨hvx, -⟩, hnx, hex, hb18⟩
  clear hpu hv17
  have hB18 : Below w.heap.size w w18 := hB17.trans (hb18.mono hB17.size)
  have hF18 := hF17.below hb18
  have hG18 := hG17.below hb18
  have HNX : Hid (∀ k, vx.ownBlock = some k → G < k) := fun k hk => Nat.lt_of_lt_of_le hG17.lt (hnx k hk)
  clear hB17 hF17 hG17 hb18 hnx
  obtain ⟨i0, hi0, hz0, hs0, hby0⟩ := Tryz.numInfo
  have ho := HOI0.out w18 hB18
  go_wp2_with fail
  refine ho.mono ?_
  rintro e w19 ⟨v19, rfl, ow19, hb19⟩
  clear ho
  have OW19 : Hid (w19.ownsRow w18.heap.size 3 1 v19 L (zs.map encZ)) := ow19
  have hB19 : Below w.heap.size w w19 := hB18.trans (hb19.mono hB18.size)
  have hal9 : Below w19.heap.size w19 (w19.alloc (.cells #[.int .i64 id] 3)) := (Below.refl _ _).alloc (Nat.le_refl _) _
  have hbA : Below w18.heap.size w18 (w19.alloc (.cells #[.int .i64 id] 3)) := hb19.trans (hal9.mono hb19.size)
  clear ow19
  go_wp2_with (at_builtin; refine wpList_append_own _ rfl _ _ 22 rfl w18.heap.size 3 i0 (.int .i64 0) 1 8 Tryz.underlying22 hi0 hz0 hs0 hby0 rfl (by decide) v19 L (zs.map encZ) rfl ?qc0 ⟨w19.heap.size, 0, none⟩ 1 1 [.int .i64 id] rfl ?qc1 ?qc2 ?qc3 ?qc4 ?qc5 ?qc6 ?_)
  case qc0 => exact own_below OW19.out hal9
  case qc1 => rfl
  case qc2 => exact cell_one _ _ _
  case qc3 => intro u hu; simp at hu; subst hu; rfl
  case qc4 => unfold maxLen; omega
  case qc5 => omega
  case qc6 => first | exact hbA.size | (have := hbA.size; omega)
  intro vw w20 ow20 hg20 hnil
  have hb20 : Below w18.heap.size w18 w20 := hbA.grown hg20 hbA.size (fun k hk => (OW19.out.lt k hk).1)
  have hvw : KeysAt w20 vw (zs ++ [id]) := keysAt_of_own (base := w18.heap.size) (by rw [List.length_append, HLE.out, List.map_append]; exact ow20)
  have HNW : Hid (∀ k, vw.ownBlock = some k → G < k) := fun k hk => Nat.lt_of_lt_of_le hG18.lt (ow20.lt k hk).1
  have hB20 : Below w.heap.size w w20 := hB18.trans (hb20.mono hB18.size)
  have hF20 := hF18.below hb20
  have hG20 := hG18.below hb20
  have hx20 := hvx.below hb20
  have he20 := hex.keep (keepsC_below hb20)
  clear ow20 hg20 hnil OW19 hbA hal9 hB19 hb19 hB18 hF18 hG18 hvx hex hb20 hi0 hz0 hs0 hby0
  have hGw : w.heap.size ≤ G := by omega
  have hF21 : FC ((w20.setCell ⟨G, 0, none⟩ (.int .i64 X)).setCell ⟨G, 1, none⟩ (.int .i64 (atZ EA))) F X (atZ EA) := fc_other (fc_other hF20 (by omega) _ _) (by omega) _ _
  have hG21 : FC ((w20.setCell ⟨G, 0, none⟩ (.int .i64 X)).setCell ⟨G, 1, none⟩ (.int .i64 (atZ EA))) G X (atZ EA) := hG20.set X (atZ EA)
  have hB21 : Below w.heap.size w ((w20.setCell ⟨G, 0, none⟩ (.int .i64 X)).setCell ⟨G, 1, none⟩ (.int .i64 (atZ EA))) := (hB20.setCell hGw _).setCell hGw _
  have hx21 : KeysAt ((w20.setCell ⟨G, 0, none⟩ (.int .i64 X)).setCell ⟨G, 1, none⟩ (.int .i64 (atZ EA))) vx PI := keys_off2 hx20 HNX.out _ _
  have hw21 : KeysAt ((w20.setCell ⟨G, 0, none⟩ (.int .i64 X)).setCell ⟨G, 1, none⟩ (.int .i64 (atZ EA))) vw (zs ++ [id]) := keys_off2 hvw HNW.out _ _
  have he21 : ToldE ((w20.setCell ⟨G, 0, none⟩ (.int .i64 X)).setCell ⟨G, 1, none⟩ (.int .i64 (atZ EA))) a ex (PE1, PE2) := he20.keep (keepsC_set (keepsC_below (Below.refl _ _)) hG20 _ _)
  have j0 := hF20.c0
  have j1 := hF20.c1
  have n0 := hG20.c0
  have n1 := hG20.c1
  have nz := hG20.fz
  clear hF20 hG20 hB20 hx20 hvw he20
  go_upto_region 22 with fail
  generalize ((w20.setCell ⟨G, 0, none⟩ (.int .i64 X)).setCell ⟨G, 1, none⟩ (.int .i64 (atZ EA))) = w21 at hF21 hG21 hB21 hx21 hw21 he21 ⊢
  clear j0 j1 n0 n1 nz
  have k0 := hG21.c0
  go_upto_if 125 with fail
  clear k0
  go_cut [129] from 125 to 128 (fun _ wx => FC wx F X (atZ EA) ∧ FC wx G PE1 (atZ PE2) ∧ Below w.heap.size w wx ∧ KeysAt wx vx PI ∧ KeysAt wx vw (zs ++ [id]) ∧ ToldE wx a ex (PE1, PE2))
  case first =>
    by_cases hX0 : X = 0
    · have hEC : EC = 0 := by have := HXE.out; omega
      have hPE := HPE.out
      rw [if_neg (by simpa using hEC)] at hPE
      injection hPE with hP1 hP2
      subst hP2
      subst hP1
      have hif := HIF2.out w21 vw hw21
      have hfd : ∀ W : World, (Instr.field 25 (.agg #[.int .i64 (PE1 : Int), .int .i64 (atZ QE2)]) 0).run Tryz.prog W = .ok (.int .i64 (PE1 : Int)) W := fun _ => by kernel_rfl
      subst hX0
      go_wp2_with fail
      refine hif.mono ?_
      rintro e w22 ⟨rfl, hb22⟩
      clear hif
      have hB22 : Below w.heap.size w w22 := hB21.trans (hb22.mono hB21.size)
      have hF22 := hF21.below hb22
      have hG22 := hG21.below hb22
      have hx22 := hx21.below hb22
      have hw22 := hw21.below hb22
      have he22 := he21.keep (keepsC_below hb22)
      clear hB21 hF21 hG21 hx21 hw21 he21 hb22
      have hbr := bare_of (PE1 : Int) w22
      go_wp2_with fail
      refine hbr.mono ?_
      rintro e w23 ⟨rfl, hb23⟩
      clear hbr
      have hB23 : Below w.heap.size w w23 := hB22.trans (hb23.mono hB22.size)
      have hF23 := hF22.below hb23
      have hG23 := hG22.below hb23
      have hx23 := hx22.below hb23
      have hw23 := hw22.below hb23
      have he23 := he22.keep (keepsC_below hb23)
      clear hB22 hF22 hG22 hx22 hw22 he22 hb23
      have HR : Hid (FC ((w23.setCell ⟨G, 0, none⟩ (.int .i64 PE1)).setCell ⟨G, 1, none⟩ (.int .i64 (-1))) F 0 (atZ EA) ∧ FC ((w23.setCell ⟨G, 0, none⟩ (.int .i64 PE1)).setCell ⟨G, 1, none⟩ (.int .i64 (-1))) G PE1 (-1) ∧ Below w.heap.size w ((w23.setCell ⟨G, 0, none⟩ (.int .i64 PE1)).setCell ⟨G, 1, none⟩ (.int .i64 (-1))) ∧ KeysAt ((w23.setCell ⟨G, 0, none⟩ (.int .i64 PE1)).setCell ⟨G, 1, none⟩ (.int .i64 (-1))) vx PI ∧ KeysAt ((w23.setCell ⟨G, 0, none⟩ (.int .i64 PE1)).setCell ⟨G, 1, none⟩ (.int .i64 (-1))) vw (zs ++ [id]) ∧ ToldE ((w23.setCell ⟨G, 0, none⟩ (.int .i64 PE1)).setCell ⟨G, 1, none⟩ (.int .i64 (-1))) a ex (PE1, none)) :=
        ⟨fc_other (fc_other hF23 (by omega) _ _) (by omega) _ _, hG23.set _ _, (hB23.setCell hGw _).setCell hGw _, keys_off2 hx23 HNX.out _ _, keys_off2 hw23 HNW.out _ _, he23.keep (keepsC_set (keepsC_below (Below.refl _ _)) hG23 _ _)⟩
      have n0 := hG23.c0
      have n1 := hG23.c1
      have nz := hG23.fz
      clear hB23 hF23 hG23 hx23 hw23 he23
      go_wp2
      go_meet
      case rel => exact HR.out
    · have q1' : (X == 0) = false := beq_eq_false_iff_ne.2 hX0
      have hEC : EC ≠ 0 := by have := HXE.out; omega
      have hPE := HPE.out
      rw [if_pos hEC] at hPE
      injection hPE with hP1 hP2
      subst hP1 hP2
      have HG : Hid (FC w21 G (PE1 : Int) (atZ PE2)) := by
        have h' := hG21
        rw [← HXE.out] at h'
        exact h'
      go_wp2
      go_meet
      case rel => exact ⟨hF21, HG.out, hB21, hx21, hw21, he21⟩
  case rest =>
  clear hF21 hG21 hB21 hx21 hw21 he21
  obtain ⟨hF24, hG24, hB24, hx24, hw24, he24⟩ := hcut
  generalize wc = w24 at *
  have hPl : PI.length ≤ 46 := by
    rw [HPI.out]
    split
    · rw [List.length_append, HLE.out]; simp; omega
    · exact Nat.zero_le _
  go_upto_region 24 with fail
  go_cut [154] from 130 to 153 (fun c wx => c = .bool false ∧ Below w24.heap.size w24 wx)
  case first =>
    have k0 := hG24.c0
    have k1 := hG24.c1
    have hfa := he24.same hP12 (HE.out _ hB24)
    dsimp only at hfa
    go_wp2_with fail
    refine hfa.mono ?_
    rintro e w25 ⟨rfl, hb25⟩
    clear hfa
    have m0 := below_keep hb25 k0
    by_cases hP0 : PE1 = 0
    · have hPI : PI = zs ++ [id] := by rw [HPI.out, if_pos hP0]
      have hsm := sameInts_yes vx vw (zs ++ [id]) w25 (by rw [← hPI]; exact hx24.below hb25) (hw24.below hb25) (by rw [← hPI]; omega)
      have hP0' : ((PE1 : Nat) : Int) = 0 := by omega
      rw [hP0'] at m0
      clear hP0 hPI k0 k1 hP0'
      go_wp2_with fail
      refine hsm.mono ?_
      rintro e w26 ⟨rfl, hb26⟩
      clear hsm
      go_wp2
      go_meet
      case rel => exact ⟨rfl, hb25.trans (hb26.mono hb25.size)⟩
    · have hPI : PI = [] := by rw [HPI.out, if_neg hP0]
      obtain ⟨qx, cx, hvx⟩ := hx24.shape
      rw [hPI] at hvx
      subst hvx
      have hP1 : (0 : Int) < (PE1 : Int) := by omega
      have hP2 : ((PE1 : Int) == 0) = false := beq_eq_false_iff_ne.2 (by omega)
      clear hP0 hPI k0 k1
      go_wp2
      go_meet
      case rel => exact ⟨rfl, hb25⟩
  case rest =>
  obtain ⟨rfl, hb25⟩ := hcut
  have hB25 : Below w.heap.size w wc := hB24.trans (hb25.mono hB24.size)
  have hF25 := hF24.below hb25
  clear hF24 hG24 hB24 hx24 hw24 he24 hb25 HNX HNW HPI HPE HIF2 hP12 hPl
  generalize wc = w25 at *
  have ho := HOI1.out w25 hB25
  go_wp2_with fail
  refine ho.mono ?_
  rintro e w26 ⟨v26, rfl, hv26, hb26⟩
  clear ho
  have hB26 : Below w.heap.size w w26 := hB25.trans (hb26.mono hB25.size)
  have hF26 := hF25.below hb26
  clear hB25 hF25 hb26
  have ho := HOJ1.out w26 hB26
  go_wp2_with fail
  refine ho.mono ?_
  rintro e w27 ⟨v27, rfl, hv27, hb27⟩
  clear ho
  have hB27 : Below w.heap.size w w27 := hB26.trans (hb27.mono hB26.size)
  have hF27 := hF26.below hb27
  have hv27' := hv26.below hb27
  clear hB26 hF26 hb27 hv26
  have hke := K.keep w27 v26 v27 zs ys (HL.out w27 hB27) hv27' hv27 HL100.out.1 HL100.out.2
  rw [HCE.out] at hke
  have hKl := keepI_len zs ys
  rw [HLE.out] at hKl
  have HKI : Hid (keepI zs ys = if EC = 0 then keepF zs ys else []) := by
    show _ = _
    unfold keepI
    rw [HCE.out]
  generalize keepI zs ys = KI at hke hKl HKI
  go_wp2_with fail
  refine hke.mono ?_
  rintro e w28 ⟨vk, ek, rfl, ⟨hvk, -⟩, -, hek, hb28⟩
  clear hke hv27 hv27'
  have hB28 : Below w.heap.size w w28 := hB27.trans (hb28.mono hB27.size)
  have hF28 := hF27.below hb28
  clear hB27 hF27 hb28
  go_upto_block 0 with fail
  go_cut [14, 17, 18] from 163 to 194 (fun v _ _ wx => KeysAt wx v KI ∧ Below w28.heap.size w28 wx)
  case first =>
    have k0 := hF28.c0
    by_cases hX0 : X = 0
    case neg =>
      have q1' : (X == 0) = false := beq_eq_false_iff_ne.2 hX0
      have HKN : Hid (∀ W, KeysAt W (.slice none 0 0) KI) := fun W => by
        rw [HKI.out, if_neg (by have := HXE.out; omega)]
        exact nilKeys W
      clear HKI
      go_wp2_with fail
      go_loopw [14, 17, 18] (fun v k _ wr => v = .slice none 0 0 ∧ k = .int .i64 0 ∧ wr = w28) (fun _ _ _ _ => 0)
      case atStart => exact ⟨rfl, rfl, rfl⟩
      case round =>
        obtain ⟨rfl, rfl, rfl⟩ := hrel
        by_cases hL0 : (0 : Int) < (L : Int)
        · go_wp2
          go_meet
          case rel => exact ⟨HKN.out _, Below.refl _ _⟩
        · go_wp2
          go_meet
          case rel => exact ⟨HKN.out _, Below.refl _ _⟩
    case pos =>
    have hEC : EC = 0 := by have := HXE.out; omega
    have hne : zs ≠ [] := (ids_good.1 (by rw [HCE.out]; exact hEC)).1
    have HK2 : Hid (KI = keepF zs ys) := by
      show _ = _
      rw [HKI.out, if_pos hEC]
    have HLN : Hid (∀ n, (keepP zs ys n).length ≤ 45) := fun n => by
      have := keepP_len zs ys n
      rw [HLE.out] at this
      omega
    obtain ⟨b, o, hq, hc⟩ := (HZ.out w28 hB28).at hne
    subst hq
    have HC : Hid (∀ j (h : j < zs.length), w28.cell? ⟨b, o + j, none⟩ = some (.int .i64 zs[j])) := hc
    have HF8 : Hid (FC w28 F X (atZ EA)) := hF28
    obtain ⟨i0, hi0, hz0, hs0, hby0⟩ := Tryz.numInfo
    subst hX0
    have hKP0 := keepP_zero (some := ys) hne
    clear HKI hEC hc k0 hF28 hne
    go_wp2_with fail
    go_loopw [14, 17, 18] (fun v k _ wr => ∃ n : Nat, n ≤ L ∧ k = .int .i64 n ∧ Below w28.heap.size w28 wr ∧ wr.ownsRow w28.heap.size 3 1 v (keepP zs ys n).length ((keepP zs ys n).map encZ)) (fun _ k _ _ => L - (intOf k).toNat)
    case atStart => exact ⟨0, by omega, rfl, Below.refl _ _, by rw [hKP0]; exact World.ownsRow_nil _ _ _ _⟩
    case round =>
      obtain ⟨n, hn, rfl, hb, hown⟩ := hrel
      have OW : Hid (wr.ownsRow w28.heap.size 3 1 u14 (keepP zs ys n).length ((keepP zs ys n).map encZ)) := hown
      have k0 := (HF8.out.below hb).c0
      clear hown hKP0
      by_cases hlt : n < L
      · have hltx : n < zs.length := by rw [HLE.out]; exact hlt
        have c3 := below_keep hb (HC.out n hltx)
        have hin := fun W hW => HIN.out W zs[n] hW
        have hki : (ys.contains zs[n] = true ∨ n = L - 1) → keepP zs ys (n + 1) = keepP zs ys n ++ [zs[n]] := fun h => keepP_in hltx (by rw [HLE.out]; exact h)
        have hko : ys.contains zs[n] = false → n ≠ L - 1 → keepP zs ys (n + 1) = keepP zs ys n := fun h h1 => keepP_out hltx h (by rw [HLE.out]; exact h1)
        have hkl := HLN.out n
        generalize ys.contains zs[n] = IN at hin hki hko
        generalize zs[n] = z at c3 hin hki
        generalize hkp : keepP zs ys n = KP at OW hki hko hkl
        clear hkp hltx
        have hi1 : (n : Int) < (L : Int) := by omega
        have hi2 : (0 : Int) ≤ (n : Int) := by omega
        obtain ⟨N, hN⟩ : ∃ N, L - 1 = N := ⟨_, rfl⟩
        have hw : IntKind.i64.wrap ((L : Int) - 1) = (N : Int) := by rw [IntWalk.i64_in _ (by omega)]; omega
        rw [hN] at hki hko
        have hBr : Below w.heap.size w wr := hB28.trans (hb.mono hB28.size)
        have hin1 := hin wr hBr
        clear hin hN
        have hal9 : Below wr.heap.size wr (wr.alloc (.cells #[.int .i64 z] 3)) := (Below.refl _ _).alloc (Nat.le_refl _) _
        have hbA : Below w28.heap.size w28 (wr.alloc (.cells #[.int .i64 z] 3)) := hb.trans (hal9.mono hb.size)
        by_cases hap : IN = true ∨ n = N
        · have HKE : Hid (keepP zs ys (n + 1) = KP ++ [z]) := hki hap
          clear hki hko
          have hcs : IN = true ∨ (IN = false ∧ (n : Int) = (N : Int)) := by
            cases IN
            · rcases hap with h | h
              · cases h
              · exact Or.inr ⟨rfl, by omega⟩
            · exact Or.inl rfl
          clear hap
          rcases hcs with rfl | ⟨rfl, hnN⟩
          · go_wp2_with (first
              | (go_at_call 18; refine hin1.mono ?_; rintro e w29 ⟨rfl, hw29⟩; rw [hw29]; clear hw29)
              | (at_builtin; refine wpList_append_own _ rfl _ _ 22 rfl w28.heap.size 3 i0 (.int .i64 0) 1 8 Tryz.underlying22 hi0 hz0 hs0 hby0 rfl (by decide) u14 KP.length (KP.map encZ) rfl ?qa0 ⟨wr.heap.size, 0, none⟩ 1 1 [.int .i64 z] rfl ?qa1 ?qa2 ?qa3 ?qa4 ?qa5 ?qa6 ?_))
            case qa0 => exact own_below OW.out hal9
            case qa1 => rfl
            case qa2 => exact cell_one _ _ _
            case qa3 => intro u hu; simp at hu; subst hu; rfl
            case qa4 => unfold maxLen; omega
            case qa5 => omega
            case qa6 => first | exact hbA.size | (have := hbA.size; omega)
            intro vA w30 ow30 hg30 hnil
            have hb30 : Below w28.heap.size w28 w30 := hbA.grown hg30 hbA.size (fun k hk => (OW.out.lt k hk).1)
            have OW3 : Hid (w30.ownsRow w28.heap.size 3 1 vA (keepP zs ys (n + 1)).length ((keepP zs ys (n + 1)).map encZ)) := by
              show w30.ownsRow _ _ _ _ _ _
              rw [HKE.out, List.length_append, List.map_append]
              exact ow30
            clear ow30 hg30 hnil
            go_wp2
            go_roundw
            case rel => exact ⟨n + 1, by omega, by go_num, hb30, OW3.out⟩
            case measure => simp [intOf]; omega
          · obtain rfl : n = N := by omega
            clear hnN
            go_wp2_with (first
              | (go_at_call 18; refine hin1.mono ?_; rintro e w29 ⟨rfl, hw29⟩; rw [hw29]; clear hw29)
              | (at_builtin; refine wpList_append_own _ rfl _ _ 22 rfl w28.heap.size 3 i0 (.int .i64 0) 1 8 Tryz.underlying22 hi0 hz0 hs0 hby0 rfl (by decide) u14 KP.length (KP.map encZ) rfl ?qb0 ⟨wr.heap.size, 0, none⟩ 1 1 [.int .i64 z] rfl ?qb1 ?qb2 ?qb3 ?qb4 ?qb5 ?qb6 ?_))
            case qb0 => exact own_below OW.out hal9
            case qb1 => rfl
            case qb2 => exact cell_one _ _ _
            case qb3 => intro u hu; simp at hu; subst hu; rfl
            case qb4 => unfold maxLen; omega
            case qb5 => omega
            case qb6 => first | exact hbA.size | (have := hbA.size; omega)
            intro vA w30 ow30 hg30 hnil
            have hb30 : Below w28.heap.size w28 w30 := hbA.grown hg30 hbA.size (fun k hk => (OW.out.lt k hk).1)
            have OW3 : Hid (w30.ownsRow w28.heap.size 3 1 vA (keepP zs ys (n + 1)).length ((keepP zs ys (n + 1)).map encZ)) := by
              show w30.ownsRow _ _ _ _ _ _
              rw [HKE.out, List.length_append, List.map_append]
              exact ow30
            clear ow30 hg30 hnil
            go_wp2
            go_roundw
            case rel => exact ⟨n + 1, by omega, by go_num, hb30, OW3.out⟩
            case measure => simp [intOf]; omega
        · have HKE : Hid (keepP zs ys (n + 1) = KP) := by
            cases IN
            · exact hko rfl (fun e => hap (Or.inr e))
            · exact absurd (Or.inl rfl) hap
          obtain rfl : IN = false := by
            cases IN
            · rfl
            · exact absurd (Or.inl rfl) hap
          have hnN : ¬ (n : Int) = (N : Int) := fun e => hap (Or.inr (by omega))
          clear hki hko hap hbA hal9
          go_wp2_with fail
          refine hin1.mono ?_
          rintro e w29 ⟨rfl, rfl⟩
          clear hin1
          go_wp2
          go_roundw
          case rel => exact ⟨n + 1, by omega, by go_num, hb, by rw [HKE.out]; exact OW.out⟩
          case measure => simp [intOf]; omega
      · obtain rfl : n = L := by omega
        have HKF : Hid (KeysAt wr u14 KI) := by
          show KeysAt _ _ _
          rw [HK2.out, ← keepP_all, HLE.out]
          exact keysAt_of_own OW.out
        go_wp2
        go_meet
        case rel => exact ⟨HKF.out, hb⟩
  case rest =>
  obtain ⟨hv29, hb29⟩ := hcut
  have hB29 : Below w.heap.size w wc := hB28.trans (hb29.mono hB28.size)
  have hF29 := hF28.below hb29
  have hx29 := hvk.below hb29
  have he29 := hek.keep (keepsC_below hb29)
  clear hF28 hB28 hvk hek hb29
  generalize wc = w29 at *
  have hfa := he29.same hCle (HE.out _ hB29)
  dsimp only at hfa
  rw [HXE.out] at hfa
  have l0 := hF29.c0
  have l1 := hF29.c1
  go_wp2_with fail
  refine hfa.mono ?_
  rintro e w30 ⟨rfl, hb30⟩
  clear hfa l0 l1
  have hsm := sameInts_yes vk u14 KI w30 (hx29.below hb30) (hv29.below hb30) (by omega)
  go_wp2_with fail
  refine hsm.mono ?_
  rintro e w31 ⟨rfl, hb31⟩
  clear hsm
  have hbt := hb30.trans (hb31.mono hb30.size)
  go_wp2
  go_ret
  exact ⟨rfl, hB29.trans (hbt.mono hB29.size)⟩
end Go.Proofs.YtniipgaacdpncaaGreatDoor
