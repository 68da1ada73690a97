/-
  The walk of MetaBack: whatever numbers: true; what was there is as it was.
-/
import Derived.Test.YtniipgaacdpncaaDoorMetaLaw
import Derived.Deep.CutBlock
namespace Go.Proofs.YtniipgaacdpncaaDoor
open Go.RowKit Go.Extern.Stop Go.Stop Go.Extern Go.Sort Go.Shelf Go.Lib

theorem push_last (zs : List Int) (z : Int) : (zs ++ [z]).getLastD 0 = z := by simp [List.getLastD_eq_getLast?]

set_option maxRecDepth 100000 in
set_option maxHeartbeats 16000000 in
theorem metaBack_any (q1 : Option Addr) (c1 : Nat) (zs : List Int) (q2 : Option Addr) (c2 : Nat) (ys : List Int) (id : Int) (w : World) (a : Nat → Addr) (EM : World → Prop) (K : MetaK a EM) (h : EM w) (hz : KeysAt w (.slice q1 zs.length c1) zs) (hq1 : q1 = none → c1 = 0) (hy : KeysAt w (.slice q2 ys.length c2) ys) (hq2 : q2 = none → c2 = 0) (hlz : zs.length ≤ maxLen) (hly : ys.length ≤ maxLen) :
    Calls Tryd.prog 3 #[.slice q1 zs.length c1, .slice q2 ys.length c2, .int .i64 id] w fun e w' => e = .returned (.bool true) ∧ Below w.heap.size w w' := by
  have HL : Hid (∀ W, Below w.heap.size w W → EM W) := fun W hb => K.below _ _ h hb
  have HZ : Hid (∀ W, Below w.heap.size w W → KeysAt W (.slice q1 zs.length c1) zs) := fun W hb => hz.below hb
  have HY : Hid (∀ W, Below w.heap.size w W → KeysAt W (.slice q2 ys.length c2) ys) := fun W hb => hy.below hb
  have hda := noted_any w a EM K h
  have HOI1 : Hid (zs.length ≤ 45 → ∀ W, Below w.heap.size w W → Calls Tryd.prog 6 #[.slice q1 zs.length c1] W fun e w' => ∃ v', e = .returned v' ∧ IdsAt w' v' zs ∧ Below W.heap.size W w') := fun h45 W hb => (ownInts2_any q1 c1 zs W (HZ.out W hb) hq1 (by omega)).mono fun e w' ⟨v', he, ho, hb'⟩ => ⟨v', he, idsAt_of_own ho, hb'⟩
  have HOJ1 : Hid (ys.length ≤ 45 → ∀ W, Below w.heap.size w W → Calls Tryd.prog 6 #[.slice q2 ys.length c2] W fun e w' => ∃ v', e = .returned v' ∧ KeysAt w' v' ys ∧ Below W.heap.size W w') := fun h45 W hb => (ownInts2_any q2 c2 ys W (HY.out W hb) hq2 (by omega)).mono fun e w' ⟨v', he, ho, hb'⟩ => ⟨v', he, keysAt_of_own ho, hb'⟩
  obtain ⟨L, hL⟩ : ∃ L, zs.length = L := ⟨_, rfl⟩
  obtain ⟨M, hM⟩ : ∃ L, ys.length = L := ⟨_, rfl⟩
  have HLE : Hid (zs.length = L) := hL
  have HME : Hid (ys.length = M) := hM
  rw [hL] at hlz HZ HOI1 ⊢
  rw [hM] at hly HY HOJ1 ⊢
  clear hL hM hz hy hq1 hq2
  unfold maxLen at hlz hly
  go_enter Tryd.func3, Tryd.ntmps3
  go_wp2_with fail
  refine hda.mono ?_
  rintro e w1 ⟨rfl, hB1⟩
  clear hda
  obtain ⟨BT, hBT⟩ : ∃ B : Bool, B = (decide (45 < L) || decide (45 < M)) := ⟨_, rfl⟩
  go_upto_region 2 with fail
  go_cut [25] from 14 to 24 (fun c wx => c = .bool BT ∧ wx = w1)
  case first =>
    by_cases i1 : 45 < L
    · obtain rfl : BT = true := by rw [hBT]; simp [i1]
      have j1 : (45 : Int) < (L : Int) := by omega
      clear hBT
      go_wp2
      go_meet
      case rel => exact ⟨rfl, rfl⟩
    have j1 : ¬ (45 : Int) < (L : Int) := by omega
    by_cases i2 : 45 < M
    · obtain rfl : BT = true := by rw [hBT]; simp [i2]
      have j2 : (45 : Int) < (M : Int) := by omega
      clear hBT
      go_wp2
      go_meet
      case rel => exact ⟨rfl, rfl⟩
    have j2 : ¬ (45 : Int) < (M : Int) := by omega
    obtain rfl : BT = false := by rw [hBT]; simp [i1, i2]
    clear hBT
    go_wp2
    go_meet
    case rel => exact ⟨rfl, rfl⟩
  case rest =>
  obtain ⟨rfl, rfl⟩ := hcut
  generalize wc = w2 at *
  cases BT
  case true =>
    clear hBT
    go_wp2
    go_ret
    exact ⟨rfl, hB1⟩
  case false =>
  obtain ⟨hL45, hM45⟩ : L ≤ 45 ∧ M ≤ 45 := by
    simp only [Bool.false_eq, Bool.or_eq_false_iff, decide_eq_false_iff_not] at hBT
    omega
  clear hBT
  have HL100 : Hid (zs.length ≤ 100 ∧ ys.length ≤ 100) := ⟨by rw [HLE.out]; omega, by rw [HME.out]; omega⟩
  have HOI : Hid (∀ W, Below w.heap.size w W → Calls Tryd.prog 6 #[.slice q1 L c1] W fun e w' => ∃ v', e = .returned v' ∧ IdsAt w' v' zs ∧ Below W.heap.size W w') := HOI1.out hL45
  have HOJ : Hid (∀ W, Below w.heap.size w W → Calls Tryd.prog 6 #[.slice q2 M c2] W fun e w' => ∃ v', e = .returned v' ∧ KeysAt w' v' ys ∧ Below W.heap.size W w') := HOJ1.out hM45
  clear HOI1 HOJ1
  have ho := HOI.out w2 hB1
  go_wp2_with fail
  refine ho.mono ?_
  rintro e w3 ⟨v3, rfl, hv3, hb3⟩
  clear ho
  have hB3 : Below w.heap.size w w3 := hB1.trans (hb3.mono hB1.size)
  have ht := K.text w3 v3 zs (HL.out w3 hB3) hv3 HL100.out.1
  clear hB1 hb3 hv3
  by_cases hok : (idsE zs).1 = 0
  case neg =>
    rw [if_neg hok] at ht
    generalize idsE zs = CE at ht hok
    go_wp2_with fail
    refine ht.mono ?_
    rintro e w4 ⟨ev, rfl, hev, hb4⟩
    clear ht
    obtain ⟨t, u, rfl⟩ := hev.bad hok
    clear hev
    have hB4 : Below w.heap.size w w4 := hB3.trans (hb4.mono hB3.size)
    go_wp2
    go_ret
    exact ⟨rfl, hB4⟩
  case pos =>
  rw [if_pos hok] at ht
  have hrd := ids_read hok
  have hkr := keep_right (some := ys) hok
  have HKL : Hid ((keepF zs ys).getLastD 0 = zs.getLastD 0) := keep_last (ids_good.1 hok).1
  have hkl : (keepF zs ys).length ≤ 45 := by
    have := (keep_sub zs ys).length_le
    rw [HLE.out] at this
    omega
  have HKI : Hid (keepI zs ys = keepF zs ys) := by
    show _ = _
    unfold keepI
    rw [if_pos hok]
  have hfine := ids_fine hok
  have hts : (bytesOf (idsL zs)).size ≤ 10000 := by
    have h1 := idsT_len zs (ids_good.1 hok).2.2.1
    have h2 := (ids_good.1 hok).2.1
    rw [bytes_len]
    unfold idsL
    rw [List.length_append, List.length_append]
    have : kMeta.length = 4 := rfl
    simp
    omega
  have hdt : (bytesOf (idsL zs)).data.toList = idsL zs := by simp [bytesOf]
  have HPE : Hid (pushE zs id = ((idsE (zs ++ [id])).1, none)) := by
    show _ = _
    unfold pushE
    rw [if_neg (by simpa using hok)]
  have hr0 := fun W (hW : EM W) => K.read W (bytesOf (idsL zs)) hW hts
  rw [hdt, hrd] at hr0
  clear hrd hdt hts
  generalize bytesOf (idsL zs) = T at ht hr0
  go_wp2_with fail
  refine ht.mono ?_
  rintro e w4 ⟨ev, rfl, hev, hb4⟩
  clear ht
  obtain rfl := hev.ok hok
  clear hev
  have hB4 : Below w.heap.size w w4 := hB3.trans (hb4.mono hB3.size)
  have hr4 := hr0 w4 (HL.out w4 hB4)
  clear hr0 hB3 hb4
  go_wp2_with fail
  refine hr4.mono ?_
  rintro e w5 ⟨v5, ev, rfl, hv5, hev, hb5⟩
  clear hr4
  obtain rfl : ev = .nilIface := hev
  have hB5 : Below w.heap.size w w5 := hB4.trans (hb5.mono hB4.size)
  have hsm := sameInts_yes v5 (.slice q1 L c1) zs w5 hv5 (HZ.out w5 hB5) (by have := HL100.out.1; omega)
  clear hv5 hB4 hb5
  go_wp2_with fail
  refine hsm.mono ?_
  rintro e w6 ⟨rfl, hb6⟩
  clear hsm
  have hB6 : Below w.heap.size w w6 := hB5.trans (hb6.mono hB5.size)
  clear hB5 hb6
  have ho := HOI.out w6 hB6
  go_wp2_with fail
  refine ho.mono ?_
  rintro e w7 ⟨v7, rfl, hv7, hb7⟩
  clear ho
  have hB7 : Below w.heap.size w w7 := hB6.trans (hb7.mono hB6.size)
  clear hB6 hb7
  have ho := HOJ.out w7 hB7
  go_wp2_with fail
  refine ho.mono ?_
  rintro e w8 ⟨v8, rfl, hv8, hb8⟩
  clear ho
  have hB8 : Below w.heap.size w w8 := hB7.trans (hb8.mono hB7.size)
  have hke := K.keep w8 v7 v8 zs ys (HL.out w8 hB8) (hv7.below hb8) hv8 HL100.out.1 HL100.out.2
  rw [HKI.out, hfine] at hke
  clear hv7 hv8 hB7 hb8
  go_wp2_with fail
  refine hke.mono ?_
  rintro e w9 ⟨vk, ev, rfl, hvk, -, hev, hb9⟩
  clear hke
  obtain rfl : ev = .nilIface := hev
  have hB9 : Below w.heap.size w w9 := hB8.trans (hb9.mono hB8.size)
  clear hB8 hb9
  have hck := K.check w9 vk (keepF zs ys) (HL.out w9 hB9) hvk (by omega)
  rw [ids_fine hkr] at hck
  go_wp2_with fail
  refine hck.mono ?_
  rintro e w10 ⟨ev, rfl, hev, hb10⟩
  clear hck
  obtain rfl : ev = .nilIface := hev
  have hB10 : Below w.heap.size w w10 := hB9.trans (hb10.mono hB9.size)
  have hn1 := K.now w10 vk (keepF zs ys) (HL.out w10 hB10) (hvk.below hb10).1 (by omega)
  rw [HKL.out] at hn1
  have hn2 := fun W (hb : Below w.heap.size w W) => K.now W (.slice q1 L c1) zs (HL.out W hb) (HZ.out W hb) HL100.out.1
  generalize zs.getLastD 0 = last at hn1 hn2
  clear hvk hB9 hb10
  go_wp2_with fail
  refine hn1.mono ?_
  rintro e w11 ⟨rfl, hb11⟩
  clear hn1
  have hB11 : Below w.heap.size w w11 := hB10.trans (hb11.mono hB10.size)
  have hn3 := hn2 w11 hB11
  clear hn2 hB10 hb11
  go_wp2_with fail
  refine hn3.mono ?_
  rintro e w12 ⟨rfl, hb12⟩
  clear hn3
  have hB12 : Below w.heap.size w w12 := hB11.trans (hb12.mono hB11.size)
  clear hB11 hb12
  have ho := HOI.out w12 hB12
  go_wp2_with fail
  refine ho.mono ?_
  rintro e w13 ⟨v13, rfl, hv13, hb13⟩
  clear ho
  have hB13 : Below w.heap.size w w13 := hB12.trans (hb13.mono hB12.size)
  have hpu := K.push w13 v13 zs id (HL.out w13 hB13) hv13 HL100.out.1
  have HPI : Hid (pushI zs id = if (pushE zs id).1 = 0 then zs ++ [id] else []) := rfl
  rw [HPI.out, HPE.out] at hpu
  dsimp only at hpu
  clear hv13 hB12 hb13 HPI HPE
  by_cases hp : (idsE (zs ++ [id])).1 = 0
  case neg =>
    rw [if_neg hp] at hpu
    generalize idsE (zs ++ [id]) = QE at hpu hp
    go_wp2_with fail
    refine hpu.mono ?_
    rintro e w14 ⟨vx, ev, rfl, hvx, -, hev, hb14⟩
    clear hpu
    obtain ⟨t, u, rfl⟩ := hev.bad hp
    obtain ⟨qx, cx, hq⟩ := hvx.1.shape
    subst hq
    have hB14 : Below w.heap.size w w14 := hB13.trans (hb14.mono hB13.size)
    clear hev hvx
    simp only [List.length_nil]
    go_wp2
    go_ret
    exact ⟨rfl, hB14⟩
  case pos =>
  rw [if_pos hp] at hpu
  have hp2 := ids_fine hp
  rw [hp2] at hpu
  dsimp only at hpu
  go_wp2_with fail
  refine hpu.mono ?_
  rintro e w14 ⟨vx, ev, rfl, hvx, -, hev, hb14⟩
  clear hpu
  obtain rfl : ev = .nilIface := hev
  have hB14 : Below w.heap.size w w14 := hB13.trans (hb14.mono hB13.size)
  have hpl : (zs ++ [id]).length = L + 1 := by rw [List.length_append, HLE.out]; rfl
  have hn4 := K.now w14 vx (zs ++ [id]) (HL.out w14 hB14) hvx.1 (by omega)
  rw [push_last] at hn4
  obtain ⟨qx, cx, hq⟩ := hvx.1.shape
  rw [hpl] at hq
  subst hq
  clear hB13 hb14
  go_wp2_with fail
  refine hn4.mono ?_
  rintro e w15 ⟨rfl, hb15⟩
  clear hn4
  have hB15 : Below w.heap.size w w15 := hB14.trans (hb15.mono hB14.size)
  have hck := K.check w15 _ (zs ++ [id]) (HL.out w15 hB15) (hvx.below hb15) (by omega)
  rw [hp2] at hck
  clear hvx hpl hB14 hb15
  go_wp2_with fail
  refine hck.mono ?_
  rintro e w16 ⟨ev, rfl, hev, hb16⟩
  clear hck
  obtain rfl : ev = .nilIface := hev
  have hB16 : Below w.heap.size w w16 := hB15.trans (hb16.mono hB15.size)
  have hw1 : IntKind.i64.wrap ((L : Int) + 1) = ((L + 1 : Nat) : Int) := by rw [IntWalk.i64_in _ (by omega)]; omega
  go_wp2
  go_ret
  exact ⟨rfl, hB16⟩
end Go.Proofs.YtniipgaacdpncaaDoor
