/-
  The contract of meta.Keep.
-/
import Derived.Test.YtniipgaacdpncaaGreatDoorMetaPush
namespace Go.Proofs.YtniipgaacdpncaaGreatDoor
open Go.RowKit Go.Extern.Stop Go.Stop Go.Extern Go.Sort Go.Shelf Go.Lib

theorem containsZ_any (v : Value) (zs : List Int) (x : Int) (w : World) (h : KeysAt w v zs) (hl : zs.length ≤ 1000) :
    Calls Tryz.prog 35 #[v, .int .i64 x] w fun e w' => e = .returned (.bool (zs.contains x)) ∧ w' = w := by
  rcases h with ⟨p, c, rfl, rfl⟩ | ⟨b, o, cap, rfl, hc⟩
  · exact (Tryz.slices_Contains_int_empty p c x w).mono fun e w' ⟨he, hw⟩ => ⟨he, hw⟩
  · refine (Tryz.slices_Contains_int b o zs.length cap zs x w (Nat.le_refl _) (by omega) (fun j hj => by rw [getD_of hj]; exact hc j hj)).mono fun e w' ⟨he, hw⟩ => ⟨?_, hw⟩
    rw [List.take_length] at he; exact he

/-- Which are left out. -/
def goneB (now : Int) (ys : List Int) (z : Int) : Bool := (z != now) && !ys.contains z

theorem keep_filter {zs ys : List Int} (h : (idsE zs).1 = 0) : (zs.filter fun z => !goneB (zs.getLastD 0) ys z) = keepF zs ys := by
  obtain ⟨hne, -, -, hp⟩ := ids_good.1 h
  have e1 := List.dropLast_concat_getLast hne
  have e2 : zs.getLastD 0 = zs.getLast hne := by rw [List.getLastD_eq_getLast?, List.getLast?_eq_some_getLast hne, Option.getD_some]
  rw [e2]
  unfold keepF
  rw [List.getLast?_eq_some_getLast hne]
  generalize zs.getLast hne = last at e1 ⊢
  generalize zs.dropLast = ds at e1 ⊢
  rw [← e1] at hp ⊢
  have hlt : ∀ z ∈ ds, z < last := fun z hz => (List.pairwise_append.1 hp).2.2 z hz last (by simp)
  rw [List.filter_append]
  congr 1
  · apply List.filter_congr
    intro z hz
    have := hlt z hz
    have hn : (z != last) = true := by simp; omega
    simp [goneB, hn]
  · simp [goneB]

set_option maxRecDepth 100000 in
set_option maxHeartbeats 1000000 in
theorem keep1_any (z now : Int) (nb sb : Nat) (u : Value) (ys : List Int) (W : World) (hn : W.cell? ⟨nb, 0, none⟩ = some (.int .i64 now)) (hs : W.cell? ⟨sb, 0, none⟩ = some u) (hu : KeysAt W u ys) (hl : ys.length ≤ 1000) :
    FnGives Tryz.prog 34 #[.pointer (some ⟨nb, 0, none⟩), .pointer (some ⟨sb, 0, none⟩)] #[.int .i64 z] (.bool (goneB now ys z)) W := by
  show Calls Tryz.prog 34 #[.int .i64 z, .pointer (some ⟨nb, 0, none⟩), .pointer (some ⟨sb, 0, none⟩)] W _
  have hco := containsZ_any u ys z W hu hl
  obtain ⟨q, cap, rfl⟩ := hu.shape
  by_cases he : z = now
  · have hb : goneB now ys z = false := by simp [goneB, he]
    have hne : (z != now) = false := by simp [he]
    rw [hb]
    clear hco hu he hb
    go_enter Tryz.func34, Tryz.ntmps34
    go_wp2
    go_ret
    exact ⟨rfl, 0, rfl⟩
  · have hb : goneB now ys z = !ys.contains z := by simp [goneB, he]
    have hne : (z != now) = true := by simp [he]
    rw [hb]
    generalize ys.contains z = bb at hco ⊢
    generalize ys.length = L at hco hs
    clear hu he hb hl
    go_enter Tryz.func34, Tryz.ntmps34
    go_wp2_with fail
    refine hco.mono ?_
    rintro e w1 ⟨rfl, rfl⟩
    clear hco
    go_wp2
    go_ret
    exact ⟨rfl, 0, rfl⟩

theorem sortW_cell {w : World} {blk off n : Nat} {dk : Array Int} {os : Array Obj} {B k : Nat} {v : Value} (hc : w.cell? ⟨B, k, none⟩ = some v) (hne : B ≠ blk) : (sortWorld (Value.int .i64) w blk off n dk os).cell? ⟨B, k, none⟩ = some v := by
  unfold sortWorld
  rw [cell?_grow _ _ _ (by show B < (putRow _ _ _ _ _).heap.size; rw [size_putRow]; exact cell_lt hc), cell?_putRow_other _ _ blk off _ _ (Or.inl hne)]
  exact hc

set_option maxRecDepth 100000 in
set_option maxHeartbeats 4000000 in
theorem mkeep_any (v u : Value) (zs ys : List Int) (w : World) (a : Nat → Addr) (h : EnvM w a) (hz : IdsAt w v zs) (hy : KeysAt w u ys) (hl : zs.length ≤ 100) (hly : ys.length ≤ 100) :
    Calls Tryz.prog 17 #[v, u] w fun e w' => MPushP w a (keepI zs ys) (idsE zs) e w' := by
  have hal : Below w.heap.size w (w.alloc (.cells #[u] 22)) := (Below.refl _ _).alloc (Nat.le_refl _) _
  have hcu : (w.alloc (.cells #[u] 22)).cell? ⟨w.heap.size, 0, none⟩ = some u := by
    rw [cell_of_row _ _ _ _ _ _ (heap_alloc_new _ _)]; rfl
  have hck := mcheck_any v zs (w.alloc (.cells #[u] 22)) a (h.below hal) (hz.below hal) (by omega)
  obtain ⟨qy, cy, rfl⟩ := hy.shape
  by_cases hok : (idsE zs).1 = 0
  case neg =>
    have HI : Hid (keepI zs ys = []) := by show _ = _; unfold keepI; rw [if_neg hok]
    generalize keepI zs ys = PI at HI ⊢
    generalize idsE zs = R at hck hok ⊢
    generalize ys.length = M at hal hck hcu ⊢
    obtain ⟨q, cap, rfl⟩ := hz.1.shape
    clear hz hy
    go_enter Tryz.func17, Tryz.ntmps17
    go_wp2_with fail
    refine hck.mono ?_
    rintro e w1 ⟨ev, rfl, ht, hb1⟩
    clear hck
    obtain ⟨t, u, rfl⟩ := ht.bad hok
    have HTT : Hid (ToldE w1 a (.iface t u) R) := ht
    clear ht
    go_wp2
    go_ret2
    exact mpush_nil HI.out HTT.out (hal.trans (hb1.mono hal.size))
  case pos =>
  have hfine := ids_fine hok
  have HKF : Hid ((zs.filter fun z => !goneB (zs.getLastD 0) ys z) = keepF zs ys) := keep_filter hok
  have hki : keepI zs ys = keepF zs ys := by unfold keepI; rw [if_pos hok]
  have hne := (ids_good.1 hok).1
  rw [hfine] at hck ⊢
  rw [hki]
  have HKZ : Hid (∀ W, Below w.heap.size w W → KeysAt W v zs) := fun W hb => hz.1.below hb
  have HKY : Hid (KeysAt w (.slice qy ys.length cy) ys) := hy
  have hpos := List.length_pos_iff.2 hne
  obtain ⟨q, cap, rfl⟩ := hz.1.shape
  have hno := fun W (hb : Below w.heap.size w W) => mnow_any _ zs W (HKZ.out W hb) (by omega)
  have hcl := fun W (hb : Below w.heap.size w W) => cloneInts_any _ zs W (HKZ.out W hb) (by omega)
  have eg : ∀ args w, (callFunc 34 args).run Tryz.prog w = .ok (.enter 34 args) w := enters_of Tryz.func34 (by kernel_rfl) rfl
  generalize hnow : zs.getLastD 0 = now at hno HKF
  obtain ⟨M, hM⟩ : ∃ M, ys.length = M := ⟨_, rfl⟩
  have HM : Hid (ys.length = M) := hM
  rw [hM] at hal hck hcu HKY hly ⊢
  obtain ⟨L, hL⟩ : ∃ L, zs.length = L := ⟨_, rfl⟩
  have HL : Hid (zs.length = L) := hL
  rw [hL] at hck hno hcl hl hpos ⊢
  clear hnow hM hL hz hy hok hfine hki hne h HKZ
  go_enter Tryz.func17, Tryz.ntmps17
  go_wp2_with fail
  refine hck.mono ?_
  rintro e w1 ⟨ev, rfl, ht, hb1⟩
  clear hck
  obtain rfl : ev = .nilIface := ht
  have hB1 : Below w.heap.size w w1 := hal.trans (hb1.mono hal.size)
  have hcu1 := below_keep hb1 hcu
  have hsb : w.heap.size < w1.heap.size := cell_lt hcu1
  have hno1 := hno w1 hB1
  clear hno hcu hb1 hal
  go_wp2_with fail
  refine hno1.mono ?_
  rintro e w2 ⟨rfl, rfl⟩
  clear hno1
  have hal2 : Below w2.heap.size w2 (w2.alloc (.cells #[.int .i64 now] 3)) := (Below.refl _ _).alloc (Nat.le_refl _) _
  have hcn : (w2.alloc (.cells #[.int .i64 now] 3)).cell? ⟨w2.heap.size, 0, none⟩ = some (.int .i64 now) := by
    rw [cell_of_row _ _ _ _ _ _ (heap_alloc_new _ _)]; rfl
  have hcu2 := below_keep hal2 hcu1
  have hB2 : Below w.heap.size w (w2.alloc (.cells #[.int .i64 now] 3)) := hB1.trans (hal2.mono hB1.size)
  have hcl2 := hcl _ hB2
  clear hcl hcu1 hal2
  go_upto_region 5 with fail
  generalize w2.alloc (.cells #[.int .i64 now] 3) = W3 at hcn hcu2 hB2 hcl2 ⊢
  generalize w2.heap.size = nb at hcn hsb ⊢
  go_wp2_with fail
  refine hcl2.mono ?_
  rintro e w4 ⟨v4, rfl, ho4, hb4⟩
  clear hcl2
  have hB4 : Below w.heap.size w w4 := hB2.trans (hb4.mono hB2.size)
  have hcn4 := below_keep hb4 hcn
  have hcu4 := below_keep hb4 hcu2
  have hv4 : v4 ≠ .slice none 0 0 := fun e => by
    rcases ho4.2 with ⟨_, h0⟩ | ⟨g, cap4, cur, e', _⟩
    · omega
    · rw [e] at e'; cases e'
  obtain ⟨g, cap4, rfl, hbg, hlt, hn, hm, hlen, hH⟩ := holds_of_ownsRow ho4 hv4
  have hnb := cell_lt hcn
  have hnb' : nb < W3.heap.size := hnb
  have hwg : w.heap.size ≤ W3.heap.size := hB2.size
  have hky : ∀ (n : Nat) (os : Array Obj) (dk : Array Int), KeysAt (sortWorld (Value.int .i64) w4 g 0 n dk os) (.slice qy M cy) ys := fun n os dk => by
    rcases HKY.out with h' | ⟨b, o, c, e, hc⟩
    · exact Or.inl h'
    · refine Or.inr ⟨b, o, c, e, fun j hj => sortW_cell (below_keep (hB4.mono (Nat.le_refl _)) (hc j hj)) ?_⟩
      have := cell_lt (hc j hj)
      show b ≠ g
      have : b < w.heap.size := this
      omega
  have hdel := AnyE.slices_DeleteFunc Tryz.delZ (Value.int .i64) (fun _ => rfl) (goneB now ys) 34 #[.pointer (some ⟨nb, 0, none⟩), .pointer (some ⟨w.heap.size, 0, none⟩)] eg 0 Tryz.zeroValue3 g 0 cap4 zs.toArray w4
    (fun W x hb => keep1_any x now nb w.heap.size (.slice qy M cy) ys W (below_keep hb hcn4) (below_keep hb hcu4) ((HKY.out.below hB4).below hb) (by rw [HM.out]; omega))
    (fun n os dk x _ => keep1_any x now nb w.heap.size (.slice qy M cy) ys _ (sortW_cell hcn4 (by omega)) (sortW_cell hcu4 (by omega)) (hky n os dk) (by rw [HM.out]; omega))
    hH (by simp; omega) (by simp; omega)
  change Calls Tryz.prog 32 _ _ _ at hdel
  simp only [List.size_toArray, hlen, HKF.out] at hdel
  have hkl : (keepF zs ys).length ≤ L := by rw [← HL.out]; exact (keep_sub zs ys).length_le
  have HH : Hid (Holds (Value.int .i64) w4 g 0 zs.toArray) := hH
  clear hH hky hcn4 hcu4 ho4 hv4 hcn hcu2 HKF HKY hlen hb4
  go_wp2_with fail
  refine hdel.mono ?_
  rintro e w5 ⟨rfl, qq, hw5⟩
  clear hdel
  have HID : Hid (IdsAt w5 (.slice (some ⟨g, 0, none⟩) (keepF zs ys).length cap4) (keepF zs ys) ∧ NewV w (.slice (some ⟨g, 0, none⟩) (keepF zs ys).length cap4)) := by
    refine ⟨⟨Or.inr ⟨g, 0, cap4, rfl, fun j hj => ?_⟩, fun q l c e => by injection e with _ e1 e2; omega⟩, fun k hk => by simp [Value.ownBlock] at hk; omega⟩
    rw [hw5]
    have hd : (keepF zs ys ++ List.replicate (L - (keepF zs ys).length) 0).toArray.size = zs.toArray.size := by
      simp [HL.out]
      omega
    have hH3 := holds_putRow (Value.int .i64) (Sort.ahead w4 qq) g 0 zs.toArray (keepF zs ys ++ List.replicate (L - (keepF zs ys).length) 0).toArray HH.out hd
    have := (hH3 j (by simp; omega)).1
    rw [getElem!_pos _ j (by simp; omega)] at this
    simp only [List.getElem_toArray, List.getElem_append_left hj] at this
    exact this
  have hB5 : Below w.heap.size w w5 := by rw [hw5]; exact below_putRow hB4 (by omega)
  clear hw5 HH hB4
  generalize (keepF zs ys).length = KL at HID
  go_wp2
  go_ret2
  exact ⟨_, .nilIface, rfl, HID.out.1, HID.out.2, rfl, hB5⟩
end Go.Proofs.YtniipgaacdpncaaGreatDoor
