/-
  The contracts of slices.Grow (of nothing) and slices.Concat, at whole numbers.
  The contract of meta.Push.
  The contract of meta.Keep.
-/
import Derived.Test.YtniipgaacdpncaaGreatDoorMetaChk
import Derived.Test.YtniipgaacdpncaaGreatDoorGoneWalk
import Derived.Lib.AppendZerosOnto
import Derived.BigQuiet
namespace Go.Proofs.YtniipgaacdpncaaGreatDoor
open Go.RowKit Go.Extern.Stop Go.Stop Go.Extern Go.Sort Go.Shelf Go.Lib

theorem own_form {W : World} {base : Nat} {e : TypeId} {size : Nat} {v : Value} {n : Nat} {xs : List Value} (h : W.ownsRow base e size v n xs) : ∃ q c, v = .slice q n c ∧ n ≤ c ∧ (q = none → c = 0) ∧ ∀ k, v.ownBlock = some k → base ≤ k := by
  rcases h.2 with ⟨rfl, rfl⟩ | ⟨g, cap, cur, rfl, hg, _, hc, _⟩
  · exact ⟨none, 0, rfl, Nat.le_refl _, fun _ => rfl, fun k hk => by simp [Value.ownBlock] at hk⟩
  · exact ⟨_, _, rfl, hc, fun e => by simp at e, fun k hk => by simp [Value.ownBlock] at hk; omega⟩

theorem idsAt_of_own {W : World} {base : Nat} {v : Value} {zs : List Int} (h : W.ownsRow base 3 1 v zs.length (zs.map encZ)) : IdsAt W v zs := by
  refine ⟨keysAt_of_own h, fun q l c e => ?_⟩
  obtain ⟨q', c', rfl, hc, _⟩ := own_form h
  injection e with _ e1 e2
  omega

set_option maxRecDepth 100000 in
set_option maxHeartbeats 2000000 in
theorem growZ_any (n : Nat) (w : World) (hn : n ≤ 100000) :
    Calls Tryz.prog 45 #[.slice none 0 0, .int .i64 n] w fun e w' => ∃ v', e = .returned v' ∧ w'.ownsRow w.heap.size 3 1 v' 0 [] ∧ Below w.heap.size w w' := by
  obtain ⟨i0, hi0, hz0, hs0, hby0⟩ := Tryz.numInfo
  by_cases h0 : n = 0
  · subst h0
    go_enter Tryz.func45, Tryz.ntmps45
    go_wp2
    go_ret
    exact ⟨_, rfl, World.ownsRow_nil _ _ _ _, Below.refl _ _⟩
  · have h1 : ¬ ((n : Int) < 0) := by omega
    have h2 : (0 : Int) < (n : Int) := by omega
    have hold : (Builtin.firstCells i0.size 0 (.slice none 0 0)).run Tryz.prog w.drew = .ok ([] : List Value).toArray w.drew := run_firstCells_none w.drew i0.size 0 0 0
    have hrz : ∀ ty, (Builtin.append_ #[22, 3] ty #[.slice none 0 0, .int .i64 (n : Int)]).run Tryz.prog w = .ok (.slice (some ⟨w.heap.size, 0, none⟩) n (grownCap w n 0 3)) (w.drew.alloc (.cells (([] : List Value).toArray ++ Builtin.zeroCells (Value.cells (.int .i64 0)) n ++ Builtin.zeroCells (Value.cells (.int .i64 0)) (grownCap w n 0 3 - n)) 3)) := fun ty => by
      have h := Lib.run_append_grow_zeros w 22 3 ty 3 i0 _ .i64 .i64 Tryz.underlying22 Tryz.underlying3 hi0 hz0 none 0 0 [] hold n (by omega) (by omega) (by omega) (by omega) (by rw [hby0]; omega) (by rw [Nat.zero_add, hby0]; exact growslice_fits (by omega) (by omega))
      rw [Nat.zero_add] at h
      exact h
    have hGn : n ≤ grownCap w n 0 3 := grownCap_ge w _ _ _
    have hGm : grownCap w n 0 3 ≤ maxLen := grownCap_le_maxLen w n 0 3 (by unfold maxLen; omega)
    have hW : Below w.heap.size w (w.drew.alloc (.cells (([] : List Value).toArray ++ Builtin.zeroCells (Value.cells (.int .i64 0)) n ++ Builtin.zeroCells (Value.cells (.int .i64 0)) (grownCap w n 0 3 - n)) 3)) := (Below.refl _ _).drew.alloc (Nat.le_refl _) _
    have hOW : (w.drew.alloc (.cells (([] : List Value).toArray ++ Builtin.zeroCells (Value.cells (.int .i64 0)) n ++ Builtin.zeroCells (Value.cells (.int .i64 0)) (grownCap w n 0 3 - n)) 3)).ownsRow w.heap.size 3 1 (.slice (some ⟨w.heap.size, 0, none⟩) 0 (grownCap w n 0 3)) 0 [] := by
      refine ⟨rfl, Or.inr ⟨w.heap.size, _, _, rfl, Nat.le_refl _, heap_alloc_new w.drew _, Nat.zero_le _, hGm, ?_, by simp⟩⟩
      have hzc : ∀ k, (Builtin.zeroCells (Value.cells (.int .i64 0)) k).size = k * 1 := fun k => by
        rw [size_zeroCells]; rfl
      simp only [Array.size_append, hzc]
      simp
      omega
    generalize w.drew.alloc (.cells (([] : List Value).toArray ++ Builtin.zeroCells (Value.cells (.int .i64 0)) n ++ Builtin.zeroCells (Value.cells (.int .i64 0)) (grownCap w n 0 3 - n)) 3) = W1 at hrz hW hOW
    generalize grownCap w n 0 3 = G at hrz hOW hGn
    clear hold hGm
    go_enter Tryz.func45, Tryz.ntmps45
    go_wp2_with (at_builtin; refine Lib.wpList_append_run _ rfl _ _ _ _ rfl _ _ rfl rfl _ _ (hrz _) ?_)
    all_goals
      go_ret
      exact ⟨_, rfl, hOW, hW⟩

/-- Slices of whole numbers in a row of cells. -/
def PartsZ (w : World) (b : Nat) (gs : List (List Int)) : Prop := ∀ j (h : j < gs.length), ∃ q c, w.cell? ⟨b, j, none⟩ = some (.slice q gs[j].length c) ∧ KeysAt w (.slice q gs[j].length c) gs[j] ∧ (q = none → c = 0)

theorem PartsZ.below {w w' : World} {b : Nat} {gs : List (List Int)} (h : PartsZ w b gs) (hb : Below w.heap.size w w') : PartsZ w' b gs := fun j hj => by
  obtain ⟨q, c, h1, h2, h3⟩ := h j hj
  exact ⟨q, c, below_keep hb h1, h2.below hb, h3⟩

theorem flatZ_take (gs : List (List Int)) (n : Nat) (h : n < gs.length) : (gs.take (n + 1)).flatten = (gs.take n).flatten ++ gs[n] := by
  rw [← List.take_append_getElem h, List.flatten_append]
  simp

theorem flatZ_le (gs : List (List Int)) (n : Nat) : (gs.take n).flatten.length ≤ gs.flatten.length := by
  conv => rhs; rw [← List.take_append_drop n gs, List.flatten_append, List.length_append]
  omega

set_option maxRecDepth 100000 in
set_option maxHeartbeats 4000000 in
theorem concatZ_any (b : Nat) (gs : List (List Int)) (w : World) (hp : PartsZ w b gs) (hk : gs.length ≤ 10) (hl : gs.flatten.length ≤ 1000) :
    Calls Tryz.prog 31 #[.slice (some ⟨b, 0, none⟩) gs.length gs.length] w fun e w' => ∃ v', e = .returned v' ∧ w'.ownsRow w.heap.size 3 1 v' gs.flatten.length (gs.flatten.map encZ) ∧ Below w.heap.size w w' := by
  obtain ⟨i0, hi0, hz0, hs0, hby0⟩ := Tryz.numInfo
  have HP : Hid (∀ W, Below w.heap.size w W → PartsZ W b gs) := fun W hb => hp.below hb
  have HLE : Hid (∀ n, (gs.take n).flatten.length ≤ 1000) := fun n => Nat.le_trans (flatZ_le gs n) hl
  obtain ⟨K, hK⟩ : ∃ K, gs.length = K := ⟨_, rfl⟩
  have HK : Hid (gs.length = K) := hK
  rw [hK] at hk ⊢
  clear hK hp hl
  go_enter Tryz.func31, Tryz.ntmps31
  go_wp2
  go_loop [3, 11] (fun s k => ∃ n : Nat, n ≤ K ∧ s = .int .i64 (gs.take n).flatten.length ∧ k = .int .i64 n) (fun _ k => K - (intOf k).toNat)
  case atStart => exact ⟨0, by omega, rfl, rfl⟩
  case round =>
    obtain ⟨n, hn, rfl, rfl⟩ := hrel
    have h1 := HLE.out n
    have h2 := HLE.out (n + 1)
    by_cases hlt : n < K
    · have hltx : n < gs.length := by rw [HK.out]; exact hlt
      obtain ⟨q, c, hc, -⟩ := HP.out w (Below.refl _ _) n hltx
      have hf := congrArg List.length (flatZ_take gs n hltx)
      rw [List.length_append] at hf
      have hi : (n : Int) < (K : Int) := by omega
      have hi0' : (0 : Int) ≤ (n : Int) := by omega
      have HF : Hid ((gs.take (n + 1)).flatten.length = (gs.take n).flatten.length + gs[n].length) := hf
      generalize (gs.take n).flatten.length = A at h1 HF ⊢
      generalize gs[n].length = B at hc HF
      have hAB : A + B ≤ 1000 := by rw [← HF.out]; exact h2
      have hneg : ¬ ((A : Int) + (B : Int) < 0) := by omega
      clear hf hltx h1 h2
      go_wp2
      go_round
      case rel => exact ⟨n + 1, by omega, by rw [HF.out]; go_num, by go_num⟩
      case measure => simp [intOf]; omega
    · obtain rfl : n = K := by omega
      have hta : gs.take n = gs := List.take_of_length_le (by rw [HK.out]; exact Nat.le_refl _)
      have HTA : Hid (gs.take n = gs) := hta
      have hgr := growZ_any (gs.take n).flatten.length w (by omega)
      clear h2
      generalize (gs.take n).flatten.length = S at h1 hgr ⊢
      go_wp2_with fail
      refine hgr.mono ?_
      rintro e w1 ⟨v1, rfl, ho1, hb1⟩
      clear hgr hta
      obtain ⟨q1, c1, rfl, -⟩ := own_form ho1
      have OW1 : Hid (w1.ownsRow w.heap.size 3 1 (.slice q1 0 c1) (gs.take 0).flatten.length ((gs.take 0).flatten.map encZ)) := by
        show w1.ownsRow _ _ _ _ _ _
        simpa using ho1
      clear ho1
      go_wp2
      go_loopw [6, 27] (fun v k wr => ∃ m : Nat, m ≤ n ∧ k = .int .i64 m ∧ wr.ownsRow w.heap.size 3 1 v (gs.take m).flatten.length ((gs.take m).flatten.map encZ) ∧ Below w.heap.size w wr) (fun _ k _ => n - (intOf k).toNat)
      case atStart => exact ⟨0, by omega, rfl, OW1.out, hb1⟩
      case round =>
        clear OW1 hb1
        obtain ⟨m, hm, rfl, hown, hb⟩ := hrel
        have OW : Hid (wr.ownsRow w.heap.size 3 1 u6 (gs.take m).flatten.length ((gs.take m).flatten.map encZ)) := hown
        clear hown
        have g1 := HLE.out m
        have g2 := HLE.out (m + 1)
        by_cases hmt : m < n
        · have hmx : m < gs.length := by rw [HK.out]; exact hmt
          obtain ⟨q, c, hc, hfl, hqc⟩ := HP.out wr hb m hmx
          have hf := congrArg List.length (flatZ_take gs m hmx)
          rw [List.length_append] at hf
          have HFE : Hid ((gs.take (m + 1)).flatten = (gs.take m).flatten ++ gs[m]) := flatZ_take gs m hmx
          have HSR : Hid (Src wr q gs[m].length c (gs[m].map encZ)) := src_keys hfl hqc
          have hi : (m : Int) < (n : Int) := by omega
          have hi0' : (0 : Int) ≤ (m : Int) := by omega
          obtain ⟨g, hg⟩ : ∃ g, gs[m] = g := ⟨_, rfl⟩
          rw [hg] at hc hf HFE HSR
          clear hfl hg hmx hqc
          obtain ⟨B, hB⟩ : ∃ B, g.length = B := ⟨_, rfl⟩
          have HB : Hid (g.length = B) := hB
          rw [hB] at hc hf HSR
          clear hB
          obtain ⟨C, hC⟩ : ∃ C, (gs.take m).flatten.length = C := ⟨_, rfl⟩
          have HCL : Hid ((gs.take m).flatten.length = C) := hC
          rw [hC] at g1 hf OW
          clear hC
          obtain ⟨XS, hXS⟩ : ∃ XS, (gs.take m).flatten.map encZ = XS := ⟨_, rfl⟩
          have HXS : Hid ((gs.take m).flatten.map encZ = XS) := hXS
          rw [hXS] at OW
          clear hXS
          go_wp2_with (at_builtin; (refine wpList_append_src rfl _ _ 22 rfl w.heap.size 3 i0 (.int .i64 0) 1 8 Tryz.underlying22 hi0 hz0 hs0 hby0 rfl (by decide) u6 C XS rfl ?a0 q B c (g.map encZ) rfl ?a1 ?a2 ?a3 ?a4 ?a5 ?a6 ?_))
          case a0 => exact OW.out
          case a1 => rw [List.length_map, HB.out]; simp
          case a2 => exact HSR.out
          case a3 => intro u hu; obtain ⟨x, _, rfl⟩ := List.mem_map.1 hu; rfl
          case a4 => unfold maxLen; omega
          case a5 => omega
          case a6 => exact hb.size
          intro v2 y2 ho2 hg2 _
          have hb2 : Below w.heap.size w y2 := hb.grown hg2 hb.size (fun k hk => by
            rcases OW.out.2 with ⟨e, _⟩ | ⟨g', cap', cur, e, hg', _⟩
            · rw [e] at hk; simp [Value.ownBlock] at hk
            · rw [e] at hk; simp [Value.ownBlock] at hk; omega)
          have OW2 : Hid (y2.ownsRow w.heap.size 3 1 v2 (gs.take (m + 1)).flatten.length ((gs.take (m + 1)).flatten.map encZ)) := by
            show y2.ownsRow _ _ _ _ _ _
            rw [HFE.out, List.map_append, List.length_append, HB.out, HCL.out, HXS.out]
            exact ho2
          clear ho2 hg2
          go_wp2
          go_roundw
          case rel => exact ⟨m + 1, by omega, by go_num, OW2.out, hb2⟩
          case measure => simp [intOf]; omega
        · obtain rfl : m = n := by omega
          have HFN : Hid (wr.ownsRow w.heap.size 3 1 u6 gs.flatten.length (gs.flatten.map encZ)) := by
            have h' := OW.out
            rw [HTA.out] at h'
            exact h'
          go_wp2
          go_ret
          exact ⟨_, rfl, HFN.out, hb⟩
end Go.Proofs.YtniipgaacdpncaaGreatDoor
namespace Go.Proofs.YtniipgaacdpncaaGreatDoor
open Go.RowKit Go.Extern.Stop Go.Stop Go.Extern Go.Sort Go.Shelf Go.Lib

theorem idsG_snoc (z : Int) : ∀ (zs : List Int) (p : Int) (i : Nat), (idsG p zs i).1 = 0 → (idsG p (zs ++ [z]) i).1 = if idB z = false then 2 else if z ≤ zs.getLastD p then 9 else 0
  | [], p, i, _ => by
    show (idsG p [z] i).1 = if idB z = false then 2 else if z ≤ p then 9 else 0
    unfold idsG
    by_cases h1 : idB z = false
    · rw [if_pos h1, if_pos h1]
    rw [if_neg h1, if_neg h1]
    by_cases h2 : z ≤ p
    · rw [if_pos h2, if_pos h2]
    rw [if_neg h2, if_neg h2]
    rfl
  | y :: r, p, i, h => by
    rw [List.cons_append]
    unfold idsG at h ⊢
    by_cases h1 : idB y = false
    · rw [if_pos h1] at h; cases h
    rw [if_neg h1] at h ⊢
    by_cases h2 : y ≤ p
    · rw [if_pos h2] at h; cases h
    rw [if_neg h2] at h ⊢
    rw [idsG_snoc z r y (i + 1) h, List.getLastD_cons]

theorem push_beh {zs : List Int} {z : Int} (h : (idsE zs).1 = 0) (hl : zs.length ≠ 40) : (idsE (zs ++ [z])).1 = mbehE zs z := by
  have hg := ids_good.1 h
  have h0 : (idsG 0 zs 0).1 = 0 := by
    unfold idsE at h
    rw [if_neg hg.1, if_neg (by omega)] at h
    exact h
  unfold idsE
  rw [if_neg (by simp), if_neg (by rw [List.length_append]; simp; omega)]
  exact idsG_snoc z zs 0 0 h0

theorem push_full {zs : List Int} {z : Int} (hl : zs.length = 40) : (idsE (zs ++ [z])).1 = 8 := by
  unfold idsE
  rw [if_neg (by simp), if_pos (by rw [List.length_append]; simp; omega)]

/-- What one more ends with. -/
def MPushP (w : World) (a : Nat → Addr) (zs : List Int) (E : Nat × Option Nat) (e : Ending) (w' : World) : Prop := ∃ v' ev, e = .returned (.tuple #[v', ev]) ∧ IdsAt w' v' zs ∧ NewV w v' ∧ ToldE w' a ev E ∧ Below w.heap.size w w'

theorem mpush_nil {w W : World} {a : Nat → Addr} {zs : List Int} {E : Nat × Option Nat} {ev : Value} (hz : zs = []) (ht : ToldE W a ev E) (hb : Below w.heap.size w W) : MPushP w a zs E (.returned (.tuple #[.slice none 0 0, ev])) W := by
  subst hz
  exact ⟨_, _, rfl, ⟨Or.inl ⟨none, 0, rfl, rfl⟩, roomV_nil⟩, fun k hk => by simp [Value.ownBlock] at hk, ht, hb⟩

set_option maxRecDepth 100000 in
set_option maxHeartbeats 4000000 in
theorem mpush_any (v : Value) (zs : List Int) (z : Int) (w : World) (a : Nat → Addr) (h : EnvM w a) (hz : IdsAt w v zs) (hl : zs.length ≤ 100) :
    Calls Tryz.prog 15 #[v, .int .i64 z] w fun e w' => MPushP w a (pushI zs z) (pushE zs z) e w' := by
  have hck := mcheck_any v zs w a h hz (by omega)
  by_cases hok : (idsE zs).1 = 0
  case neg =>
    have hE : pushE zs z = idsE zs := by unfold pushE; rw [if_pos hok]
    have HI : Hid (pushI zs z = []) := by show _ = _; unfold pushI; rw [hE, if_neg hok]
    rw [hE]
    generalize pushI zs z = PI at HI ⊢
    generalize idsE zs = R at hck hok ⊢
    clear hE
    go_enter Tryz.func15, Tryz.ntmps15
    go_wp2_with fail
    refine hck.mono ?_
    rintro e w1 ⟨ev, rfl, ht, hb1⟩
    clear hck
    obtain ⟨t, u, rfl⟩ := ht.bad hok
    have HTT : Hid (ToldE w1 a (.iface t u) R) := ht
    clear ht
    go_wp2
    go_ret2
    exact mpush_nil HI.out HTT.out hb1
  case pos =>
  have hfine := ids_fine hok
  rw [hfine] at hck
  have hE : pushE zs z = ((idsE (zs ++ [z])).1, none) := by unfold pushE; rw [if_neg (by simpa using hok)]
  obtain ⟨hne, -⟩ := ids_good.1 hok
  have HEN : Hid (∀ W, Below w.heap.size w W → EnvM W a) := fun W hb => h.below hb
  have HKZ : Hid (∀ W, Below w.heap.size w W → KeysAt W v zs) := fun W hb => hz.1.below hb
  obtain ⟨q, cap, rfl⟩ := hz.1.shape
  obtain ⟨b, o, rfl, hc⟩ := hz.1.at hne
  by_cases h40 : zs.length = 40
  · have hE2 : pushE zs z = (8, none) := by rw [hE, push_full h40]
    have HI : Hid (pushI zs z = []) := by show _ = _; unfold pushI; rw [hE2]; rfl
    rw [hE2]
    generalize pushI zs z = PI at HI ⊢
    rw [h40] at hck ⊢
    clear hE hE2 hfine hok hne hz hc HKZ
    go_enter Tryz.func15, Tryz.ntmps15
    go_wp2_with fail
    refine hck.mono ?_
    rintro e w1 ⟨ev, rfl, ht, hb1⟩
    clear hck
    obtain rfl : ev = .nilIface := ht
    have hfu := (HEN.out w1 hb1).full
    clear h
    go_wp2
    go_quiet (fail)
    go_wp2
    go_ret2
    exact mpush_nil HI.out rfl (below_drewN hb1 nq)
  rw [push_beh hok h40] at hE
  have HPI : Hid (pushI zs z = if mbehE zs z = 0 then zs ++ [z] else []) := by
    show _ = _
    unfold pushI
    rw [hE]
  rw [hE]
  have hbe := fun W (hb : Below w.heap.size w W) => mbehind_any _ zs z W a (HEN.out W hb) (HKZ.out W hb) (by omega)
  have hcat := fun (W : World) (hb : Below w.heap.size w W) => concatZ_any (W.heap.size + 1) [zs, [z]] ((W.alloc (.cells #[.int .i64 z] 3)).alloc (.cells #[.slice (some ⟨b, o, none⟩) zs.length cap, .slice (some ⟨W.heap.size, 0, none⟩) 1 1] 22)) (fun j hj => by
      have hj2 : j < 2 := hj
      have hal : Below W.heap.size W ((W.alloc (.cells #[.int .i64 z] 3)).alloc (.cells #[.slice (some ⟨b, o, none⟩) zs.length cap, .slice (some ⟨W.heap.size, 0, none⟩) 1 1] 22)) := ((Below.refl _ _).alloc (Nat.le_refl _) _).alloc (by simp) _
      match j, hj2 with
      | 0, _ =>
        refine ⟨some ⟨b, o, none⟩, cap, ?_, (HKZ.out W hb).below hal, fun e => by cases e⟩
        have : W.heap.size + 1 = (W.alloc (.cells #[.int .i64 z] 3)).heap.size := by simp
        rw [this, cell_of_row _ _ _ _ _ _ (heap_alloc_new _ _)]
        rfl
      | 1, _ =>
        refine ⟨some ⟨W.heap.size, 0, none⟩, 1, ?_, Or.inr ⟨W.heap.size, 0, 1, rfl, fun k hk => ?_⟩, fun e => by cases e⟩
        · have : W.heap.size + 1 = (W.alloc (.cells #[.int .i64 z] 3)).heap.size := by simp
          rw [this, cell_of_row _ _ _ _ _ _ (heap_alloc_new _ _)]
          rfl
        · have hk0 : k = 0 := by simp at hk; omega
          subst hk0
          have h2 := heap_alloc2_old W (.cells #[.int .i64 z] 3) (.cells #[.slice (some ⟨b, o, none⟩) zs.length cap, .slice (some ⟨W.heap.size, 0, none⟩) 1 1] 22)
          rw [cell_of_row _ _ _ _ _ _ h2]
          rfl) (by simp) (by simp; omega)
  have hfl : ([zs, [z]] : List (List Int)).flatten = zs ++ [z] := by simp
  rw [hfl] at hcat
  obtain ⟨L, hL⟩ : ∃ L, zs.length = L := ⟨_, rfl⟩
  rw [hL] at hl hck h40 hbe hcat ⊢
  have h40' : ((L : Int) == 40) = false := beq_eq_false_iff_ne.2 (by omega)
  have hlc : ([zs, [z]] : List (List Int)).length = 2 := rfl
  rw [hlc] at hcat
  generalize hBE : mbehE zs z = E at hbe HPI ⊢
  have hEv : E = 0 ∨ E ≠ 0 := by omega
  clear hE hfine hok hz hc hne HKZ hL hfl hlc hBE h
  rcases hEv with rfl | hE0
  · have HPI2 : Hid (pushI zs z = zs ++ [z]) := HPI.out
    rw [HPI2.out]
    simp only [errV] at hbe
    clear HPI HPI2
    go_enter Tryz.func15, Tryz.ntmps15
    go_wp2_with fail
    refine hck.mono ?_
    rintro e w1 ⟨ev, rfl, ht, hb1⟩
    clear hck
    obtain rfl : ev = .nilIface := ht
    have hbe1 := hbe w1 hb1
    clear hbe
    go_wp2_with fail
    refine hbe1.mono ?_
    rintro e w2 ⟨rfl, rfl⟩
    clear hbe1
    have hca := hcat w2 hb1
    have hal : Below w2.heap.size w2 ((w2.alloc (.cells #[.int .i64 z] 3)).alloc (.cells #[.slice (some ⟨b, o, none⟩) L cap, .slice (some ⟨w2.heap.size, 0, none⟩) 1 1] 22)) := ((Below.refl _ _).alloc (Nat.le_refl _) _).alloc (by simp) _
    have hB3 := hb1.trans (hal.mono hb1.size)
    clear hcat hal
    go_wp2_with fail
    refine hca.mono ?_
    rintro e w4 ⟨v4, rfl, ho4, hb4⟩
    clear hca
    have HID : Hid (IdsAt w4 v4 (zs ++ [z]) ∧ NewV w v4) := by
      refine ⟨idsAt_of_own ho4, fun k hk => ?_⟩
      obtain ⟨_, _, _, _, _, hk'⟩ := own_form ho4
      exact Nat.le_trans hB3.size (hk' k hk)
    clear ho4
    go_wp2
    go_ret2
    exact ⟨v4, .nilIface, rfl, HID.out.1, HID.out.2, rfl, hB3.trans (hb4.mono hB3.size)⟩
  · have HI : Hid (pushI zs z = []) := by
      show _ = _
      rw [HPI.out, if_neg hE0]
    generalize pushI zs z = PI at HI ⊢
    clear HPI hcat
    obtain ⟨m, rfl⟩ : ∃ m, E = m + 1 := ⟨E - 1, by omega⟩
    have HTT : Hid (∀ W, ToldE W a (.iface 159 (.pointer (some (a m)))) (m + 1, none)) := fun W => rfl
    simp only [errV] at hbe
    go_enter Tryz.func15, Tryz.ntmps15
    go_wp2_with fail
    refine hck.mono ?_
    rintro e w1 ⟨ev, rfl, ht, hb1⟩
    clear hck
    obtain rfl : ev = .nilIface := ht
    have hbe1 := hbe w1 hb1
    clear hbe
    go_wp2_with fail
    refine hbe1.mono ?_
    rintro e w2 ⟨rfl, rfl⟩
    clear hbe1
    go_wp2
    go_ret2
    exact mpush_nil HI.out (HTT.out _) hb1
end Go.Proofs.YtniipgaacdpncaaGreatDoor
namespace Go.Proofs.YtniipgaacdpncaaGreatDoor
open Go.RowKit Go.Extern.Stop Go.Stop Go.Extern Go.Sort Go.Shelf Go.Lib

theorem containsZ_any (v : Value) (zs : List Int) (x : Int) (w : World) (h : KeysAt w v zs) (hl : zs.length ≤ 1000) :
    Calls Tryz.prog 35 #[v, .int .i64 x] w fun e w' => e = .returned (.bool (zs.contains x)) ∧ w' = w := by
  rcases h with ⟨p, c, rfl, rfl⟩ | ⟨b, o, cap, rfl, hc⟩
  · exact (Tryz.slices_Contains_int_empty p c x w).mono fun e w' ⟨he, hw⟩ => ⟨he, hw⟩
  · refine (Tryz.slices_Contains_int b o zs.length cap zs x w (Nat.le_refl _) (by omega) (fun j hj => by rw [getD_of hj]; exact hc j hj)).mono fun e w' ⟨he, hw⟩ => ⟨?_, hw⟩
    rw [List.take_length] at he; exact he

/-- Which are left out. -/
def goneB (now : Int) (ys : List Int) (z : Int) : Bool := (z != now) && !ys.contains z

theorem keep_filter {zs ys : List Int} (h : (idsE zs).1 = 0) : (zs.filter fun z => !goneB (zs.getLastD 0) ys z) = keepF zs ys := by
  obtain ⟨hne, -, -, hp⟩ := ids_good.1 h
  have e1 := List.dropLast_concat_getLast hne
  have e2 : zs.getLastD 0 = zs.getLast hne := by rw [List.getLastD_eq_getLast?, List.getLast?_eq_some_getLast hne, Option.getD_some]
  rw [e2]
  unfold keepF
  rw [List.getLast?_eq_some_getLast hne]
  generalize zs.getLast hne = last at e1 ⊢
  generalize zs.dropLast = ds at e1 ⊢
  rw [← e1] at hp ⊢
  have hlt : ∀ z ∈ ds, z < last := fun z hz => (List.pairwise_append.1 hp).2.2 z hz last (by simp)
  rw [List.filter_append]
  congr 1
  · apply List.filter_congr
    intro z hz
    have := hlt z hz
    have hn : (z != last) = true := by simp; omega
    simp [goneB, hn]
  · simp [goneB]

set_option maxRecDepth 100000 in
set_option maxHeartbeats 1000000 in
theorem keep1_any (z now : Int) (nb sb : Nat) (u : Value) (ys : List Int) (W : World) (hn : W.cell? ⟨nb, 0, none⟩ = some (.int .i64 now)) (hs : W.cell? ⟨sb, 0, none⟩ = some u) (hu : KeysAt W u ys) (hl : ys.length ≤ 1000) :
    FnGives Tryz.prog 34 #[.pointer (some ⟨nb, 0, none⟩), .pointer (some ⟨sb, 0, none⟩)] #[.int .i64 z] (.bool (goneB now ys z)) W := by
  show Calls Tryz.prog 34 #[.int .i64 z, .pointer (some ⟨nb, 0, none⟩), .pointer (some ⟨sb, 0, none⟩)] W _
  have hco := containsZ_any u ys z W hu hl
  obtain ⟨q, cap, rfl⟩ := hu.shape
  by_cases he : z = now
  · have hb : goneB now ys z = false := by simp [goneB, he]
    have hne : (z != now) = false := by simp [he]
    rw [hb]
    clear hco hu he hb
    go_enter Tryz.func34, Tryz.ntmps34
    go_wp2
    go_ret
    exact ⟨rfl, 0, rfl⟩
  · have hb : goneB now ys z = !ys.contains z := by simp [goneB, he]
    have hne : (z != now) = true := by simp [he]
    rw [hb]
    generalize ys.contains z = bb at hco ⊢
    generalize ys.length = L at hco hs
    clear hu he hb hl
    go_enter Tryz.func34, Tryz.ntmps34
    go_wp2_with fail
    refine hco.mono ?_
    rintro e w1 ⟨rfl, rfl⟩
    clear hco
    go_wp2
    go_ret
    exact ⟨rfl, 0, rfl⟩

theorem sortW_cell {w : World} {blk off n : Nat} {dk : Array Int} {os : Array Obj} {B k : Nat} {v : Value} (hc : w.cell? ⟨B, k, none⟩ = some v) (hne : B ≠ blk) : (sortWorld (Value.int .i64) w blk off n dk os).cell? ⟨B, k, none⟩ = some v := by
  unfold sortWorld
  rw [cell?_grow _ _ _ (by show B < (putRow _ _ _ _ _).heap.size; rw [size_putRow]; exact cell_lt hc), cell?_putRow_other _ _ blk off _ _ (Or.inl hne)]
  exact hc

set_option maxRecDepth 100000 in
set_option maxHeartbeats 4000000 in
theorem mkeep_any (v u : Value) (zs ys : List Int) (w : World) (a : Nat → Addr) (h : EnvM w a) (hz : IdsAt w v zs) (hy : KeysAt w u ys) (hl : zs.length ≤ 100) (hly : ys.length ≤ 100) :
    Calls Tryz.prog 17 #[v, u] w fun e w' => MPushP w a (keepI zs ys) (idsE zs) e w' := by
  have hal : Below w.heap.size w (w.alloc (.cells #[u] 22)) := (Below.refl _ _).alloc (Nat.le_refl _) _
  have hcu : (w.alloc (.cells #[u] 22)).cell? ⟨w.heap.size, 0, none⟩ = some u := by
    rw [cell_of_row _ _ _ _ _ _ (heap_alloc_new _ _)]; rfl
  have hck := mcheck_any v zs (w.alloc (.cells #[u] 22)) a (h.below hal) (hz.below hal) (by omega)
  obtain ⟨qy, cy, rfl⟩ := hy.shape
  by_cases hok : (idsE zs).1 = 0
  case neg =>
    have HI : Hid (keepI zs ys = []) := by show _ = _; unfold keepI; rw [if_neg hok]
    generalize keepI zs ys = PI at HI ⊢
    generalize idsE zs = R at hck hok ⊢
    generalize ys.length = M at hal hck hcu ⊢
    obtain ⟨q, cap, rfl⟩ := hz.1.shape
    clear hz hy
    go_enter Tryz.func17, Tryz.ntmps17
    go_wp2_with fail
    refine hck.mono ?_
    rintro e w1 ⟨ev, rfl, ht, hb1⟩
    clear hck
    obtain ⟨t, u, rfl⟩ := ht.bad hok
    have HTT : Hid (ToldE w1 a (.iface t u) R) := ht
    clear ht
    go_wp2
    go_ret2
    exact mpush_nil HI.out HTT.out (hal.trans (hb1.mono hal.size))
  case pos =>
  have hfine := ids_fine hok
  have HKF : Hid ((zs.filter fun z => !goneB (zs.getLastD 0) ys z) = keepF zs ys) := keep_filter hok
  have hki : keepI zs ys = keepF zs ys := by unfold keepI; rw [if_pos hok]
  have hne := (ids_good.1 hok).1
  rw [hfine] at hck ⊢
  rw [hki]
  have HKZ : Hid (∀ W, Below w.heap.size w W → KeysAt W v zs) := fun W hb => hz.1.below hb
  have HKY : Hid (KeysAt w (.slice qy ys.length cy) ys) := hy
  have hpos := List.length_pos_iff.2 hne
  obtain ⟨q, cap, rfl⟩ := hz.1.shape
  have hno := fun W (hb : Below w.heap.size w W) => mnow_any _ zs W (HKZ.out W hb) (by omega)
  have hcl := fun W (hb : Below w.heap.size w W) => cloneInts_any _ zs W (HKZ.out W hb) (by omega)
  have eg : ∀ args w, (callFunc 34 args).run Tryz.prog w = .ok (.enter 34 args) w := enters_of Tryz.func34 (by kernel_rfl) rfl
  generalize hnow : zs.getLastD 0 = now at hno HKF
  obtain ⟨M, hM⟩ : ∃ M, ys.length = M := ⟨_, rfl⟩
  have HM : Hid (ys.length = M) := hM
  rw [hM] at hal hck hcu HKY hly ⊢
  obtain ⟨L, hL⟩ : ∃ L, zs.length = L := ⟨_, rfl⟩
  have HL : Hid (zs.length = L) := hL
  rw [hL] at hck hno hcl hl hpos ⊢
  clear hnow hM hL hz hy hok hfine hki hne h HKZ
  go_enter Tryz.func17, Tryz.ntmps17
  go_wp2_with fail
  refine hck.mono ?_
  rintro e w1 ⟨ev, rfl, ht, hb1⟩
  clear hck
  obtain rfl : ev = .nilIface := ht
  have hB1 : Below w.heap.size w w1 := hal.trans (hb1.mono hal.size)
  have hcu1 := below_keep hb1 hcu
  have hsb : w.heap.size < w1.heap.size := cell_lt hcu1
  have hno1 := hno w1 hB1
  clear hno hcu hb1 hal
  go_wp2_with fail
  refine hno1.mono ?_
  rintro e w2 ⟨rfl, rfl⟩
  clear hno1
  have hal2 : Below w2.heap.size w2 (w2.alloc (.cells #[.int .i64 now] 3)) := (Below.refl _ _).alloc (Nat.le_refl _) _
  have hcn : (w2.alloc (.cells #[.int .i64 now] 3)).cell? ⟨w2.heap.size, 0, none⟩ = some (.int .i64 now) := by
    rw [cell_of_row _ _ _ _ _ _ (heap_alloc_new _ _)]; rfl
  have hcu2 := below_keep hal2 hcu1
  have hB2 : Below w.heap.size w (w2.alloc (.cells #[.int .i64 now] 3)) := hB1.trans (hal2.mono hB1.size)
  have hcl2 := hcl _ hB2
  clear hcl hcu1 hal2
  go_upto_region 5 with fail
  generalize w2.alloc (.cells #[.int .i64 now] 3) = W3 at hcn hcu2 hB2 hcl2 ⊢
  generalize w2.heap.size = nb at hcn hsb ⊢
  go_wp2_with fail
  refine hcl2.mono ?_
  rintro e w4 ⟨v4, rfl, ho4, hb4⟩
  clear hcl2
  have hB4 : Below w.heap.size w w4 := hB2.trans (hb4.mono hB2.size)
  have hcn4 := below_keep hb4 hcn
  have hcu4 := below_keep hb4 hcu2
  have hv4 : v4 ≠ .slice none 0 0 := fun e => by
    rcases ho4.2 with ⟨_, h0⟩ | ⟨g, cap4, cur, e', _⟩
    · omega
    · rw [e] at e'; cases e'
  obtain ⟨g, cap4, rfl, hbg, hlt, hn, hm, hlen, hH⟩ := holds_of_ownsRow ho4 hv4
  have hnb := cell_lt hcn
  have hnb' : nb < W3.heap.size := hnb
  have hwg : w.heap.size ≤ W3.heap.size := hB2.size
  have hky : ∀ (n : Nat) (os : Array Obj) (dk : Array Int), KeysAt (sortWorld (Value.int .i64) w4 g 0 n dk os) (.slice qy M cy) ys := fun n os dk => by
    rcases HKY.out with h' | ⟨b, o, c, e, hc⟩
    · exact Or.inl h'
    · refine Or.inr ⟨b, o, c, e, fun j hj => sortW_cell (below_keep (hB4.mono (Nat.le_refl _)) (hc j hj)) ?_⟩
      have := cell_lt (hc j hj)
      show b ≠ g
      have : b < w.heap.size := this
      omega
  have hdel := AnyE.slices_DeleteFunc Tryz.delZ (Value.int .i64) (fun _ => rfl) (goneB now ys) 34 #[.pointer (some ⟨nb, 0, none⟩), .pointer (some ⟨w.heap.size, 0, none⟩)] eg 0 Tryz.zeroValue3 g 0 cap4 zs.toArray w4
    (fun W x hb => keep1_any x now nb w.heap.size (.slice qy M cy) ys W (below_keep hb hcn4) (below_keep hb hcu4) ((HKY.out.below hB4).below hb) (by rw [HM.out]; omega))
    (fun n os dk x _ => keep1_any x now nb w.heap.size (.slice qy M cy) ys _ (sortW_cell hcn4 (by omega)) (sortW_cell hcu4 (by omega)) (hky n os dk) (by rw [HM.out]; omega))
    hH (by simp; omega) (by simp; omega)
  change Calls Tryz.prog 32 _ _ _ at hdel
  simp only [List.size_toArray, hlen, HKF.out] at hdel
  have hkl : (keepF zs ys).length ≤ L := by rw [← HL.out]; exact (keep_sub zs ys).length_le
  have HH : Hid (Holds (Value.int .i64) w4 g 0 zs.toArray) := hH
  clear hH hky hcn4 hcu4 ho4 hv4 hcn hcu2 HKF HKY hlen hb4
  go_wp2_with fail
  refine hdel.mono ?_
  rintro e w5 ⟨rfl, qq, hw5⟩
  clear hdel
  have HID : Hid (IdsAt w5 (.slice (some ⟨g, 0, none⟩) (keepF zs ys).length cap4) (keepF zs ys) ∧ NewV w (.slice (some ⟨g, 0, none⟩) (keepF zs ys).length cap4)) := by
    refine ⟨⟨Or.inr ⟨g, 0, cap4, rfl, fun j hj => ?_⟩, fun q l c e => by injection e with _ e1 e2; omega⟩, fun k hk => by simp [Value.ownBlock] at hk; omega⟩
    rw [hw5]
    have hd : (keepF zs ys ++ List.replicate (L - (keepF zs ys).length) 0).toArray.size = zs.toArray.size := by
      simp [HL.out]
      omega
    have hH3 := holds_putRow (Value.int .i64) (Sort.ahead w4 qq) g 0 zs.toArray (keepF zs ys ++ List.replicate (L - (keepF zs ys).length) 0).toArray HH.out hd
    have := (hH3 j (by simp; omega)).1
    rw [getElem!_pos _ j (by simp; omega)] at this
    simp only [List.getElem_toArray, List.getElem_append_left hj] at this
    exact this
  have hB5 : Below w.heap.size w w5 := by rw [hw5]; exact below_putRow hB4 (by omega)
  clear hw5 HH hB4
  generalize (keepF zs ys).length = KL at HID
  go_wp2
  go_ret2
  exact ⟨_, .nilIface, rfl, HID.out.1, HID.out.2, rfl, hB5⟩
end Go.Proofs.YtniipgaacdpncaaGreatDoor
