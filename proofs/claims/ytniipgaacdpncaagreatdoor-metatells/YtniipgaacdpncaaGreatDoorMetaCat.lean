/-
  The contracts of slices.Grow (of nothing) and slices.Concat, at whole numbers.
-/
import Derived.Test.YtniipgaacdpncaaGreatDoorMetaChk
import Derived.Test.YtniipgaacdpncaaGreatDoorGoneWalk
import Derived.Lib.AppendZerosOnto
namespace Go.Proofs.YtniipgaacdpncaaGreatDoor
open Go.RowKit Go.Extern.Stop Go.Stop Go.Extern Go.Sort Go.Shelf Go.Lib

theorem own_form {W : World} {base : Nat} {e : TypeId} {size : Nat} {v : Value} {n : Nat} {xs : List Value} (h : W.ownsRow base e size v n xs) : ∃ q c, v = .slice q n c ∧ n ≤ c ∧ (q = none → c = 0) ∧ ∀ k, v.ownBlock = some k → base ≤ k := by
  rcases h.2 with ⟨rfl, rfl⟩ | ⟨g, cap, cur, rfl, hg, _, hc, _⟩
  · exact ⟨none, 0, rfl, Nat.le_refl _, fun _ => rfl, fun k hk => by simp [Value.ownBlock] at hk⟩
  · exact ⟨_, _, rfl, hc, fun e => by simp at e, fun k hk => by simp [Value.ownBlock] at hk; omega⟩

theorem idsAt_of_own {W : World} {base : Nat} {v : Value} {zs : List Int} (h : W.ownsRow base 3 1 v zs.length (zs.map encZ)) : IdsAt W v zs := by
  refine ⟨keysAt_of_own h, fun q l c e => ?_⟩
  obtain ⟨q', c', rfl, hc, _⟩ := own_form h
  injection e with _ e1 e2
  omega

set_option maxRecDepth 100000 in
set_option maxHeartbeats 2000000 in
theorem growZ_any (n : Nat) (w : World) (hn : n ≤ 100000) :
    Calls Tryz.prog 45 #[.slice none 0 0, .int .i64 n] w fun e w' => ∃ v', e = .returned v' ∧ w'.ownsRow w.heap.size 3 1 v' 0 [] ∧ Below w.heap.size w w' := by
  obtain ⟨i0, hi0, hz0, hs0, hby0⟩ := Tryz.numInfo
  by_cases h0 : n = 0
  · subst h0
    go_enter Tryz.func45, Tryz.ntmps45
    go_wp2
    go_ret
    exact ⟨_, rfl, World.ownsRow_nil _ _ _ _, Below.refl _ _⟩
  · have h1 : ¬ ((n : Int) < 0) := by omega
    have h2 : (0 : Int) < (n : Int) := by omega
    have hold : (Builtin.firstCells i0.size 0 (.slice none 0 0)).run Tryz.prog w.drew = .ok ([] : List Value).toArray w.drew := run_firstCells_none w.drew i0.size 0 0 0
    have hrz : ∀ ty, (Builtin.append_ #[22, 3] ty #[.slice none 0 0, .int .i64 (n : Int)]).run Tryz.prog w = .ok (.slice (some ⟨w.heap.size, 0, none⟩) n (grownCap w n 0 3)) (w.drew.alloc (.cells (([] : List Value).toArray ++ Builtin.zeroCells (Value.cells (.int .i64 0)) n ++ Builtin.zeroCells (Value.cells (.int .i64 0)) (grownCap w n 0 3 - n)) 3)) := fun ty => by
      have h := Lib.run_append_grow_zeros w 22 3 ty 3 i0 _ .i64 .i64 Tryz.underlying22 Tryz.underlying3 hi0 hz0 none 0 0 [] hold n (by omega) (by omega) (by omega) (by omega) (by rw [hby0]; omega) (by rw [Nat.zero_add, hby0]; exact growslice_fits (by omega) (by omega))
      rw [Nat.zero_add] at h
      exact h
    have hGn : n ≤ grownCap w n 0 3 := grownCap_ge w _ _ _
    have hGm : grownCap w n 0 3 ≤ maxLen := grownCap_le_maxLen w n 0 3 (by unfold maxLen; omega)
    have hW : Below w.heap.size w (w.drew.alloc (.cells (([] : List Value).toArray ++ Builtin.zeroCells (Value.cells (.int .i64 0)) n ++ Builtin.zeroCells (Value.cells (.int .i64 0)) (grownCap w n 0 3 - n)) 3)) := (Below.refl _ _).drew.alloc (Nat.le_refl _) _
    have hOW : (w.drew.alloc (.cells (([] : List Value).toArray ++ Builtin.zeroCells (Value.cells (.int .i64 0)) n ++ Builtin.zeroCells (Value.cells (.int .i64 0)) (grownCap w n 0 3 - n)) 3)).ownsRow w.heap.size 3 1 (.slice (some ⟨w.heap.size, 0, none⟩) 0 (grownCap w n 0 3)) 0 [] := by
      refine ⟨rfl, Or.inr ⟨w.heap.size, _, _, rfl, Nat.le_refl _, heap_alloc_new w.drew _, Nat.zero_le _, hGm, ?_, by simp⟩⟩
      have hzc : ∀ k, (Builtin.zeroCells (Value.cells (.int .i64 0)) k).size = k * 1 := fun k => by
        rw [size_zeroCells]; rfl
      simp only [Array.size_append, hzc]
      simp
      omega
    generalize w.drew.alloc (.cells (([] : List Value).toArray ++ Builtin.zeroCells (Value.cells (.int .i64 0)) n ++ Builtin.zeroCells (Value.cells (.int .i64 0)) (grownCap w n 0 3 - n)) 3) = W1 at hrz hW hOW
    generalize grownCap w n 0 3 = G at hrz hOW hGn
    clear hold hGm
    go_enter Tryz.func45, Tryz.ntmps45
    go_wp2_with (at_builtin; refine Lib.wpList_append_run _ rfl _ _ _ _ rfl _ _ rfl rfl _ _ (hrz _) ?_)
    all_goals
      go_ret
      exact ⟨_, rfl, hOW, hW⟩

/-- Slices of whole numbers in a row of cells. -/
def PartsZ (w : World) (b : Nat) (gs : List (List Int)) : Prop := ∀ j (h : j < gs.length), ∃ q c, w.cell? ⟨b, j, none⟩ = some (.slice q gs[j].length c) ∧ KeysAt w (.slice q gs[j].length c) gs[j] ∧ (q = none → c = 0)

theorem PartsZ.below {w w' : World} {b : Nat} {gs : List (List Int)} (h : PartsZ w b gs) (hb : Below w.heap.size w w') : PartsZ w' b gs := fun j hj => by
  obtain ⟨q, c, h1, h2, h3⟩ := h j hj
  exact ⟨q, c, below_keep hb h1, h2.below hb, h3⟩

theorem flatZ_take (gs : List (List Int)) (n : Nat) (h : n < gs.length) : (gs.take (n + 1)).flatten = (gs.take n).flatten ++ gs[n] := by
  rw [← List.take_append_getElem h, List.flatten_append]
  simp

theorem flatZ_le (gs : List (List Int)) (n : Nat) : (gs.take n).flatten.length ≤ gs.flatten.length := by
  conv => rhs; rw [← List.take_append_drop n gs, List.flatten_append, List.length_append]
  omega

set_option maxRecDepth 100000 in
set_option maxHeartbeats 4000000 in
theorem concatZ_any (b : Nat) (gs : List (List Int)) (w : World) (hp : PartsZ w b gs) (hk : gs.length ≤ 10) (hl : gs.flatten.length ≤ 1000) :
    Calls Tryz.prog 31 #[.slice (some ⟨b, 0, none⟩) gs.length gs.length] w fun e w' => ∃ v', e = .returned v' ∧ w'.ownsRow w.heap.size 3 1 v' gs.flatten.length (gs.flatten.map encZ) ∧ Below w.heap.size w w' := by
  obtain ⟨i0, hi0, hz0, hs0, hby0⟩ := Tryz.numInfo
  have HP : Hid (∀ W, Below w.heap.size w W → PartsZ W b gs) := fun W hb => hp.below hb
  have HLE : Hid (∀ n, (gs.take n).flatten.length ≤ 1000) := fun n => Nat.le_trans (flatZ_le gs n) hl
  obtain ⟨K, hK⟩ : ∃ K, gs.length = K := ⟨_, rfl⟩
  have HK : Hid (gs.length = K) := hK
  rw [hK] at hk ⊢
  clear hK hp hl
  go_enter Tryz.func31, Tryz.ntmps31
  go_wp2
  go_loop [3, 11] (fun s k => ∃ n : Nat, n ≤ K ∧ s = .int .i64 (gs.take n).flatten.length ∧ k = .int .i64 n) (fun _ k => K - (intOf k).toNat)
  case atStart => exact ⟨0, by omega, rfl, rfl⟩
  case round =>
    obtain ⟨n, hn, rfl, rfl⟩ := hrel
    have h1 := HLE.out n
    have h2 := HLE.out (n + 1)
    by_cases hlt : n < K
    · have hltx : n < gs.length := by rw [HK.out]; exact hlt
      obtain ⟨q, c, hc, -⟩ := HP.out w (Below.refl _ _) n hltx
      have hf := congrArg List.length (flatZ_take gs n hltx)
      rw [List.length_append] at hf
      have hi : (n : Int) < (K : Int) := by omega
      have hi0' : (0 : Int) ≤ (n : Int) := by omega
      have HF : Hid ((gs.take (n + 1)).flatten.length = (gs.take n).flatten.length + gs[n].length) := hf
      generalize (gs.take n).flatten.length = A at h1 HF ⊢
      generalize gs[n].length = B at hc HF
      have hAB : A + B ≤ 1000 := by rw [← HF.out]; exact h2
      have hneg : ¬ ((A : Int) + (B : Int) < 0) := by omega
      clear hf hltx h1 h2
      go_wp2
      go_round
      case rel => exact ⟨n + 1, by omega, by rw [HF.out]; go_num, by go_num⟩
      case measure => simp [intOf]; omega
    · obtain rfl : n = K := by omega
      have hta : gs.take n = gs := List.take_of_length_le (by rw [HK.out]; exact Nat.le_refl _)
      have HTA : Hid (gs.take n = gs) := hta
      have hgr := growZ_any (gs.take n).flatten.length w (by omega)
      clear h2
      generalize (gs.take n).flatten.length = S at h1 hgr ⊢
      go_wp2_with fail
      refine hgr.mono ?_
      rintro e w1 ⟨v1, rfl, ho1, hb1⟩
      clear hgr hta
      obtain ⟨q1, c1, rfl, -⟩ := own_form ho1
      have OW1 : Hid (w1.ownsRow w.heap.size 3 1 (.slice q1 0 c1) (gs.take 0).flatten.length ((gs.take 0).flatten.map encZ)) := by
        show w1.ownsRow _ _ _ _ _ _
        simpa using ho1
      clear ho1
      go_wp2
      go_loopw [6, 27] (fun v k wr => ∃ m : Nat, m ≤ n ∧ k = .int .i64 m ∧ wr.ownsRow w.heap.size 3 1 v (gs.take m).flatten.length ((gs.take m).flatten.map encZ) ∧ Below w.heap.size w wr) (fun _ k _ => n - (intOf k).toNat)
      case atStart => exact ⟨0, by omega, rfl, OW1.out, hb1⟩
      case round =>
        clear OW1 hb1
        obtain ⟨m, hm, rfl, hown, hb⟩ := hrel
        have OW : Hid (wr.ownsRow w.heap.size 3 1 u6 (gs.take m).flatten.length ((gs.take m).flatten.map encZ)) := hown
        clear hown
        have g1 := HLE.out m
        have g2 := HLE.out (m + 1)
        by_cases hmt : m < n
        · have hmx : m < gs.length := by rw [HK.out]; exact hmt
          obtain ⟨q, c, hc, hfl, hqc⟩ := HP.out wr hb m hmx
          have hf := congrArg List.length (flatZ_take gs m hmx)
          rw [List.length_append] at hf
          have HFE : Hid ((gs.take (m + 1)).flatten = (gs.take m).flatten ++ gs[m]) := flatZ_take gs m hmx
          have HSR : Hid (Src wr q gs[m].length c (gs[m].map encZ)) := src_keys hfl hqc
          have hi : (m : Int) < (n : Int) := by omega
          have hi0' : (0 : Int) ≤ (m : Int) := by omega
          obtain ⟨g, hg⟩ : ∃ g, gs[m] = g := ⟨_, rfl⟩
          rw [hg] at hc hf HFE HSR
          clear hfl hg hmx hqc
          obtain ⟨B, hB⟩ : ∃ B, g.length = B := ⟨_, rfl⟩
          have HB : Hid (g.length = B) := hB
          rw [hB] at hc hf HSR
          clear hB
          obtain ⟨C, hC⟩ : ∃ C, (gs.take m).flatten.length = C := ⟨_, rfl⟩
          have HCL : Hid ((gs.take m).flatten.length = C) := hC
          rw [hC] at g1 hf OW
          clear hC
          obtain ⟨XS, hXS⟩ : ∃ XS, (gs.take m).flatten.map encZ = XS := ⟨_, rfl⟩
          have HXS : Hid ((gs.take m).flatten.map encZ = XS) := hXS
          rw [hXS] at OW
          clear hXS
          go_wp2_with (at_builtin; (refine wpList_append_src rfl _ _ 22 rfl w.heap.size 3 i0 (.int .i64 0) 1 8 Tryz.underlying22 hi0 hz0 hs0 hby0 rfl (by decide) u6 C XS rfl ?a0 q B c (g.map encZ) rfl ?a1 ?a2 ?a3 ?a4 ?a5 ?a6 ?_))
          case a0 => exact OW.out
          case a1 => rw [List.length_map, HB.out]; simp
          case a2 => exact HSR.out
          case a3 => intro u hu; obtain ⟨x, _, rfl⟩ := List.mem_map.1 hu; rfl
          case a4 => unfold maxLen; omega
          case a5 => omega
          case a6 => exact hb.size
          intro v2 y2 ho2 hg2 _
          have hb2 : Below w.heap.size w y2 := hb.grown hg2 hb.size (fun k hk => by
            rcases OW.out.2 with ⟨e, _⟩ | ⟨g', cap', cur, e, hg', _⟩
            · rw [e] at hk; simp [Value.ownBlock] at hk
            · rw [e] at hk; simp [Value.ownBlock] at hk; omega)
          have OW2 : Hid (y2.ownsRow w.heap.size 3 1 v2 (gs.take (m + 1)).flatten.length ((gs.take (m + 1)).flatten.map encZ)) := by
            show y2.ownsRow _ _ _ _ _ _
            rw [HFE.out, List.map_append, List.length_append, HB.out, HCL.out, HXS.out]
            exact ho2
          clear ho2 hg2
          go_wp2
          go_roundw
          case rel => exact ⟨m + 1, by omega, by go_num, OW2.out, hb2⟩
          case measure => simp [intOf]; omega
        · obtain rfl : m = n := by omega
          have HFN : Hid (wr.ownsRow w.heap.size 3 1 u6 gs.flatten.length (gs.flatten.map encZ)) := by
            have h' := OW.out
            rw [HTA.out] at h'
            exact h'
          go_wp2
          go_ret
          exact ⟨_, rfl, HFN.out, hb⟩
end Go.Proofs.YtniipgaacdpncaaGreatDoor
