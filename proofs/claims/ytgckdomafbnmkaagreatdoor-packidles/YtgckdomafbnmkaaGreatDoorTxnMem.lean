/-
  A change in memory: its block, the lists of its own; what holds of it when other blocks turn.
-/
import Derived.Lib.AppendZerosOnto
import Derived.Test.YtgckdomafbnmkaaGreatDoorScanDl
namespace Go.Proofs.YtgckdomafbnmkaaGreatDoor
open Go.RowKit Go.Extern.Stop Go.Stop Go.Extern Go.Sort Go.Shelf Go.Lib

theorem own_flat {W : World} {base : Nat} {e : TypeId} {size : Nat} {v : Value} {n : Nat} {xs : List Value} (h : W.ownsRow base e size v n xs) : ∃ q c, v = .slice q n c := by
  rcases h.2 with ⟨rfl, rfl⟩ | ⟨g, cap, cur, rfl, _⟩
  · exact ⟨none, 0, rfl⟩
  · exact ⟨_, _, rfl⟩

set_option maxRecDepth 100000 in
set_option maxHeartbeats 2000000 in
theorem growF_any (n : Nat) (w : World) (hn : n ≤ 100000) :
    Calls Tryz.prog 120 #[.slice none 0 0, .int .i64 n] w fun e w' => ∃ v', e = .returned v' ∧ w'.ownsRow w.heap.size 43 6 v' 0 [] ∧ Below w.heap.size w w' := by
  obtain ⟨i0, hi0, hz0, hs0, hby0⟩ := Tryz.fileInfo
  by_cases h0 : n = 0
  · subst h0
    go_enter Tryz.func120, Tryz.ntmps120
    go_wp2
    go_ret
    exact ⟨_, rfl, World.ownsRow_nil _ _ _ _, Below.refl _ _⟩
  · have h1 : ¬ ((n : Int) < 0) := by omega
    have h2 : (0 : Int) < (n : Int) := by omega
    have hold : (Builtin.firstCells i0.size 0 (.slice none 0 0)).run Tryz.prog w.drew = .ok ([] : List Value).toArray w.drew := run_firstCells_none w.drew i0.size 0 0 0
    have hrz : ∀ ty, (Builtin.append_ #[23, 3] ty #[.slice none 0 0, .int .i64 (n : Int)]).run Tryz.prog w = .ok (.slice (some ⟨w.heap.size, 0, none⟩) n (grownCap w n 0 43)) (w.drew.alloc (.cells (([] : List Value).toArray ++ Builtin.zeroCells (Value.cells (.agg #[.string ⟨#[]⟩, .string ⟨#[]⟩, .int .i64 0, .int .i64 0, .int .i64 0, .int .i64 0])) n ++ Builtin.zeroCells (Value.cells (.agg #[.string ⟨#[]⟩, .string ⟨#[]⟩, .int .i64 0, .int .i64 0, .int .i64 0, .int .i64 0])) (grownCap w n 0 43 - n)) 43)) := fun ty => by
      have h := Lib.run_append_grow_zeros w 23 3 ty 43 i0 _ .i64 .i64 Tryz.underlying23 Tryz.underlying3 hi0 hz0 none 0 0 [] hold n (by omega) (by omega) (by omega) (by omega) (by rw [hby0]; omega) (by rw [Nat.zero_add, hby0]; exact growslice_fits (by omega) (by omega))
      rw [Nat.zero_add] at h
      exact h
    have hGn : n ≤ grownCap w n 0 43 := grownCap_ge w _ _ _
    have hGm : grownCap w n 0 43 ≤ maxLen := grownCap_le_maxLen w n 0 43 (by unfold maxLen; omega)
    have hW : Below w.heap.size w (w.drew.alloc (.cells (([] : List Value).toArray ++ Builtin.zeroCells (Value.cells (.agg #[.string ⟨#[]⟩, .string ⟨#[]⟩, .int .i64 0, .int .i64 0, .int .i64 0, .int .i64 0])) n ++ Builtin.zeroCells (Value.cells (.agg #[.string ⟨#[]⟩, .string ⟨#[]⟩, .int .i64 0, .int .i64 0, .int .i64 0, .int .i64 0])) (grownCap w n 0 43 - n)) 43)) := (Below.refl _ _).drew.alloc (Nat.le_refl _) _
    have hOW : (w.drew.alloc (.cells (([] : List Value).toArray ++ Builtin.zeroCells (Value.cells (.agg #[.string ⟨#[]⟩, .string ⟨#[]⟩, .int .i64 0, .int .i64 0, .int .i64 0, .int .i64 0])) n ++ Builtin.zeroCells (Value.cells (.agg #[.string ⟨#[]⟩, .string ⟨#[]⟩, .int .i64 0, .int .i64 0, .int .i64 0, .int .i64 0])) (grownCap w n 0 43 - n)) 43)).ownsRow w.heap.size 43 6 (.slice (some ⟨w.heap.size, 0, none⟩) 0 (grownCap w n 0 43)) 0 [] := by
      refine ⟨rfl, Or.inr ⟨w.heap.size, _, _, rfl, Nat.le_refl _, heap_alloc_new w.drew _, Nat.zero_le _, hGm, ?_, by simp⟩⟩
      have hzc : ∀ k, (Builtin.zeroCells (Value.cells (.agg #[.string ⟨#[]⟩, .string ⟨#[]⟩, .int .i64 0, .int .i64 0, .int .i64 0, .int .i64 0])) k).size = k * 6 := fun k => by
        rw [size_zeroCells]; rfl
      simp only [Array.size_append, hzc]
      simp
      omega
    generalize w.drew.alloc (.cells (([] : List Value).toArray ++ Builtin.zeroCells (Value.cells (.agg #[.string ⟨#[]⟩, .string ⟨#[]⟩, .int .i64 0, .int .i64 0, .int .i64 0, .int .i64 0])) n ++ Builtin.zeroCells (Value.cells (.agg #[.string ⟨#[]⟩, .string ⟨#[]⟩, .int .i64 0, .int .i64 0, .int .i64 0, .int .i64 0])) (grownCap w n 0 43 - n)) 43) = W1 at hrz hW hOW
    generalize grownCap w n 0 43 = G at hrz hOW hGn
    clear hold hGm
    go_enter Tryz.func120, Tryz.ntmps120
    go_wp2_with (at_builtin; refine Lib.wpList_append_run _ rfl _ _ _ _ rfl _ _ rfl rfl _ _ (hrz _) ?_)
    all_goals
      go_ret
      exact ⟨_, rfl, hOW, hW⟩

def PartsAt (w : World) (b : Nat) (gs : List (List Fl)) : Prop := ∀ j (h : j < gs.length), ∃ q c, w.cell? ⟨b, j, none⟩ = some (.slice q gs[j].length c) ∧ FlsAt w (.slice q gs[j].length c) gs[j]

theorem PartsAt.below {w w' : World} {b : Nat} {gs : List (List Fl)} (h : PartsAt w b gs) (hb : Below w.heap.size w w') : PartsAt w' b gs := fun j hj => by
  obtain ⟨q, c, h1, h2⟩ := h j hj
  exact ⟨q, c, below_keep hb h1, h2.below hb⟩

theorem flat_len_take (gs : List (List Fl)) (n : Nat) (h : n < gs.length) : (gs.take (n + 1)).flatten = (gs.take n).flatten ++ gs[n] := by
  rw [← List.take_append_getElem h, List.flatten_append]
  simp

theorem flat_len_le (gs : List (List Fl)) (n : Nat) : (gs.take n).flatten.length ≤ gs.flatten.length := by
  conv => rhs; rw [← List.take_append_drop n gs, List.flatten_append, List.length_append]
  omega

set_option maxRecDepth 100000 in
set_option maxHeartbeats 4000000 in
theorem concatF_any (b : Nat) (gs : List (List Fl)) (w : World) (hp : PartsAt w b gs) (hk : gs.length ≤ 10) (hl : gs.flatten.length ≤ 1000) :
    Calls Tryz.prog 70 #[.slice (some ⟨b, 0, none⟩) gs.length gs.length] w fun e w' => ∃ v', e = .returned v' ∧ FlsAt w' v' gs.flatten ∧ Below w.heap.size w w' := by
  obtain ⟨i0, hi0, hz0, hs0, hby0⟩ := Tryz.fileInfo
  have HP : Hid (∀ W, Below w.heap.size w W → PartsAt W b gs) := fun W hb => hp.below hb
  have HLE : Hid (∀ n, (gs.take n).flatten.length ≤ 1000) := fun n => Nat.le_trans (flat_len_le gs n) hl
  obtain ⟨K, hK⟩ : ∃ K, gs.length = K := ⟨_, rfl⟩
  have HK : Hid (gs.length = K) := hK
  rw [hK] at hk ⊢
  clear hK hp hl
  go_enter Tryz.func70, Tryz.ntmps70
  go_wp2
  go_loop [3, 11] (fun s k => ∃ n : Nat, n ≤ K ∧ s = .int .i64 (gs.take n).flatten.length ∧ k = .int .i64 n) (fun _ k => K - (intOf k).toNat)
  case atStart => exact ⟨0, by omega, rfl, rfl⟩
  case round =>
    obtain ⟨n, hn, rfl, rfl⟩ := hrel
    have h1 := HLE.out n
    have h2 := HLE.out (n + 1)
    by_cases hlt : n < K
    · have hltx : n < gs.length := by rw [HK.out]; exact hlt
      obtain ⟨q, c, hc, -⟩ := HP.out w (Below.refl _ _) n hltx
      have hf := congrArg List.length (flat_len_take gs n hltx)
      rw [List.length_append] at hf
      have hi : (n : Int) < (K : Int) := by omega
      have hi0' : (0 : Int) ≤ (n : Int) := by omega
      have HF : Hid ((gs.take (n + 1)).flatten.length = (gs.take n).flatten.length + gs[n].length) := hf
      generalize (gs.take n).flatten.length = A at h1 HF ⊢
      generalize gs[n].length = B at hc HF
      have hAB : A + B ≤ 1000 := by rw [← HF.out]; exact h2
      have hneg : ¬ ((A : Int) + (B : Int) < 0) := by omega
      clear hf hltx h1 h2
      go_wp2
      go_round
      case rel => exact ⟨n + 1, by omega, by rw [HF.out]; go_num, by go_num⟩
      case measure => simp [intOf]; omega
    · obtain rfl : n = K := by omega
      have hta : gs.take n = gs := List.take_of_length_le (by rw [HK.out]; exact Nat.le_refl _)
      have HTA : Hid (gs.take n = gs) := hta
      have hgr := growF_any (gs.take n).flatten.length w (by omega)
      clear h2
      generalize (gs.take n).flatten.length = S at h1 hgr ⊢
      go_wp2_with fail
      refine hgr.mono ?_
      rintro e w1 ⟨v1, rfl, ho1, hb1⟩
      clear hgr hta
      obtain ⟨q1, c1, rfl⟩ := own_flat ho1
      have OW1 : Hid (w1.ownsRow w.heap.size 43 6 (.slice q1 0 c1) (gs.take 0).flatten.length (flatF (gs.take 0).flatten)) := by
        show w1.ownsRow _ _ _ _ _ _
        simpa [flatF] using ho1
      clear ho1
      go_wp2
      go_loopw [6, 27] (fun v k wr => ∃ m : Nat, m ≤ n ∧ k = .int .i64 m ∧ wr.ownsRow w.heap.size 43 6 v (gs.take m).flatten.length (flatF (gs.take m).flatten) ∧ Below w.heap.size w wr) (fun _ k _ => n - (intOf k).toNat)
      case atStart => exact ⟨0, by omega, rfl, OW1.out, hb1⟩
      case round =>
        clear OW1 hb1
        obtain ⟨m, hm, rfl, hown, hb⟩ := hrel
        have OW : Hid (wr.ownsRow w.heap.size 43 6 u6 (gs.take m).flatten.length (flatF (gs.take m).flatten)) := hown
        clear hown
        have g1 := HLE.out m
        have g2 := HLE.out (m + 1)
        by_cases hmt : m < n
        · have hmx : m < gs.length := by rw [HK.out]; exact hmt
          obtain ⟨q, c, hc, hfl⟩ := HP.out wr hb m hmx
          have hf := congrArg List.length (flat_len_take gs m hmx)
          rw [List.length_append] at hf
          have HFE : Hid ((gs.take (m + 1)).flatten = (gs.take m).flatten ++ gs[m]) := flat_len_take gs m hmx
          have HSR : Hid (Src wr q gs[m].length c (flatF gs[m])) := src_fls hfl
          have hi : (m : Int) < (n : Int) := by omega
          have hi0' : (0 : Int) ≤ (m : Int) := by omega
          obtain ⟨g, hg⟩ : ∃ g, gs[m] = g := ⟨_, rfl⟩
          rw [hg] at hc hf HFE HSR
          clear hfl hg hmx
          obtain ⟨B, hB⟩ : ∃ B, g.length = B := ⟨_, rfl⟩
          have HB : Hid (g.length = B) := hB
          rw [hB] at hc hf HSR
          clear hB
          obtain ⟨C, hC⟩ : ∃ C, (gs.take m).flatten.length = C := ⟨_, rfl⟩
          have HCL : Hid ((gs.take m).flatten.length = C) := hC
          rw [hC] at g1 hf OW
          clear hC
          go_wp2_with (at_builtin; (refine wpList_append_src rfl _ _ 23 rfl w.heap.size 43 i0 (.agg #[.string ⟨#[]⟩, .string ⟨#[]⟩, .int .i64 0, .int .i64 0, .int .i64 0, .int .i64 0]) 6 64 Tryz.underlying23 hi0 hz0 hs0 hby0 rfl (by decide) u6 C (flatF (gs.take m).flatten) rfl ?a0 q B c (flatF g) rfl ?a1 ?a2 ?a3 ?a4 ?a5 ?a6 ?_))
          case a0 => exact OW.out
          case a1 => rw [flatF_len, HB.out]
          case a2 => exact HSR.out
          case a3 => exact flatF_one _
          case a4 => unfold maxLen; omega
          case a5 => omega
          case a6 => exact hb.size
          intro v2 y2 ho2 hg2 _
          have hb2 : Below w.heap.size w y2 := hb.grown hg2 hb.size (fun k hk => by
            rcases OW.out.2 with ⟨e, _⟩ | ⟨g', cap', cur, e, hg', _⟩
            · rw [e] at hk; simp [Value.ownBlock] at hk
            · rw [e] at hk; simp [Value.ownBlock] at hk; omega)
          have OW2 : Hid (y2.ownsRow w.heap.size 43 6 v2 (gs.take (m + 1)).flatten.length (flatF (gs.take (m + 1)).flatten)) := by
            show y2.ownsRow _ _ _ _ _ _
            rw [HFE.out, flatF_append, List.length_append, HB.out, HCL.out]
            exact ho2
          clear ho2 hg2
          go_wp2
          go_roundw
          case rel => exact ⟨m + 1, by omega, by go_num, OW2.out, hb2⟩
          case measure => simp [intOf]; omega
        · obtain rfl : m = n := by omega
          have HFN : Hid (FlsAt wr u6 gs.flatten) := by
            have h' := (flsAt_of_own OW.out).1
            rw [HTA.out] at h'
            exact h'
          go_wp2
          go_ret
          exact ⟨_, rfl, HFN.out, hb⟩
end Go.Proofs.YtgckdomafbnmkaaGreatDoor
namespace Go.Proofs.YtgckdomafbnmkaaGreatDoor
open Go.RowKit Go.Extern.Stop Go.Stop Go.Extern Go.Sort Go.Shelf Go.Lib

theorem rem_cases (fs : List Fl) (p : ByteArray) : ((listE fs).1 ≠ 0 → remE fs p = listE fs ∧ remL fs p = []) ∧ ((listE fs).1 = 0 → (findF fs p < 0 → remE fs p = (6, none) ∧ remL fs p = []) ∧ (¬ findF fs p < 0 → remE fs p = (0, none) ∧ remL fs p = fs.filter (offP p))) := by
  refine ⟨fun h1 => ?_, fun h1 => ⟨fun h2 => ?_, fun h2 => ?_⟩⟩
  · have e : remE fs p = listE fs := by unfold remE; rw [if_pos h1]
    exact ⟨e, by unfold remL; rw [e, if_neg h1]⟩
  · have e : remE fs p = (6, none) := by unfold remE; rw [if_neg (by simpa using h1), if_pos h2]
    exact ⟨e, by unfold remL; rw [e]; rfl⟩
  · have e : remE fs p = (0, none) := by unfold remE; rw [if_neg (by simpa using h1), if_neg h2]
    exact ⟨e, by unfold remL; rw [e]; rfl⟩

theorem found_out {fs : List Fl} {p : ByteArray} (hr : Rises 0 fs) (h : ¬ findF fs p < 0) : ∃ n, n < fs.length ∧ findF fs p = n ∧ [fs.take n, fs.drop (n + 1)].flatten = fs.filter (offP p) := by
  have hex : ∃ n, ∃ hn : n < fs.length, fs[n].1 = p := Classical.byContradiction fun hno => by
    rw [findF_no (fun j hj e => hno ⟨j, hj, e⟩)] at h
    omega
  obtain ⟨n, hn, e⟩ := hex
  have hfirst : findF fs p = n := findF_at hn (fun j hj hjn e' => by
    have := rises_path hr hj hn (e'.trans e.symm)
    omega) e
  refine ⟨n, hn, hfirst, ?_⟩
  have hb := (place_back hr hn).1
  rw [e] at hb
  have e2 : fs.filter (offP p) = fs.filter (fun g => decide (g.1 ≠ p)) := rfl
  rw [e2, hb, List.eraseIdx_eq_take_drop_succ]
  simp

set_option maxRecDepth 100000 in
set_option maxHeartbeats 8000000 in
theorem lremove_any (v : Value) (fs : List Fl) (p : ByteArray) (w : World) (a : Nat → Addr) (h : EnvL w a) (hx : FlsAt w v fs) (hl : fs.length ≤ 100) (hsz : Short fs) :
    Calls Tryz.prog 28 #[v, .string p] w fun e w' => ∃ v' ev, e = .returned (.tuple #[v', ev]) ∧ FlsAt w' v' (remL fs p) ∧ ToldE w' a ev (remE fs p) ∧ Below w.heap.size w w' := by
  obtain ⟨q, cap, rfl⟩ := hx.form
  have hck := lcheck_any (.slice q fs.length cap) fs w a h hx hl hsz
  have hfd := fun W (hb : Below w.heap.size w W) => find_any (.slice q fs.length cap) fs p W (hx.below hb) (by omega)
  have HFX : Hid (FlsAt w (.slice q fs.length cap) fs) := hx
  have HEN : Hid (∀ W, Below w.heap.size w W → EnvL W a) := fun W hb => h.below hb
  have HFO : Hid ((listE fs).1 = 0 → ¬ findF fs p < 0 → ∃ n, n < fs.length ∧ findF fs p = n ∧ [fs.take n, fs.drop (n + 1)].flatten = fs.filter (offP p)) := fun h1 h2 => found_out (listE_ok.1 h1).2 h2
  obtain ⟨L, hL⟩ : ∃ L, fs.length = L := ⟨_, rfl⟩
  have HX : Hid (fs.length = L) := hL
  have hAC := rem_cases fs p
  generalize remE fs p = AE at hAC ⊢
  generalize remL fs p = AL at hAC ⊢
  rw [hL] at hl hck hfd ⊢
  clear hL hx hsz
  generalize listE fs = R at hck HFO hAC
  generalize findF fs p = FF at hfd HFO hAC
  generalize fs.filter (offP p) = PL at HFO hAC
  by_cases hR : R.1 = 0
  · replace hAC := hAC.2 hR
    have HF2 := HFO.out hR
    by_cases hF : FF < 0
    · obtain ⟨rfl, rfl⟩ := hAC.1 hF
      clear HF2 HFO hAC
      go_enter Tryz.func28, Tryz.ntmps28
      go_wp2_with fail
      refine hck.mono ?_
      rintro e w1 ⟨ev, rfl, ht, hb1⟩
      clear hck
      obtain rfl := ht.ok hR
      have hf1 := hfd w1 hb1
      clear hfd ht
      go_wp2_with fail
      refine hf1.mono ?_
      rintro e w2 ⟨rfl, hb2⟩
      clear hf1
      have hB2 : Below w.heap.size w w2 := hb1.trans (hb2.mono hb1.size)
      have he := (HEN.out w2 hB2).miss
      go_wp2
      go_quiet (fail)
      go_wp2
      go_ret2
      exact ⟨_, _, rfl, Or.inl ⟨none, 0, rfl, fun _ => rfl, rfl⟩, rfl, below_drewN hB2 nq⟩
    · obtain ⟨rfl, rfl⟩ := hAC.2 hF
      clear hAC
      obtain ⟨n, hn, rfl, hfl⟩ := HF2 hF
      have HFL : Hid ([fs.take n, fs.drop (n + 1)].flatten = AL) := hfl
      clear HFO hfl
      have hnL : n < L := by rw [HX.out] at hn; exact hn
      obtain ⟨b, o, hq, hcs⟩ := HFX.out.cells (fun e => by rw [e] at hn; simp at hn)
      have hcap : L ≤ cap := by
        have := HFX.out.room.2 (fun e => by rw [e] at hn; simp at hn)
        rw [HX.out] at this
        exact this
      subst hq
      go_enter Tryz.func28, Tryz.ntmps28
      go_wp2_with fail
      refine hck.mono ?_
      rintro e w1 ⟨ev, rfl, ht, hb1⟩
      clear hck
      obtain rfl := ht.ok hR
      have hf1 := hfd w1 hb1
      clear hfd ht
      go_wp2_with fail
      refine hf1.mono ?_
      rintro e w3 ⟨rfl, hb2⟩
      clear hf1
      have hB3 : Below w.heap.size w w3 := hb1.trans (hb2.mono hb1.size)
      have HCC : Hid (∀ (V3 : Value), (∀ W, Below w.heap.size w W → FlsAt W V3 (fs.drop (n + 1))) → ∀ Y : World, Below w.heap.size w Y → Y.heap = (w3.alloc (.cells #[.slice (some ⟨b, o, none⟩) n cap, V3] 23)).heap →           Calls Tryz.prog 70 #[.slice (some ⟨w3.heap.size, 0, none⟩) 2 2] Y fun e w' => ∃ v', e = .returned v' ∧ FlsAt w' v' AL ∧ Below Y.heap.size Y w') := fun V3 g3 Y hbY hY => by
        have hc2 : Y.heap[w3.heap.size]? = some (.cells #[.slice (some ⟨b, o, none⟩) n cap, V3] 23 (0, 0)) := by
          rw [hY]
          exact heap_alloc_new w3 _
        have k1 : FlsAt Y (.slice (some ⟨b, o, none⟩) n cap) (fs.take n) := flsAt_take (hcs.below hbY) (by rw [HX.out]; omega) (by rw [HX.out]; exact hcap)
        have k3 := g3 Y hbY
        have e1 : (fs.take n).length = n := by rw [List.length_take, HX.out]; omega
        obtain ⟨q3, c3, e3⟩ := k3.form
        have h' := concatF_any w3.heap.size [fs.take n, fs.drop (n + 1)] Y (fun j hj => by
          obtain rfl | rfl : j = 0 ∨ j = 1 := by simp at hj; omega
          · exact ⟨some ⟨b, o, none⟩, cap, by rw [cell_of_row _ _ _ _ _ _ hc2]; show some _ = some _; rw [show [fs.take n, fs.drop (n + 1)][0].length = n from e1]; rfl, by rw [show [fs.take n, fs.drop (n + 1)][0].length = n from e1]; exact k1⟩
          · exact ⟨q3, c3, by rw [cell_of_row _ _ _ _ _ _ hc2]; exact congrArg some e3, by rw [e3] at k3; exact k3⟩) (by simp) (by have := HX.out; simp; omega)
        rw [HFL.out] at h'
        exact h'
      have i0 : ¬ (n : Int) < 0 := by omega
      have i1 : (0 : Int) ≤ (n : Int) := by omega
      have i2 : (n : Int) + 1 ≤ (L : Int) := by omega
      have i3 : (n : Int) ≤ (cap : Int) := by omega
      have i4 : (0 : Int) ≤ (n : Int) + 1 := by omega
      have i5 : (L : Int) ≤ (cap : Int) := by omega
      have i6 : IntKind.i64.wrap ((n : Int) + 1) = (n : Int) + 1 := IntWalk.i64_in _ (by omega)
      have i7 : ((n : Int) + 1).toNat = n + 1 := by omega
      clear hF HF2 hn hb1 hb2
      by_cases hcn : cap = n + 1
      · subst hcn
        obtain rfl : L = n + 1 := by omega
        have HC : Hid (∀ Y : World, Below w.heap.size w Y → Y.heap = (w3.alloc (.cells #[.slice (some ⟨b, o, none⟩) n (n + 1), .slice (some ⟨b, o, none⟩) 0 0] 23)).heap → Calls Tryz.prog 70 #[.slice (some ⟨w3.heap.size, 0, none⟩) 2 2] Y fun e w' => ∃ v', e = .returned v' ∧ FlsAt w' v' AL ∧ Below Y.heap.size Y w') := HCC.out (.slice (some ⟨b, o, none⟩) 0 0) (fun W hb => Or.inl ⟨some ⟨b, o, none⟩, 0, rfl, fun h => (nomatch h), List.drop_eq_nil_of_le (by rw [HX.out]; exact Nat.le_refl _)⟩)
        have hbB : Below w.heap.size w (w3.alloc (.cells #[.slice (some ⟨b, o, none⟩) n (n + 1), .slice (some ⟨b, o, none⟩) 0 0] 23)) := hB3.alloc hB3.size _
        have hcd := HC.out _ hbB.drew rfl
        clear HCC HC
        go_upto_region 7 with fail
        go_region_with (go_at_call 70; refine hcd.mono ?_; rintro e wX ⟨v', rfl, hfX, hbX⟩)
        all_goals
          have HFR : Hid (FlsAt wX v' AL) := hfX
          clear hfX
          go_wp2
          go_ret2
          exact ⟨_, _, rfl, HFR.out, rfl, hbB.drew.trans (hbX.mono hbB.drew.size)⟩
      · skip
        have HC : Hid (∀ Y : World, Below w.heap.size w Y → Y.heap = (w3.alloc (.cells #[.slice (some ⟨b, o, none⟩) n cap, .slice (some ⟨b, o + (n + 1) * 6, none⟩) (L - (n + 1)) (cap - (n + 1))] 23)).heap → Calls Tryz.prog 70 #[.slice (some ⟨w3.heap.size, 0, none⟩) 2 2] Y fun e w' => ∃ v', e = .returned v' ∧ FlsAt w' v' AL ∧ Below Y.heap.size Y w') := HCC.out (.slice (some ⟨b, o + (n + 1) * 6, none⟩) (L - (n + 1)) (cap - (n + 1))) (fun W hb => flsAt_drop (hcs.below hb) (by rw [HX.out]; omega) (by rw [HX.out]; omega) (by rw [HX.out]))
        have hbB : Below w.heap.size w (w3.alloc (.cells #[.slice (some ⟨b, o, none⟩) n cap, .slice (some ⟨b, o + (n + 1) * 6, none⟩) (L - (n + 1)) (cap - (n + 1))] 23)) := hB3.alloc hB3.size _
        have hcd := HC.out _ hbB.drew rfl
        clear HCC HC
        go_upto_region 7 with fail
        go_region_with (go_at_call 70; refine hcd.mono ?_; rintro e wX ⟨v', rfl, hfX, hbX⟩)
        all_goals
          have HFR : Hid (FlsAt wX v' AL) := hfX
          clear hfX
          go_wp2
          go_ret2
          exact ⟨_, _, rfl, HFR.out, rfl, hbB.drew.trans (hbX.mono hbB.drew.size)⟩
  · obtain ⟨rfl, rfl⟩ := hAC.1 hR
    clear hfd HFO hAC
    go_enter Tryz.func28, Tryz.ntmps28
    go_wp2_with fail
    refine hck.mono ?_
    rintro e w1 ⟨ev, rfl, ht, hb1⟩
    clear hck
    obtain ⟨t, u, rfl⟩ := ht.bad hR
    have HTT : Hid (ToldE w1 a (.iface t u) AE) := ht
    clear ht
    go_wp2
    go_ret2
    exact ⟨_, _, rfl, Or.inl ⟨none, 0, rfl, fun _ => rfl, rfl⟩, HTT.out, hb1⟩
end Go.Proofs.YtgckdomafbnmkaaGreatDoor
namespace Go.Proofs.YtgckdomafbnmkaaGreatDoor
open Go.RowKit Go.Extern.Stop Go.Stop Go.Extern Go.Sort Go.Shelf Go.Lib

def olderB (g f : Fl) : Bool := !goneP f.1 && decide (f.2.2.2.2.2 < g.2.2.2.2.2)
def idleB (fs : List Fl) (g : Fl) : Bool := goneP g.1 && !(fs.any (olderB g))
def idleL (fs : List Fl) : List ByteArray := (fs.filter (idleB fs)).map (·.1)

theorem idle_no {fs : List Fl} {x f : Fl} (h : idleB fs x = true) (hf : f ∈ fs) (hg : goneP f.1 = false) : ¬ f.2.2.2.2.2 < x.2.2.2.2.2 := by
  unfold idleB at h
  rw [Bool.and_eq_true, Bool.not_eq_true'] at h
  have h2 := List.any_eq_false.1 h.2 f hf
  unfold olderB at h2
  rw [hg] at h2
  simpa using h2

theorem add_idle {lo hi : Int} {fs : List Fl} {x : Fl} {text : ByteArray} {acc : List (Rw × Int)} (hx : idleB fs x = true) (hp : x.2.1.data.toList = [45]) (ha : ∀ p ∈ acc, ∃ f ∈ fs, goneP f.1 = false ∧ f.2.2.2.2.2 = p.2) : addS lo hi x text acc = acc := by
  rw [addS_gone hp, List.filter_eq_self]
  intro p hpm
  obtain ⟨f, hf, hg, e⟩ := ha p hpm
  have hn := idle_no hx hf hg
  rw [e] at hn
  rw [decide_eq_false hn, Bool.and_false]
  rfl

theorem add_from {lo hi : Int} {fs : List Fl} {x : Fl} {text : ByteArray} {acc : List (Rw × Int)} (hx : x ∈ fs) (hp : goneP x.1 = decide (x.2.1.data.toList = [45])) (ha : ∀ p ∈ acc, ∃ f ∈ fs, goneP f.1 = false ∧ f.2.2.2.2.2 = p.2) : ∀ p ∈ addS lo hi x text acc, ∃ f ∈ fs, goneP f.1 = false ∧ f.2.2.2.2.2 = p.2 := by
  intro p hpm
  by_cases hg : x.2.1.data.toList = [45]
  · rw [addS_gone hg] at hpm
    exact ha p (List.mem_filter.1 hpm).1
  · rw [addS_data hg, List.mem_append] at hpm
    rcases hpm with h | h
    · exact ha p h
    · obtain ⟨r, _, rfl⟩ := List.mem_map.1 h
      exact ⟨x, hx, by rw [hp, decide_eq_false hg], rfl⟩

theorem scan_idle {obs : List Ob} {lo hi : Int} {fs : List Fl} (hfs : ∀ f ∈ fs, fileE f = 0) : ∀ (gs : List Fl) (i j : Nat) (acc out : List (Rw × Int)), (∀ x ∈ gs, x ∈ fs) → (∀ p ∈ acc, ∃ f ∈ fs, goneP f.1 = false ∧ f.2.2.2.2.2 = p.2) → scanG obs lo hi gs i acc = (out, 0, none) → scanG obs lo hi (gs.filter fun g => !idleB fs g) j acc = (out, 0, none)
  | [], _, _, _, _, _, _, h => h
  | x :: r, i, j, acc, out, hs, ha, h => by
    have hr : ∀ y ∈ r, y ∈ fs := fun y hy => hs y (List.mem_cons_of_mem _ hy)
    have hxm : x ∈ fs := hs x List.mem_cons_self
    have hgp := gone_part (hfs x hxm)
    unfold scanG at h
    by_cases hp : inP lo hi x = false
    · rw [if_pos hp] at h
      by_cases hx : idleB fs x = true
      · rw [List.filter_cons_of_neg (by simp [hx])]
        exact scan_idle hfs r (i + 1) j acc out hr ha h
      · rw [List.filter_cons_of_pos (by simp [hx])]
        unfold scanG
        rw [if_pos hp]
        exact scan_idle hfs r (i + 1) (j + 1) acc out hr ha h
    · rw [if_neg hp] at h
      by_cases hb : (fileR obs x).1 ≠ 0
      · rw [if_pos hb] at h
        have e := congrArg (fun z => z.2.1) h
        exact absurd e hb
      · rw [if_neg hb] at h
        by_cases hx : idleB fs x = true
        · have hg : goneP x.1 = true := by
            unfold idleB at hx
            rw [Bool.and_eq_true] at hx
            exact hx.1
          rw [add_idle hx (of_decide_eq_true (hgp ▸ hg)) ha] at h
          rw [List.filter_cons_of_neg (by simp [hx])]
          exact scan_idle hfs r (i + 1) j acc out hr ha h
        · rw [List.filter_cons_of_pos (by simp [hx])]
          unfold scanG
          rw [if_neg hp, if_neg hb]
          exact scan_idle hfs r (i + 1) (j + 1) _ out hr (add_from hxm hgp ha) h

def snF (s : Sn) (fs : List Fl) : Sn := (s.1, s.2.1, s.2.2.1, s.2.2.2.1, s.2.2.2.2.1, s.2.2.2.2.2.1, fs)

theorem snap_sub {s : Sn} (h : (snapE s).1 = 0) (p : Fl → Bool) : (snapE (snF s (s.2.2.2.2.2.2.filter p))).1 = 0 := by
  obtain ⟨h1, h2, h3, h4⟩ := snap_fine.1 h
  refine snap_fine.2 ⟨h1, h2, ?_, fun f hf => h4 f (List.mem_filter.1 hf).1⟩
  obtain ⟨h5, h6⟩ := listE_ok.1 h3
  refine listE_ok.2 ⟨Nat.le_trans (List.length_filter_le _ _) h5, fun f hf => h6.1 f (List.mem_filter.1 hf).1, h6.2.sublist List.filter_sublist⟩

theorem idle_rows {obs : List Ob} {s : Sn} {lo hi : Int} (h : (rowsS obs s lo hi).2.1 = 0) : rowsS obs (snF s (s.2.2.2.2.2.2.filter fun g => !idleB s.2.2.2.2.2.2 g)) lo hi = rowsS obs s lo hi := by
  have he := (rows_ok h).1
  have hfs : ∀ f ∈ s.2.2.2.2.2.2, fileE f = 0 := fun f hf => ((snap_list he).2.1 f hf).1
  have hs := snap_sub he fun g => !idleB s.2.2.2.2.2.2 g
  have hg : (scanG obs lo hi s.2.2.2.2.2.2 0 []).2.1 = 0 := by
    unfold rowsS at h
    rw [if_neg (by simpa using he)] at h
    by_cases hb : (scanG obs lo hi s.2.2.2.2.2.2 0 []).2.1 ≠ 0
    · rw [if_pos hb] at h
      exact absurd h hb
    · simpa using hb
  have h1 := scan_idle hfs s.2.2.2.2.2.2 0 0 [] _ (fun _ hx => hx) (fun p hp => by cases hp) (scan_fine hg)
  have e : (snF s (s.2.2.2.2.2.2.filter fun g => !idleB s.2.2.2.2.2.2 g)).2.2.2.2.2.2 = s.2.2.2.2.2.2.filter fun g => !idleB s.2.2.2.2.2.2 g := rfl
  have a1 : rowsS obs s lo hi = (sortR ((scanG obs lo hi s.2.2.2.2.2.2 0 []).1.map (·.1)), 0, none) := by
    unfold rowsS
    rw [if_neg (by simpa using he), if_neg (by simpa using hg)]
  have a2 : rowsS obs (snF s (s.2.2.2.2.2.2.filter fun g => !idleB s.2.2.2.2.2.2 g)) lo hi = (sortR ((scanG obs lo hi s.2.2.2.2.2.2 0 []).1.map (·.1)), 0, none) := by
    unfold rowsS
    rw [if_neg (by simpa using hs), e, if_neg (by rw [h1]; simp), h1]
  rw [a1, a2]

theorem rises_one {fs : List Fl} (hr : Rises 0 fs) {f g : Fl} (hf : f ∈ fs) (hg : g ∈ fs) (e : f.1 = g.1) : f = g := by
  have ek : fk f = fk g := by unfold fk; rw [e]
  obtain ⟨i, hi, rfl⟩ := List.mem_iff_getElem.1 hf
  obtain ⟨j, hj, rfl⟩ := List.mem_iff_getElem.1 hg
  have hp := List.pairwise_iff_getElem.1 hr.2
  rcases Nat.lt_trichotomy i j with h | h | h
  · have := hp i j hi hj h
    omega
  · subst h
    rfl
  · have := hp j i hj hi h
    omega

def lessF (fs : List Fl) (ps : List ByteArray) (n : Nat) : List Fl := fs.filter fun f => !(ps.take n).any fun p => decide (f.1 = p)
theorem lessF_zero (fs : List Fl) (ps : List ByteArray) : lessF fs ps 0 = fs := by
  unfold lessF
  rw [List.filter_eq_self]
  intro f _
  rfl
theorem lessF_succ (fs : List Fl) {ps : List ByteArray} {n : Nat} (h : n < ps.length) : lessF fs ps (n + 1) = (lessF fs ps n).filter (offP ps[n]) := by
  unfold lessF
  rw [List.filter_filter]
  congr 1
  funext f
  rw [List.take_succ_eq_append_getElem h, List.any_append]
  unfold offP
  simp only [List.any_cons, List.any_nil, Bool.or_false, Bool.not_or]
  rw [Bool.and_comm]
  congr 1
  simp
theorem lessF_all {fs : List Fl} (hr : Rises 0 fs) : lessF fs (idleL fs) (idleL fs).length = fs.filter fun g => !idleB fs g := by
  unfold lessF
  rw [List.take_length]
  apply List.filter_congr
  intro f hf
  congr 1
  rw [Bool.eq_iff_iff, List.any_eq_true]
  constructor
  · rintro ⟨p, hp, e⟩
    unfold idleL at hp
    obtain ⟨g, hg, rfl⟩ := List.mem_map.1 hp
    obtain ⟨hgm, hgi⟩ := List.mem_filter.1 hg
    have e1 : f.1 = g.1 := of_decide_eq_true e
    have e2 : f = g := rises_one hr hf hgm e1
    rw [e2]
    exact hgi
  · intro h
    exact ⟨f.1, List.mem_map.2 ⟨f, List.mem_filter.2 ⟨hf, h⟩, rfl⟩, decide_eq_true rfl⟩
theorem less_sub (fs : List Fl) (ps : List ByteArray) (n : Nat) : (lessF fs ps n).Sublist fs := List.filter_sublist
end Go.Proofs.YtgckdomafbnmkaaGreatDoor
namespace Go.Proofs.YtgckdomafbnmkaaGreatDoor
open Go Go.Lib

def hasP (fs : List Fl) (p : ByteArray) : Bool := fs.any fun f => decide (f.1 = p)
theorem hasP_iff {fs : List Fl} {p : ByteArray} : hasP fs p = true ↔ ∃ f ∈ fs, f.1 = p := by simp [hasP]
theorem hasP_no {fs : List Fl} {p : ByteArray} : hasP fs p = false ↔ ∀ f ∈ fs, f.1 ≠ p := by
  simp [hasP]

theorem findF_has (fs : List Fl) (p : ByteArray) : decide (0 ≤ findF fs p) = hasP fs p := by
  by_cases h : ∃ f ∈ fs, f.1 = p
  · have hn : ∃ n, ∃ h : n < fs.length, fs[n].1 = p ∧ ∀ j (hj : j < fs.length), j < n → fs[j].1 ≠ p := by
      obtain ⟨f, hf, e⟩ := h
      obtain ⟨i, hi, rfl⟩ := List.mem_iff_getElem.1 hf
      clear hf
      induction i using Nat.strongRecOn with
      | ind i ih =>
        by_cases hh : ∃ j, ∃ hj : j < fs.length, j < i ∧ fs[j].1 = p
        · obtain ⟨j, hj, hji, ej⟩ := hh
          exact ih j hji hj ej
        · exact ⟨i, hi, e, fun j hj hji ej => hh ⟨j, hj, hji, ej⟩⟩
    obtain ⟨n, hn, e, hno⟩ := hn
    rw [findF_at hn hno e, hasP_iff.2 h]
    simp
  · have hno : ∀ f ∈ fs, f.1 ≠ p := fun f hf e => h ⟨f, hf, e⟩
    rw [findF_no (fun j hj => hno _ (List.getElem_mem hj)), hasP_no.2 hno]
    rfl

end Go.Proofs.YtgckdomafbnmkaaGreatDoor
namespace Go.Proofs.YtgckdomafbnmkaaGreatDoor
open Go.RowKit Go.Extern.Stop Go.Stop Go.Extern Go.Sort Go.Shelf Go.Lib

theorem But.grown {w w' : World} {row : Option Nat} (h : w.grownBy w' row) : But (fun k => row = some k) w w' := ⟨h.os, h.tape, h.output, h.size, fun k hk hn => h.block k hk (fun e => hn e.symm)⟩

theorem own_but {P : Nat → Prop} {w w' : World} {B : Nat} {e : TypeId} {z : Nat} {v : Value} {n : Nat} {xs : List Value} (h : w.ownsRow B e z v n xs) (hb : But P w w') (hp : ∀ k, v.ownBlock = some k → ¬ P k) : w'.ownsRow B e z v n xs := by
  refine ⟨h.1, ?_⟩
  rcases h.2 with h' | ⟨g, cap, cur, hv, hB, hg, rest⟩
  · exact Or.inl h'
  · exact Or.inr ⟨g, cap, cur, hv, hB, (hb.block g (lt_of_block hg) (hp g (by rw [hv]; rfl))).trans hg, rest⟩

def TsAt (w : World) (v : Value) (ts : List ByteArray) : Prop :=
  (v = .slice none 0 0 ∧ ts = []) ∨ ∃ b cap, v = .slice (some ⟨b, 0, none⟩) ts.length cap ∧ ts.length ≤ cap ∧ ∀ j (h : j < ts.length), w.cell? ⟨b, j, none⟩ = some (.string ts[j])

theorem TsAt.form {w : World} {v : Value} {ts : List ByteArray} (h : TsAt w v ts) : ∃ q c, v = .slice q ts.length c := by
  rcases h with ⟨rfl, rfl⟩ | ⟨b, cap, rfl, _⟩
  · exact ⟨_, _, rfl⟩
  · exact ⟨_, _, rfl⟩
theorem TsAt.below {w w' : World} {v : Value} {ts : List ByteArray} (h : TsAt w v ts) (hb : Below w.heap.size w w') : TsAt w' v ts := by
  rcases h with h | ⟨b, cap, hv, hl, hc⟩
  · exact Or.inl h
  · exact Or.inr ⟨b, cap, hv, hl, fun j hj => below_keep hb (hc j hj)⟩
theorem TsAt.cells {w : World} {q : Option Addr} {n c : Nat} {ts : List ByteArray} (h : TsAt w (.slice q n c) ts) (hne : ts ≠ []) : ∃ b, q = some ⟨b, 0, none⟩ ∧ ∀ j (h : j < ts.length), w.cell? ⟨b, j, none⟩ = some (.string ts[j]) := by
  rcases h with ⟨_, e⟩ | ⟨b, cap, e, _, hc⟩
  · exact absurd e hne
  · injection e with e1 e2 e3
    exact ⟨b, e1, hc⟩
theorem tsAt_own {w : World} {B : Nat} {v : Value} {ts : List ByteArray} (h : w.ownsRow B 9 1 v ts.length (ts.map Value.string)) : TsAt w v ts := by
  rcases h.2 with ⟨hv, hn⟩ | ⟨g, cap, cur, hv, _, hg, hc, _, _, ht⟩
  · exact Or.inl ⟨hv, List.length_eq_zero_iff.1 hn⟩
  · refine Or.inr ⟨g, cap, hv, hc, fun j hj => ?_⟩
    rw [cell_of_row _ _ _ _ _ _ hg]
    have e : (cur.toList.take (ts.length * 1))[j]? = (ts.map Value.string)[j]? := by rw [ht]
    rw [List.getElem?_take, if_pos (by omega), Array.getElem?_toList] at e
    rw [e]
    simp [hj]

theorem own_blk {w : World} {B : Nat} {e : TypeId} {z : Nat} {v : Value} {n : Nat} {xs : List Value} (h : w.ownsRow B e z v n xs) {k : Nat} (hk : v.ownBlock = some k) : B ≤ k ∧ k < w.heap.size ∧ ∃ cur, w.heap[k]? = some (.cells cur e (0, 0)) := by
  rcases h.2 with ⟨rfl, _⟩ | ⟨g, cap, cur, rfl, hB, hg, _⟩
  · simp [Value.ownBlock] at hk
  · simp only [Value.ownBlock, Option.some.injEq] at hk
    subst hk
    exact ⟨hB, lt_of_block hg, cur, hg⟩

end Go.Proofs.YtgckdomafbnmkaaGreatDoor
