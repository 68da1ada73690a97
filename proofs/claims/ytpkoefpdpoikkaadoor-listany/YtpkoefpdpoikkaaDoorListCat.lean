/-
  The contracts of slices.Grow (of nothing) and slices.Concat, at files.
-/
import Derived.Test.YtpkoefpdpoikkaaDoorListOrd
import Derived.Lib.AppendZerosOnto
namespace Go.Proofs.YtpkoefpdpoikkaaDoor
open Go.RowKit Go.Extern.Stop Go.Stop Go.Extern Go.Sort Go.Shelf Go.Lib

set_option maxRecDepth 100000 in
set_option maxHeartbeats 1000000 in
theorem find1_any (f : Fl) (p : ByteArray) (pb : Nat) (w : World) (hp : w.cell? ⟨pb, 0, none⟩ = some (.string p)) :
    Calls Tryd.prog 20 #[flV f, .pointer (some ⟨pb, 0, none⟩)] w fun e w' => e = .returned (.bool (decide (f.1 = p))) ∧ Below w.heap.size w w' := by
  have hal : Below w.heap.size w (w.alloc (.cells #[.string f.1, .string f.2.1, .int .i64 f.2.2.1, .int .i64 f.2.2.2.1, .int .i64 f.2.2.2.2.1, .int .i64 f.2.2.2.2.2] 32)) := (Below.refl _ _).alloc (Nat.le_refl _) _
  have z0 := (FlAt.new w f).cells.1
  have hp2 := below_keep hal hp
  unfold flV
  obtain ⟨fp, fq, fn, flo, fhi, fseq⟩ := f
  dsimp only at hal z0 hp2 ⊢
  by_cases he : fp = p
  · subst he
    have d1 : (fp.toList == fp.toList) = true := by simp
    rw [decide_eq_true rfl]
    go_enter Tryd.func20, Tryd.ntmps20
    go_upto_region 1 with fail
    generalize w.alloc (.cells #[.string fp, .string fq, .int .i64 fn, .int .i64 flo, .int .i64 fhi, .int .i64 fseq] 32) = WA at hal z0 hp2 ⊢
    go_wp2
    go_ret
    exact ⟨rfl, hal⟩
  · have d1 : (fp.toList == p.toList) = false := neBB (fun e => he (part_ext e))
    rw [decide_eq_false he]
    go_enter Tryd.func20, Tryd.ntmps20
    go_upto_region 1 with fail
    generalize w.alloc (.cells #[.string fp, .string fq, .int .i64 fn, .int .i64 flo, .int .i64 fhi, .int .i64 fseq] 32) = WA at hal z0 hp2 ⊢
    go_wp2
    go_ret
    exact ⟨rfl, hal⟩

set_option maxRecDepth 100000 in
set_option maxHeartbeats 4000000 in
theorem indexF_any (v : Value) (fs : List Fl) (p : ByteArray) (pb : Nat) (w : World) (hx : FlsAt w v fs) (hl : fs.length ≤ 20000) (hp : w.cell? ⟨pb, 0, none⟩ = some (.string p)) :
    Calls Tryd.prog 19 #[v, .func (.func 20) #[] #[.pointer (some ⟨pb, 0, none⟩)]] w fun e w' => e = .returned (.int .i64 (findF fs p)) ∧ Below w.heap.size w w' := by
  have eg : ∀ args w, (callFunc 20 args).run Tryd.prog w = .ok (.enter 20 args) w := enters_of Tryd.func20 (by kernel_rfl) rfl
  obtain ⟨q, cap, rfl⟩ := hx.form
  have HFX : Hid (FlsAt w (.slice q fs.length cap) fs) := hx
  have HP : Hid (∀ W, Below w.heap.size w W → W.cell? ⟨pb, 0, none⟩ = some (.string p)) := fun W hb => below_keep hb hp
  obtain ⟨L, hL⟩ : ∃ L, fs.length = L := ⟨_, rfl⟩
  have HX : Hid (fs.length = L) := hL
  rw [hL] at hl ⊢
  generalize hR : findF fs p = R
  have HR : Hid (findF fs p = R) := hR
  clear hL hx hR hp
  go_enter Tryd.func19, Tryd.ntmps19
  go_wp2
  go_loopw [8] (fun k wr => ∃ n : Nat, n ≤ L ∧ k = .int .i64 n ∧ (∀ j (h : j < fs.length), j < n → fs[j].1 ≠ p) ∧ Below w.heap.size w wr) (fun k _ => L - (intOf k).toNat)
  case atStart => exact ⟨0, by omega, rfl, fun j h h' => absurd h' (Nat.not_lt_zero _), Below.refl _ _⟩
  case round =>
    obtain ⟨n, hn, rfl, hno, hb⟩ := hrel
    have HNO : Hid (∀ j (h : j < fs.length), j < n → fs[j].1 ≠ p) := hno
    clear hno
    by_cases hlt : n < L
    · have hltx : n < fs.length := by rw [HX.out]; exact hlt
      obtain ⟨b, o, hq, hc⟩ := (HFX.out.below hb).cells (fun e => by rw [e] at hltx; simp at hltx)
      subst hq
      obtain ⟨c0, c1, c2, c3, c4, c5⟩ := hc n hltx
      have hcl := find1_any fs[n] p pb wr (HP.out wr hb)
      have hi : (n : Int) < (L : Int) := by omega
      have hi0' : (0 : Int) ≤ (n : Int) := by omega
      by_cases he : fs[n].1 = p
      · have hRR : R = n := by rw [← HR.out]; exact findF_at hltx HNO.out he
        subst hRR
        rw [decide_eq_true he] at hcl
        unfold flV at hcl
        clear hc he
        generalize fs[n] = f at c0 c1 c2 c3 c4 c5 hcl
        clear hltx
        obtain ⟨fp, fq, fn, flo, fhi, fseq⟩ := f
        dsimp only at c0 c1 c2 c3 c4 c5 hcl
        go_wp2_with (go_at_fn 20; refine hcl.mono ?_; rintro e w2 ⟨rfl, hb2⟩)
        go_ret
        exact ⟨rfl, hb.trans (hb2.mono hb.size)⟩
      · have HN1 : Hid (∀ j (h : j < fs.length), j < n + 1 → fs[j].1 ≠ p) := nopath_succ HNO.out hltx he
        rw [decide_eq_false he] at hcl
        unfold flV at hcl
        clear hc he
        generalize fs[n] = f at c0 c1 c2 c3 c4 c5 hcl
        clear hltx
        obtain ⟨fp, fq, fn, flo, fhi, fseq⟩ := f
        dsimp only at c0 c1 c2 c3 c4 c5 hcl
        go_wp2_with (go_at_fn 20; refine hcl.mono ?_; rintro e w2 ⟨rfl, hb2⟩)
        have hb3 : Below w.heap.size w w2 := hb.trans (hb2.mono hb.size)
        go_roundw
        case rel => exact ⟨n + 1, by omega, by go_num, HN1.out, hb3⟩
        case measure => simp [intOf]; omega
    · obtain rfl : n = L := by omega
      have hRR : R = -1 := by rw [← HR.out]; exact findF_no (fun j hj => HNO.out j hj (by rw [← HX.out]; exact hj))
      subst hRR
      go_wp2
      go_ret
      exact ⟨rfl, hb⟩

set_option maxRecDepth 100000 in
set_option maxHeartbeats 1000000 in
theorem find_any (v : Value) (fs : List Fl) (p : ByteArray) (w : World) (hx : FlsAt w v fs) (hl : fs.length ≤ 20000) :
    Calls Tryd.prog 11 #[v, .string p] w fun e w' => e = .returned (.int .i64 (findF fs p)) ∧ Below w.heap.size w w' := by
  have hal : Below w.heap.size w (w.alloc (.cells #[.string p] 9)) := (Below.refl _ _).alloc (Nat.le_refl _) _
  have hix := indexF_any v fs p w.heap.size (w.alloc (.cells #[.string p] 9)) (hx.below hal) hl (by simp)
  obtain ⟨q, cap, rfl⟩ := hx.form
  generalize fs.length = L at hix ⊢
  clear hx
  go_enter Tryd.func11, Tryd.ntmps11
  go_wp2_with fail
  refine hix.mono ?_
  rintro e w1 ⟨rfl, hb1⟩
  clear hix
  go_wp2
  go_ret
  exact ⟨rfl, hal.trans (hb1.mono hal.size)⟩
end Go.Proofs.YtpkoefpdpoikkaaDoor
namespace Go.Proofs.YtpkoefpdpoikkaaDoor
open Go.RowKit Go.Extern.Stop Go.Stop Go.Extern Go.Sort Go.Shelf Go.Lib

theorem own_flat {W : World} {base : Nat} {e : TypeId} {size : Nat} {v : Value} {n : Nat} {xs : List Value} (h : W.ownsRow base e size v n xs) : ∃ q c, v = .slice q n c := by
  rcases h.2 with ⟨rfl, rfl⟩ | ⟨g, cap, cur, rfl, _⟩
  · exact ⟨none, 0, rfl⟩
  · exact ⟨_, _, rfl⟩

set_option maxRecDepth 100000 in
set_option maxHeartbeats 2000000 in
theorem growF_any (n : Nat) (w : World) (hn : n ≤ 100000) :
    Calls Tryd.prog 31 #[.slice none 0 0, .int .i64 n] w fun e w' => ∃ v', e = .returned v' ∧ w'.ownsRow w.heap.size 32 6 v' 0 [] ∧ Below w.heap.size w w' := by
  obtain ⟨i0, hi0, hz0, hs0, hby0⟩ := Tryd.fileInfo
  by_cases h0 : n = 0
  · subst h0
    go_enter Tryd.func31, Tryd.ntmps31
    go_wp2
    go_ret
    exact ⟨_, rfl, World.ownsRow_nil _ _ _ _, Below.refl _ _⟩
  · have h1 : ¬ ((n : Int) < 0) := by omega
    have h2 : (0 : Int) < (n : Int) := by omega
    have hold : (Builtin.firstCells i0.size 0 (.slice none 0 0)).run Tryd.prog w.drew = .ok ([] : List Value).toArray w.drew := run_firstCells_none w.drew i0.size 0 0 0
    have hrz : ∀ ty, (Builtin.append_ #[22, 3] ty #[.slice none 0 0, .int .i64 (n : Int)]).run Tryd.prog w = .ok (.slice (some ⟨w.heap.size, 0, none⟩) n (grownCap w n 0 32)) (w.drew.alloc (.cells (([] : List Value).toArray ++ Builtin.zeroCells (Value.cells (.agg #[.string ⟨#[]⟩, .string ⟨#[]⟩, .int .i64 0, .int .i64 0, .int .i64 0, .int .i64 0])) n ++ Builtin.zeroCells (Value.cells (.agg #[.string ⟨#[]⟩, .string ⟨#[]⟩, .int .i64 0, .int .i64 0, .int .i64 0, .int .i64 0])) (grownCap w n 0 32 - n)) 32)) := fun ty => by
      have h := Lib.run_append_grow_zeros w 22 3 ty 32 i0 _ .i64 .i64 Tryd.underlying22 Tryd.underlying3 hi0 hz0 none 0 0 [] hold n (by omega) (by omega) (by omega) (by omega) (by rw [hby0]; omega) (by rw [Nat.zero_add, hby0]; exact growslice_fits (by omega) (by omega))
      rw [Nat.zero_add] at h
      exact h
    have hGn : n ≤ grownCap w n 0 32 := grownCap_ge w _ _ _
    have hGm : grownCap w n 0 32 ≤ maxLen := grownCap_le_maxLen w n 0 32 (by unfold maxLen; omega)
    have hW : Below w.heap.size w (w.drew.alloc (.cells (([] : List Value).toArray ++ Builtin.zeroCells (Value.cells (.agg #[.string ⟨#[]⟩, .string ⟨#[]⟩, .int .i64 0, .int .i64 0, .int .i64 0, .int .i64 0])) n ++ Builtin.zeroCells (Value.cells (.agg #[.string ⟨#[]⟩, .string ⟨#[]⟩, .int .i64 0, .int .i64 0, .int .i64 0, .int .i64 0])) (grownCap w n 0 32 - n)) 32)) := (Below.refl _ _).drew.alloc (Nat.le_refl _) _
    have hOW : (w.drew.alloc (.cells (([] : List Value).toArray ++ Builtin.zeroCells (Value.cells (.agg #[.string ⟨#[]⟩, .string ⟨#[]⟩, .int .i64 0, .int .i64 0, .int .i64 0, .int .i64 0])) n ++ Builtin.zeroCells (Value.cells (.agg #[.string ⟨#[]⟩, .string ⟨#[]⟩, .int .i64 0, .int .i64 0, .int .i64 0, .int .i64 0])) (grownCap w n 0 32 - n)) 32)).ownsRow w.heap.size 32 6 (.slice (some ⟨w.heap.size, 0, none⟩) 0 (grownCap w n 0 32)) 0 [] := by
      refine ⟨rfl, Or.inr ⟨w.heap.size, _, _, rfl, Nat.le_refl _, heap_alloc_new w.drew _, Nat.zero_le _, hGm, ?_, by simp⟩⟩
      have hzc : ∀ k, (Builtin.zeroCells (Value.cells (.agg #[.string ⟨#[]⟩, .string ⟨#[]⟩, .int .i64 0, .int .i64 0, .int .i64 0, .int .i64 0])) k).size = k * 6 := fun k => by
        rw [size_zeroCells]; rfl
      simp only [Array.size_append, hzc]
      simp
      omega
    generalize w.drew.alloc (.cells (([] : List Value).toArray ++ Builtin.zeroCells (Value.cells (.agg #[.string ⟨#[]⟩, .string ⟨#[]⟩, .int .i64 0, .int .i64 0, .int .i64 0, .int .i64 0])) n ++ Builtin.zeroCells (Value.cells (.agg #[.string ⟨#[]⟩, .string ⟨#[]⟩, .int .i64 0, .int .i64 0, .int .i64 0, .int .i64 0])) (grownCap w n 0 32 - n)) 32) = W1 at hrz hW hOW
    generalize grownCap w n 0 32 = G at hrz hOW hGn
    clear hold hGm
    go_enter Tryd.func31, Tryd.ntmps31
    go_wp2_with (at_builtin; refine Lib.wpList_append_run _ rfl _ _ _ _ rfl _ _ rfl rfl _ _ (hrz _) ?_)
    all_goals
      go_ret
      exact ⟨_, rfl, hOW, hW⟩

def PartsAt (w : World) (b : Nat) (gs : List (List Fl)) : Prop := ∀ j (h : j < gs.length), ∃ q c, w.cell? ⟨b, j, none⟩ = some (.slice q gs[j].length c) ∧ FlsAt w (.slice q gs[j].length c) gs[j]

theorem PartsAt.below {w w' : World} {b : Nat} {gs : List (List Fl)} (h : PartsAt w b gs) (hb : Below w.heap.size w w') : PartsAt w' b gs := fun j hj => by
  obtain ⟨q, c, h1, h2⟩ := h j hj
  exact ⟨q, c, below_keep hb h1, h2.below hb⟩

theorem flat_len_take (gs : List (List Fl)) (n : Nat) (h : n < gs.length) : (gs.take (n + 1)).flatten = (gs.take n).flatten ++ gs[n] := by
  rw [← List.take_append_getElem h, List.flatten_append]
  simp

theorem flat_len_le (gs : List (List Fl)) (n : Nat) : (gs.take n).flatten.length ≤ gs.flatten.length := by
  conv => rhs; rw [← List.take_append_drop n gs, List.flatten_append, List.length_append]
  omega

set_option maxRecDepth 100000 in
set_option maxHeartbeats 4000000 in
theorem concatF_any (b : Nat) (gs : List (List Fl)) (w : World) (hp : PartsAt w b gs) (hk : gs.length ≤ 10) (hl : gs.flatten.length ≤ 1000) :
    Calls Tryd.prog 18 #[.slice (some ⟨b, 0, none⟩) gs.length gs.length] w fun e w' => ∃ v', e = .returned v' ∧ FlsAt w' v' gs.flatten ∧ Below w.heap.size w w' := by
  obtain ⟨i0, hi0, hz0, hs0, hby0⟩ := Tryd.fileInfo
  have HP : Hid (∀ W, Below w.heap.size w W → PartsAt W b gs) := fun W hb => hp.below hb
  have HLE : Hid (∀ n, (gs.take n).flatten.length ≤ 1000) := fun n => Nat.le_trans (flat_len_le gs n) hl
  obtain ⟨K, hK⟩ : ∃ K, gs.length = K := ⟨_, rfl⟩
  have HK : Hid (gs.length = K) := hK
  rw [hK] at hk ⊢
  clear hK hp hl
  go_enter Tryd.func18, Tryd.ntmps18
  go_wp2
  go_loop [3, 11] (fun s k => ∃ n : Nat, n ≤ K ∧ s = .int .i64 (gs.take n).flatten.length ∧ k = .int .i64 n) (fun _ k => K - (intOf k).toNat)
  case atStart => exact ⟨0, by omega, rfl, rfl⟩
  case round =>
    obtain ⟨n, hn, rfl, rfl⟩ := hrel
    have h1 := HLE.out n
    have h2 := HLE.out (n + 1)
    by_cases hlt : n < K
    · have hltx : n < gs.length := by rw [HK.out]; exact hlt
      obtain ⟨q, c, hc, -⟩ := HP.out w (Below.refl _ _) n hltx
      have hf := congrArg List.length (flat_len_take gs n hltx)
      rw [List.length_append] at hf
      have hi : (n : Int) < (K : Int) := by omega
      have hi0' : (0 : Int) ≤ (n : Int) := by omega
      have HF : Hid ((gs.take (n + 1)).flatten.length = (gs.take n).flatten.length + gs[n].length) := hf
      generalize (gs.take n).flatten.length = A at h1 HF ⊢
      generalize gs[n].length = B at hc HF
      have hAB : A + B ≤ 1000 := by rw [← HF.out]; exact h2
      have hneg : ¬ ((A : Int) + (B : Int) < 0) := by omega
      clear hf hltx h1 h2
      go_wp2
      go_round
      case rel => exact ⟨n + 1, by omega, by rw [HF.out]; go_num, by go_num⟩
      case measure => simp [intOf]; omega
    · obtain rfl : n = K := by omega
      have hta : gs.take n = gs := List.take_of_length_le (by rw [HK.out]; exact Nat.le_refl _)
      have HTA : Hid (gs.take n = gs) := hta
      have hgr := growF_any (gs.take n).flatten.length w (by omega)
      clear h2
      generalize (gs.take n).flatten.length = S at h1 hgr ⊢
      go_wp2_with fail
      refine hgr.mono ?_
      rintro e w1 ⟨v1, rfl, ho1, hb1⟩
      clear hgr hta
      obtain ⟨q1, c1, rfl⟩ := own_flat ho1
      have OW1 : Hid (w1.ownsRow w.heap.size 32 6 (.slice q1 0 c1) (gs.take 0).flatten.length (flatF (gs.take 0).flatten)) := by
        show w1.ownsRow _ _ _ _ _ _
        simpa [flatF] using ho1
      clear ho1
      go_wp2
      go_loopw [6, 27] (fun v k wr => ∃ m : Nat, m ≤ n ∧ k = .int .i64 m ∧ wr.ownsRow w.heap.size 32 6 v (gs.take m).flatten.length (flatF (gs.take m).flatten) ∧ Below w.heap.size w wr) (fun _ k _ => n - (intOf k).toNat)
      case atStart => exact ⟨0, by omega, rfl, OW1.out, hb1⟩
      case round =>
        clear OW1 hb1
        obtain ⟨m, hm, rfl, hown, hb⟩ := hrel
        have OW : Hid (wr.ownsRow w.heap.size 32 6 u6 (gs.take m).flatten.length (flatF (gs.take m).flatten)) := hown
        clear hown
        have g1 := HLE.out m
        have g2 := HLE.out (m + 1)
        by_cases hmt : m < n
        · have hmx : m < gs.length := by rw [HK.out]; exact hmt
          obtain ⟨q, c, hc, hfl⟩ := HP.out wr hb m hmx
          have hf := congrArg List.length (flat_len_take gs m hmx)
          rw [List.length_append] at hf
          have HFE : Hid ((gs.take (m + 1)).flatten = (gs.take m).flatten ++ gs[m]) := flat_len_take gs m hmx
          have HSR : Hid (Src wr q gs[m].length c (flatF gs[m])) := src_fls hfl
          have hi : (m : Int) < (n : Int) := by omega
          have hi0' : (0 : Int) ≤ (m : Int) := by omega
          obtain ⟨g, hg⟩ : ∃ g, gs[m] = g := ⟨_, rfl⟩
          rw [hg] at hc hf HFE HSR
          clear hfl hg hmx
          obtain ⟨B, hB⟩ : ∃ B, g.length = B := ⟨_, rfl⟩
          have HB : Hid (g.length = B) := hB
          rw [hB] at hc hf HSR
          clear hB
          obtain ⟨C, hC⟩ : ∃ C, (gs.take m).flatten.length = C := ⟨_, rfl⟩
          have HCL : Hid ((gs.take m).flatten.length = C) := hC
          rw [hC] at g1 hf OW
          clear hC
          go_wp2_with (at_builtin; (refine wpList_append_src rfl _ _ 22 rfl w.heap.size 32 i0 (.agg #[.string ⟨#[]⟩, .string ⟨#[]⟩, .int .i64 0, .int .i64 0, .int .i64 0, .int .i64 0]) 6 64 Tryd.underlying22 hi0 hz0 hs0 hby0 rfl (by decide) u6 C (flatF (gs.take m).flatten) rfl ?a0 q B c (flatF g) rfl ?a1 ?a2 ?a3 ?a4 ?a5 ?a6 ?_))
          case a0 => exact OW.out
          case a1 => rw [flatF_len, HB.out]
          case a2 => exact HSR.out
          case a3 => exact flatF_one _
          case a4 => unfold maxLen; omega
          case a5 => omega
          case a6 => exact hb.size
          intro v2 y2 ho2 hg2 _
          have hb2 : Below w.heap.size w y2 := hb.grown hg2 hb.size (fun k hk => by
            rcases OW.out.2 with ⟨e, _⟩ | ⟨g', cap', cur, e, hg', _⟩
            · rw [e] at hk; simp [Value.ownBlock] at hk
            · rw [e] at hk; simp [Value.ownBlock] at hk; omega)
          have OW2 : Hid (y2.ownsRow w.heap.size 32 6 v2 (gs.take (m + 1)).flatten.length (flatF (gs.take (m + 1)).flatten)) := by
            show y2.ownsRow _ _ _ _ _ _
            rw [HFE.out, flatF_append, List.length_append, HB.out, HCL.out]
            exact ho2
          clear ho2 hg2
          go_wp2
          go_roundw
          case rel => exact ⟨m + 1, by omega, by go_num, OW2.out, hb2⟩
          case measure => simp [intOf]; omega
        · obtain rfl : m = n := by omega
          have HFN : Hid (FlsAt wr u6 gs.flatten) := by
            have h' := (flsAt_of_own OW.out).1
            rw [HTA.out] at h'
            exact h'
          go_wp2
          go_ret
          exact ⟨_, rfl, HFN.out, hb⟩
end Go.Proofs.YtpkoefpdpoikkaaDoor
