/-
  The walk of GoneTells: whatever keys and text: true; what was there is as it was.
-/
import Derived.Test.YtgffkkijfmoooabGreatDoorRefGone
import Derived.Test.YtgffkkijfmoooabGreatDoorDataWalk
namespace Go.Proofs.YtgffkkijfmoooabGreatDoor
open Go.RowKit Go.Extern.Stop Go.Stop Go.Extern Go.Sort Go.Shelf Go.Lib

theorem keyO_le (l : List UInt8) : (keyO l).2 ≤ 12 := by
  rw [keyO_eq]
  split
  · simp
  · split <;> simp
theorem goneO_le (s : List UInt8) : (goneO s).2.1 ≤ 12 ∧ (goneO s).1.length ≤ 40 := readG_le goneK keyO_le s

theorem new_nil (w : World) : NewAt w (.slice none 0 0) := fun k hk => by simp [Value.ownBlock] at hk

/-- Make and GoneOf: one text, one fault. -/
theorem gmade (zs : List Int) (hl : zs.length ≤ 1000) : ∃ (S : ByteArray) (c j : Int),
    (∀ (w : World) (a : Nat → Addr) (v : Value), EnvD0 w a → KeysAt w v zs → Calls Tryz.prog 21 #[v] w fun e w' => ∃ ev, e = .returned (.tuple #[.string S, ev]) ∧ Match w' a ev c j ∧ Below w.heap.size w w') ∧
    (∀ (w : World) (v : Value), KeysAt w v zs → Calls Tryz.prog 26 #[v] w fun e w' => e = .returned (.tuple #[.string S, .agg #[.int .i64 c, .int .i64 j]]) ∧ Below w.heap.size w w') := by
  by_cases h40 : 40 < (riseZ zs).length
  · refine ⟨⟨#[]⟩, 8, -1, fun w a v hE hk => ?_, fun w v hk => goneOf_full v zs w hk hl h40⟩
    refine (gmake_full v zs w a hE hk hl h40).mono ?_
    rintro e w' ⟨rfl, hb⟩
    exact ⟨_, rfl, match_err w' a 8 (by decide), hb⟩
  · obtain ⟨m, hm, hgood, hend⟩ := firstBadZ zs
    by_cases hmx : m < zs.length
    · refine ⟨⟨#[]⟩, 2, m, fun w a v hE hk => ?_, fun w v hk => ?_⟩
      · refine (gmake_any v zs w a hE hk hl (by omega) m hm hgood hend).mono ?_
        rintro e w' (⟨h1, _⟩ | ⟨_, fb, h1, c0, c1, hb⟩)
        · omega
        · exact ⟨_, h1, match_at w' a 2 (by decide) (by decide) fb m c0 c1, hb⟩
      · refine (goneOf_any v zs w hk hl (by omega) m hm hgood hend).mono ?_
        rintro e w' (⟨h1, _⟩ | ⟨_, h1, hb⟩)
        · omega
        · exact ⟨h1, hb⟩
    · refine ⟨bytesOf (goneF (riseZ zs)), 0, -1, fun w a v hE hk => ?_, fun w v hk => ?_⟩
      · refine (gmake_any v zs w a hE hk hl (by omega) m hm hgood hend).mono ?_
        rintro e w' (⟨_, h1, hb⟩ | ⟨h1, _⟩)
        · exact ⟨_, h1, match_err w' a 0 (by decide), hb⟩
        · exact absurd h1 hmx
      · refine (goneOf_any v zs w hk hl (by omega) m hm hgood hend).mono ?_
        rintro e w' (⟨_, h1, hb⟩ | ⟨h1, _⟩)
        · exact ⟨h1, hb⟩
        · exact absurd h1 hmx

/-- Read and ReadGone: the same keys, one fault. -/
theorem greadd (s : ByteArray) (hs : s.size ≤ maxLen) : ∃ (ys : List Int) (c j : Int), ys.length ≤ 40 ∧
    (∀ (w : World) (a : Nat → Addr), EnvD0 w a → Calls Tryz.prog 22 #[.string s] w fun e w' => ∃ v ev, e = .returned (.tuple #[v, ev]) ∧ KeysAt w' v ys ∧ NewAt w v ∧ Match w' a ev c j ∧ Below w.heap.size w w') ∧
    (∀ (w : World), Calls Tryz.prog 27 #[.string s] w fun e w' => ∃ v, e = .returned (.tuple #[v, .agg #[.int .i64 c, .int .i64 j]]) ∧ KeysAt w' v ys ∧ NewAt w v ∧ Below w.heap.size w w') := by
  obtain ⟨h12, h40⟩ := goneO_le s.data.toList
  have hR := fun w a h => gone_any s w a h hs
  have hQ := fun w => readGone_any s w hs
  generalize goneO s.data.toList = D at h12 h40 hR hQ
  obtain ⟨ys, c, o⟩ := D
  dsimp only at h12 h40
  by_cases hc : c = 0
  · subst hc
    refine ⟨ys, 0, -1, h40, fun w a hE => (hR w a hE).mono ?_, fun w => (hQ w).mono ?_⟩
    · rintro e w' ⟨hb, hp⟩
      rcases hp with ⟨_, v, h1, hv, hn⟩ | ⟨h1, _⟩ | ⟨h1, _⟩
      · exact ⟨v, _, h1, hv, hn, match_err w' a 0 (by decide), hb⟩
      · exact absurd rfl h1
      · exact absurd rfl h1
    · rintro e w' ⟨hb, hp⟩
      rcases hp with ⟨_, v, h1, hv, hn⟩ | ⟨h1, _⟩
      · exact ⟨v, h1, hv, hn, hb⟩
      · exact absurd rfl h1
  · cases o with
    | none =>
      refine ⟨[], c, -1, by simp, fun w a hE => (hR w a hE).mono ?_, fun w => (hQ w).mono ?_⟩
      · rintro e w' ⟨hb, hp⟩
        rcases hp with ⟨h1, _⟩ | ⟨_, _, _, h1⟩ | ⟨_, _, at_, h1, _⟩
        · exact absurd h1 hc
        · exact ⟨_, _, h1, .inl ⟨_, _, rfl, rfl⟩, new_nil w, match_err w' a c h12, hb⟩
        · cases h1
      · rintro e w' ⟨hb, hp⟩
        rcases hp with ⟨h1, _⟩ | ⟨_, j, h1, h2, _⟩
        · exact absurd h1 hc
        · rw [h2 rfl] at h1
          exact ⟨_, h1, .inl ⟨_, _, rfl, rfl⟩, new_nil w, hb⟩
    | some k =>
      refine ⟨[], c, k, by simp, fun w a hE => (hR w a hE).mono ?_, fun w => (hQ w).mono ?_⟩
      · rintro e w' ⟨hb, hp⟩
        rcases hp with ⟨h1, _⟩ | ⟨_, _, h1, _⟩ | ⟨_, _, at_, h1, fb, h2, c0, c1⟩
        · exact absurd h1 hc
        · cases h1
        · injection h1 with h1
          subst h1
          exact ⟨_, _, h2, .inl ⟨_, _, rfl, rfl⟩, new_nil w, match_at w' a c hc h12 fb _ c0 c1, hb⟩
      · rintro e w' ⟨hb, hp⟩
        rcases hp with ⟨h1, _⟩ | ⟨_, j, h1, _, h3⟩
        · exact absurd h1 hc
        · rw [h3 k rfl] at h1
          exact ⟨_, h1, .inl ⟨_, _, rfl, rfl⟩, new_nil w, hb⟩

theorem NewAt.ne {w : World} {v : Value} {F : Nat} (h : NewAt w v) (hF : F < w.heap.size) : ∀ b o' c n, v = .slice (some ⟨b, o', none⟩) n c → b ≠ F := by
  intro b o' c n e hb
  subst e hb
  have := h b (by simp [Value.ownBlock])
  omega

set_option maxRecDepth 100000 in
set_option maxHeartbeats 4000000 in
theorem goneTells_any (q : Option Addr) (cp : Nat) (zs : List Int) (s : ByteArray) (key : Int) (w : World) (a : Nat → Addr) (h : EnvD0 w a) (hE : Errs w a) (hz : KeysAt w (.slice q zs.length cp) zs) (hq : q = none → cp = 0) (hls : s.size ≤ maxLen) :
    Calls Tryz.prog 5 #[.slice q zs.length cp, .string s, .int .i64 key] w fun e w' => e = .returned (.bool true) ∧ Below w.heap.size w w' := by
  obtain ⟨i0, hi0, hz0, hs0, hby0⟩ := Tryz.numInfo
  have hda := goned_any w a h
  by_cases hl60 : 60 < zs.length
  · have h60 : (60 : Int) < (zs.length : Int) := by omega
    generalize zs.length = L at hz h60 ⊢
    unfold maxLen at hls
    clear hz hl60
    go_enter Tryz.func5, Tryz.ntmps5
    go_wp2_with fail
    refine hda.mono ?_
    rintro e w1 ⟨rfl, hb1⟩
    clear hda
    go_wp2
    go_ret
    exact ⟨rfl, hb1⟩
  have h60 : ¬ (60 : Int) < (zs.length : Int) := by omega
  by_cases hsz : 1500 < s.size ∧ s.size ≠ 20001
  · have hs1 : (1500 : Int) < (s.size : Int) := by omega
    have hs2 : ¬ (s.size : Int) = 20001 := by omega
    have hs4 : ((s.size : Int) != 20001) = true := by simpa using hs2
    generalize zs.length = L at hz h60 hl60 ⊢
    clear hz hsz
    go_enter Tryz.func5, Tryz.ntmps5
    go_wp2_with fail
    refine hda.mono ?_
    rintro e w1 ⟨rfl, hb1⟩
    clear hda
    go_wp2
    go_ret
    exact ⟨rfl, hb1⟩
  obtain ⟨S, c1, j1, hmk, hdo⟩ := gmade zs (by omega)
  obtain ⟨ys, c2, j2, hy40, hrd, hrf⟩ := greadd s hls
  have hsm := fun W (v v' : Value) (h1 : KeysAt W v ys) (h2 : KeysAt W v' ys) => sameInts_yes v v' ys W h1 h2 (by omega)
  have hin := fun W (v : Value) (h1 : KeysAt W v ys) => inInts_any v ys key W h1 (by unfold maxLen; omega)
  have hhs := fun W (v : Value) (h1 : KeysAt W v ys) => has_any v ys key W h1 (by omega)
  generalize ys.contains key = bk at hin hhs
  have hsrc := fun W (hW : Below w.heap.size w W) => src_keys (hz.below hW) hq
  have hown := fun W base (v : Value) (ho : World.ownsRow W base 3 1 v zs.length (zs.map (Value.int .i64))) => (keysAt_own ho : KeysAt W v zs)
  have HNL : Hid ((zs.map (Value.int .i64)).length = zs.length * 1) := by show _ = _; simp
  have HZZ : Hid (∀ W, Below w.heap.size w W → KeysAt W (.slice q zs.length cp) zs) := fun W hW => hz.below hW
  generalize hL : zs.length = L at hl60 h60 hsrc hown HNL HZZ ⊢
  have HL : Hid (zs.length = L) := hL
  clear hL hz
  have HE : Hid (∀ W, Below w.heap.size w W → Errs W a) := fun W hW => hE.below hW
  clear hE
  have key2 : (s.size : Int) ≤ 1500 ∨ ((1500 : Int) < (s.size : Int) ∧ (s.size : Int) = 20001) := by omega
  clear hsz
  rcases key2 with hs1 | ⟨hs1, hs2⟩
  · have hs3 : ¬ (1500 : Int) < (s.size : Int) := by omega
    go_enter Tryz.func5, Tryz.ntmps5
    go_wp2_with fail
    refine hda.mono ?_
    rintro e w1 ⟨rfl, hb1⟩
    have hsr1 := hsrc w1 hb1
    clear hda hsrc
    go_wp2_with (at_builtin; (refine wpList_append_src rfl _ _ 44 rfl w1.heap.size 3 i0 (.int .i64 0) 1 8 Tryz.underlying44 hi0 hz0 hs0 hby0 rfl (by decide) (.slice none 0 0) 0 [] rfl (World.ownsRow_nil _ _ _ _) q L cp (zs.map (Value.int .i64)) rfl ?qe1 ?qe2 ?qe3 ?qe4 ?qe5 ?qe6 ?_))
    any_goals first
      | exact HNL.out
      | exact HL.out
      | exact hsr1
      | exact ints_one zs
      | (intro u hu; rfl)
      | (unfold maxLen; omega)
      | omega
      | exact Nat.le_refl _
    intro v3 w3 ho3 hg3 _
    have hb3 : Below w1.heap.size w1 w3 := (Below.refl _ _).grown hg3 (Nat.le_refl _) (fun k hk => by simp [Value.ownBlock] at hk)
    have hr3 := hown w3 _ v3 ho3
    obtain ⟨q3, c3, hv3⟩ := hr3.form
    rw [HL.out] at hv3
    clear ho3 hg3 hown hsr1
    have hB3 : Below w.heap.size w w3 := hb1.trans (hb3.mono hb1.size)
    subst hv3
    have hk3 := hmk w3 a _ (h.below hB3) hr3
    clear hmk hr3
    go_wp2_with fail
    refine hk3.mono ?_
    rintro e w4 ⟨ev4, rfl, hm4, hb4⟩
    clear hk3
    have hB4 : Below w.heap.size w w4 := hB3.trans (hb4.mono hB3.size)
    have hd4 := hdo w4 _ (HZZ.out w4 hB4)
    clear hdo
    go_wp2_with fail
    refine hd4.mono ?_
    rintro e w5 ⟨rfl, hb5⟩
    clear hd4
    have hal5 : Below w5.heap.size w5 (w5.alloc (.cells #[.int .i64 c1, .int .i64 j1] 31)) := (Below.refl _ _).alloc (Nat.le_refl _) _
    have hb46 := hb5.trans (hal5.mono hb5.size)
    have hB6 : Below w.heap.size w (w5.alloc (.cells #[.int .i64 c1, .int .i64 j1] 31)) := hB4.trans (hb46.mono hB4.size)
    have hF6 : FC (w5.alloc (.cells #[.int .i64 c1, .int .i64 j1] 31)) w5.heap.size c1 j1 := heap_alloc_new _ _
    have hBF : w.heap.size ≤ w5.heap.size := (hB4.trans (hb5.mono hB4.size)).size
    have hfa6 := hm4 _ (keeps_below hb46) (HE.out _ hB6)
    clear hm4 hal5 hb46 hb3 hb4 hb5 hB3 hB4
    go_wp2_with fail
    generalize w5.alloc (.cells #[.int .i64 c1, .int .i64 j1] 31) = w6 at hB6 hF6 hfa6 ⊢
    generalize w5.heap.size = F at hF6 hBF ⊢
    refine hfa6.mono ?_
    rintro e w7 ⟨rfl, hb7⟩
    clear hfa6
    have hB8 : Below w.heap.size w w7 := hB6.trans (hb7.mono hB6.size)
    have hF8 := hF6.below hb7
    have hr8 := hrd w7 a (h.below hB8)
    clear hrd hF6 hb7 hB6
    go_wp2_with fail
    refine hr8.mono ?_
    rintro e w10 ⟨v10, ev10, rfl, hv10, hn10, hm10, hb10⟩
    clear hr8
    have hB10 : Below w.heap.size w w10 := hB8.trans (hb10.mono hB8.size)
    have hF10 := hF8.below hb10
    have hq10 := hrf w10
    have hne10 := hn10.ne hF8.lt
    clear hrf hb10 hB8 hn10 hF8
    go_wp2_with fail
    refine hq10.mono ?_
    rintro e w11 ⟨v11, rfl, hv11, hn11, hb11⟩
    clear hq10
    have hB11 : Below w.heap.size w w11 := hB10.trans (hb11.mono hB10.size)
    have hF11 := hF10.below hb11
    have hF12 := hF11.set c2 j2
    have hne11 := hn11.ne hF10.lt
    have hy1 := ((hv10.below hb11).setLow (o := 0) (x := .int .i64 c2) hne10).setLow (o := 1) (x := .int .i64 j2) hne10
    have hy2 := (hv11.setLow (o := 0) (x := .int .i64 c2) hne11).setLow (o := 1) (x := .int .i64 j2) hne11
    have hB12 : Below w.heap.size w ((w11.setCell ⟨F, 0, none⟩ (.int .i64 c2)).setCell ⟨F, 1, none⟩ (.int .i64 j2)) := (hB11.setCell hBF _).setCell hBF _
    have hfa12 := hm10 _ (keeps_set (keeps_below hb11) hF11 (.int .i64 c2) (.int .i64 j2)) (HE.out _ hB12)
    have hin12 := hin _ v11 hy2
    have k0 := hF11.c0
    have k1 := hF11.c1
    have kz := hF11.fz
    have l0 := hF12.c0
    have l1 := hF12.c1
    clear hm10 hF10 hF11 hF12 hv10 hv11 hb11 hB11 hB10 hne10 hne11 hn11 hin
    go_wp2_with fail
    generalize (w11.setCell ⟨F, 0, none⟩ (.int .i64 c2)).setCell ⟨F, 1, none⟩ (.int .i64 j2) = w12 at hy1 hy2 hB12 hfa12 l0 l1 hin12 ⊢
    refine hin12.mono ?_
    rintro e w12b ⟨rfl, hw12⟩
    subst hw12
    clear hin12 k0 k1 kz
    go_wp2_with fail
    refine hfa12.mono ?_
    rintro e w13 ⟨rfl, hb13⟩
    clear hfa12 l0 l1
    have hB13 : Below w.heap.size w w13 := hB12.trans (hb13.mono hB12.size)
    have hs13 := hsm w13 v10 v11 (hy1.below hb13) (hy2.below hb13)
    have hy3 := hy1.below hb13
    clear hsm hy1 hy2
    go_wp2_with fail
    refine hs13.mono ?_
    rintro e w14 ⟨rfl, hb14⟩
    clear hs13
    have hB14 : Below w.heap.size w w14 := hB13.trans (hb14.mono hB13.size)
    have hh14 := hhs w14 v10 (hy3.below hb14)
    clear hhs hy3
    go_wp2_with fail
    refine hh14.mono ?_
    rintro e w15 ⟨rfl, hb15⟩
    clear hh14
    go_wp2
    go_ret
    exact ⟨by simp, hB14.trans (hb15.mono hB14.size)⟩
  · have hs4 : ((s.size : Int) != 20001) = false := by simpa using hs2
    go_enter Tryz.func5, Tryz.ntmps5
    go_wp2_with fail
    refine hda.mono ?_
    rintro e w1 ⟨rfl, hb1⟩
    have hsr1 := hsrc w1 hb1
    clear hda hsrc
    go_wp2_with (at_builtin; (refine wpList_append_src rfl _ _ 44 rfl w1.heap.size 3 i0 (.int .i64 0) 1 8 Tryz.underlying44 hi0 hz0 hs0 hby0 rfl (by decide) (.slice none 0 0) 0 [] rfl (World.ownsRow_nil _ _ _ _) q L cp (zs.map (Value.int .i64)) rfl ?qf1 ?qf2 ?qf3 ?qf4 ?qf5 ?qf6 ?_))
    any_goals first
      | exact HNL.out
      | exact HL.out
      | exact hsr1
      | exact ints_one zs
      | (intro u hu; rfl)
      | (unfold maxLen; omega)
      | omega
      | exact Nat.le_refl _
    intro v3 w3 ho3 hg3 _
    have hb3 : Below w1.heap.size w1 w3 := (Below.refl _ _).grown hg3 (Nat.le_refl _) (fun k hk => by simp [Value.ownBlock] at hk)
    have hr3 := hown w3 _ v3 ho3
    obtain ⟨q3, c3, hv3⟩ := hr3.form
    rw [HL.out] at hv3
    clear ho3 hg3 hown hsr1
    have hB3 : Below w.heap.size w w3 := hb1.trans (hb3.mono hb1.size)
    subst hv3
    have hk3 := hmk w3 a _ (h.below hB3) hr3
    clear hmk hr3
    go_wp2_with fail
    refine hk3.mono ?_
    rintro e w4 ⟨ev4, rfl, hm4, hb4⟩
    clear hk3
    have hB4 : Below w.heap.size w w4 := hB3.trans (hb4.mono hB3.size)
    have hd4 := hdo w4 _ (HZZ.out w4 hB4)
    clear hdo
    go_wp2_with fail
    refine hd4.mono ?_
    rintro e w5 ⟨rfl, hb5⟩
    clear hd4
    have hal5 : Below w5.heap.size w5 (w5.alloc (.cells #[.int .i64 c1, .int .i64 j1] 31)) := (Below.refl _ _).alloc (Nat.le_refl _) _
    have hb46 := hb5.trans (hal5.mono hb5.size)
    have hB6 : Below w.heap.size w (w5.alloc (.cells #[.int .i64 c1, .int .i64 j1] 31)) := hB4.trans (hb46.mono hB4.size)
    have hF6 : FC (w5.alloc (.cells #[.int .i64 c1, .int .i64 j1] 31)) w5.heap.size c1 j1 := heap_alloc_new _ _
    have hBF : w.heap.size ≤ w5.heap.size := (hB4.trans (hb5.mono hB4.size)).size
    have hfa6 := hm4 _ (keeps_below hb46) (HE.out _ hB6)
    clear hm4 hal5 hb46 hb3 hb4 hb5 hB3 hB4
    go_wp2_with fail
    generalize w5.alloc (.cells #[.int .i64 c1, .int .i64 j1] 31) = w6 at hB6 hF6 hfa6 ⊢
    generalize w5.heap.size = F at hF6 hBF ⊢
    refine hfa6.mono ?_
    rintro e w7 ⟨rfl, hb7⟩
    clear hfa6
    have hB8 : Below w.heap.size w w7 := hB6.trans (hb7.mono hB6.size)
    have hF8 := hF6.below hb7
    have hr8 := hrd w7 a (h.below hB8)
    clear hrd hF6 hb7 hB6
    go_wp2_with fail
    refine hr8.mono ?_
    rintro e w10 ⟨v10, ev10, rfl, hv10, hn10, hm10, hb10⟩
    clear hr8
    have hB10 : Below w.heap.size w w10 := hB8.trans (hb10.mono hB8.size)
    have hF10 := hF8.below hb10
    have hq10 := hrf w10
    have hne10 := hn10.ne hF8.lt
    clear hrf hb10 hB8 hn10 hF8
    go_wp2_with fail
    refine hq10.mono ?_
    rintro e w11 ⟨v11, rfl, hv11, hn11, hb11⟩
    clear hq10
    have hB11 : Below w.heap.size w w11 := hB10.trans (hb11.mono hB10.size)
    have hF11 := hF10.below hb11
    have hF12 := hF11.set c2 j2
    have hne11 := hn11.ne hF10.lt
    have hy1 := ((hv10.below hb11).setLow (o := 0) (x := .int .i64 c2) hne10).setLow (o := 1) (x := .int .i64 j2) hne10
    have hy2 := (hv11.setLow (o := 0) (x := .int .i64 c2) hne11).setLow (o := 1) (x := .int .i64 j2) hne11
    have hB12 : Below w.heap.size w ((w11.setCell ⟨F, 0, none⟩ (.int .i64 c2)).setCell ⟨F, 1, none⟩ (.int .i64 j2)) := (hB11.setCell hBF _).setCell hBF _
    have hfa12 := hm10 _ (keeps_set (keeps_below hb11) hF11 (.int .i64 c2) (.int .i64 j2)) (HE.out _ hB12)
    have hin12 := hin _ v11 hy2
    have k0 := hF11.c0
    have k1 := hF11.c1
    have kz := hF11.fz
    have l0 := hF12.c0
    have l1 := hF12.c1
    clear hm10 hF10 hF11 hF12 hv10 hv11 hb11 hB11 hB10 hne10 hne11 hn11 hin
    go_wp2_with fail
    generalize (w11.setCell ⟨F, 0, none⟩ (.int .i64 c2)).setCell ⟨F, 1, none⟩ (.int .i64 j2) = w12 at hy1 hy2 hB12 hfa12 l0 l1 hin12 ⊢
    refine hin12.mono ?_
    rintro e w12b ⟨rfl, hw12⟩
    subst hw12
    clear hin12 k0 k1 kz
    go_wp2_with fail
    refine hfa12.mono ?_
    rintro e w13 ⟨rfl, hb13⟩
    clear hfa12 l0 l1
    have hB13 : Below w.heap.size w w13 := hB12.trans (hb13.mono hB12.size)
    have hs13 := hsm w13 v10 v11 (hy1.below hb13) (hy2.below hb13)
    have hy3 := hy1.below hb13
    clear hsm hy1 hy2
    go_wp2_with fail
    refine hs13.mono ?_
    rintro e w14 ⟨rfl, hb14⟩
    clear hs13
    have hB14 : Below w.heap.size w w14 := hB13.trans (hb14.mono hB13.size)
    have hh14 := hhs w14 v10 (hy3.below hb14)
    clear hhs hy3
    go_wp2_with fail
    refine hh14.mono ?_
    rintro e w15 ⟨rfl, hb15⟩
    clear hh14
    go_wp2
    go_ret
    exact ⟨by simp, hB14.trans (hb15.mono hB14.size)⟩
end Go.Proofs.YtgffkkijfmoooabGreatDoor
