/-
  The contracts of list.Add and list.Remove.
-/
import Derived.Test.YtpkoefpdpoikkaaDoorListPlc
import Derived.Test.YtpkoefpdpoikkaaDoorListCat
import Derived.Deep.RegionWith
namespace Go.Proofs.YtpkoefpdpoikkaaDoor
open Go.RowKit Go.Extern.Stop Go.Stop Go.Extern Go.Sort Go.Shelf Go.Lib

theorem place_find {fs : List Fl} {f : Fl} {n : Nat} {t : Bool} (h : PlaceAt fs (fk f) n t) (hr : Rises 0 fs) (hf : fileE f = 0) : t = true ↔ 0 ≤ findF fs f.1 := by
  obtain ⟨h1, h2, h3, h4⟩ := h
  rw [h4]
  constructor
  · rintro ⟨hn, e⟩
    have hp : fs[n].1 = f.1 := fk_path (hr.1 _ (List.getElem_mem _)).1 hf e
    rw [findF_at hn (fun j hj hjn e' => ?_) hp]
    · omega
    · have := h2 j hj hjn
      unfold fk at this
      rw [e'] at this
      omega
  · intro h0
    refine Classical.byContradiction fun hno => ?_
    have hn : ∀ j (hj : j < fs.length), fs[j].1 ≠ f.1 := fun j hj e => by
      have ej : fk fs[j] = fk f := by unfold fk; rw [e]
      have hnj : n ≤ j := by
        rcases Nat.lt_or_ge j n with h' | h'
        · have := h2 j hj h'; omega
        · exact h'
      by_cases hjn : j = n
      · subst hjn; exact hno ⟨hj, ej⟩
      · have g1 := h3 n (by omega) (Nat.le_refl _)
        have g2 := List.pairwise_iff_getElem.1 hr.2 n j (by omega) hj (by omega)
        omega
    rw [findF_no hn] at h0
    omega

theorem place_put {fs : List Fl} {f : Fl} {n : Nat} (h : PlaceAt fs (fk f) n false) : [fs.take n, [f], fs.drop n].flatten = placeL fs f := by
  obtain ⟨h1, h2, h3, h4⟩ := h
  have hne : ∀ hn : n < fs.length, fk fs[n] ≠ fk f := fun hn e => nomatch h4.2 ⟨hn, e⟩
  rw [place_at h1 h2 (fun hn => by have := h3 n hn (Nat.le_refl _); omega)]
  simp

theorem add_cases (fs : List Fl) (f : Fl) : ((listE fs).1 ≠ 0 → addE fs f = listE fs ∧ addL fs f = []) ∧ ((listE fs).1 = 0 → (fileE f ≠ 0 → addE fs f = (fileE f, none) ∧ addL fs f = []) ∧ (fileE f = 0 → (0 ≤ findF fs f.1 → addE fs f = (7, none) ∧ addL fs f = []) ∧ (¬ 0 ≤ findF fs f.1 → (60 ≤ fs.length → addE fs f = (8, none) ∧ addL fs f = []) ∧ (¬ 60 ≤ fs.length → addE fs f = (0, none) ∧ addL fs f = placeL fs f)))) := by
  refine ⟨fun h1 => ?_, fun h1 => ⟨fun h2 => ?_, fun h2 => ⟨fun h3 => ?_, fun h3 => ⟨fun h4 => ?_, fun h4 => ?_⟩⟩⟩⟩
  · have e : addE fs f = listE fs := by unfold addE; rw [if_pos h1]
    exact ⟨e, by unfold addL; rw [e, if_neg h1]⟩
  · have e : addE fs f = (fileE f, none) := by unfold addE; rw [if_neg (by simpa using h1), if_pos h2]
    exact ⟨e, by unfold addL; rw [e, if_neg h2]⟩
  · have e : addE fs f = (7, none) := by unfold addE; rw [if_neg (by simpa using h1), if_neg (by simpa using h2), if_pos h3]
    exact ⟨e, by unfold addL; rw [e]; rfl⟩
  · have e : addE fs f = (8, none) := by unfold addE; rw [if_neg (by simpa using h1), if_neg (by simpa using h2), if_neg h3, if_pos h4]
    exact ⟨e, by unfold addL; rw [e]; rfl⟩
  · have e : addE fs f = (0, none) := by unfold addE; rw [if_neg (by simpa using h1), if_neg (by simpa using h2), if_neg h3, if_neg h4]
    exact ⟨e, by unfold addL; rw [e]; rfl⟩

theorem rem_cases (fs : List Fl) (p : ByteArray) : ((listE fs).1 ≠ 0 → remE fs p = listE fs ∧ remL fs p = []) ∧ ((listE fs).1 = 0 → (findF fs p < 0 → remE fs p = (6, none) ∧ remL fs p = []) ∧ (¬ findF fs p < 0 → remE fs p = (0, none) ∧ remL fs p = fs.filter (offP p))) := by
  refine ⟨fun h1 => ?_, fun h1 => ⟨fun h2 => ?_, fun h2 => ?_⟩⟩
  · have e : remE fs p = listE fs := by unfold remE; rw [if_pos h1]
    exact ⟨e, by unfold remL; rw [e, if_neg h1]⟩
  · have e : remE fs p = (6, none) := by unfold remE; rw [if_neg (by simpa using h1), if_pos h2]
    exact ⟨e, by unfold remL; rw [e]; rfl⟩
  · have e : remE fs p = (0, none) := by unfold remE; rw [if_neg (by simpa using h1), if_neg h2]
    exact ⟨e, by unfold remL; rw [e]; rfl⟩

set_option maxRecDepth 100000 in
set_option maxHeartbeats 8000000 in
theorem ladd_any (v : Value) (fs : List Fl) (f : Fl) (w : World) (a : Nat → Addr) (h : EnvL w a) (hx : FlsAt w v fs) (hl : fs.length ≤ 100) (hsz : Short fs) (hf1 : f.1.size ≤ 30) (hf2 : f.2.1.size ≤ 30) :
    Calls Tryd.prog 8 #[v, flV f] w fun e w' => ∃ v' ev, e = .returned (.tuple #[v', ev]) ∧ FlsAt w' v' (addL fs f) ∧ ToldE w' a ev (addE fs f) ∧ Below w.heap.size w w' := by
  obtain ⟨q, cap, rfl⟩ := hx.form
  have hal : Below w.heap.size w (w.alloc (.cells #[.string f.1, .string f.2.1, .int .i64 f.2.2.1, .int .i64 f.2.2.2.1, .int .i64 f.2.2.2.2.1, .int .i64 f.2.2.2.2.2] 32)) := (Below.refl _ _).alloc (Nat.le_refl _) _
  have hfl := FlAt.new w f
  have hck := fun W (hb : Below w.heap.size w W) => lcheck_any (.slice q fs.length cap) fs W a (h.below hb) (hx.below hb) hl hsz
  have hfc := fun W (hb : Below w.heap.size w W) => fcheck_any f W a (h.below hb).file (by omega) (by omega)
  have HFX : Hid (FlsAt w (.slice q fs.length cap) fs) := hx
  have HEN : Hid (∀ W, Below w.heap.size w W → EnvL W a) := fun W hb => h.below hb
  have hpl : (listE fs).1 = 0 → fileE f = 0 → ∀ W, Below w.heap.size w W → Calls Tryd.prog 17 #[.slice q fs.length cap, .string f.1] W (PlacePost fs (fk f) W) := fun h1 h2 W hb =>
    place_any (.slice q fs.length cap) fs f.1 W a (h.below hb).file.env (hx.below hb) (by omega) (listE_ok.1 h1).2.2 (fun g hg => ⟨by have := (hsz g hg).1; omega, ok_path ((listE_ok.1 h1).2.1 g hg).1⟩) (by omega) (ok_path h2)
  have HPF : Hid ((listE fs).1 = 0 → fileE f = 0 → ∀ n t, PlaceAt fs (fk f) n t → (t = true ↔ 0 ≤ findF fs f.1)) := fun h1 h2 n t hp => place_find hp (listE_ok.1 h1).2 h2
  have HPP : Hid (∀ n, PlaceAt fs (fk f) n false → [fs.take n, [f], fs.drop n].flatten = placeL fs f) := fun n hp => place_put hp
  have HLE : Hid ((listE fs).1 = 0 → fs.length ≤ 60) := fun h1 => (listE_ok.1 h1).1
  obtain ⟨L, hL⟩ : ∃ L, fs.length = L := ⟨_, rfl⟩
  have HX : Hid (fs.length = L) := hL
  have hAC := add_cases fs f
  generalize addE fs f = AE at hAC ⊢
  generalize addL fs f = AL at hAC ⊢
  rw [hL] at hl hck hpl HLE hAC ⊢
  clear hL hx hsz hf1 hf2
  unfold flV at hfc ⊢
  generalize fk f = Z at hpl HPF HPP
  generalize findF fs f.1 = FF at HPF hAC
  generalize fileE f = E at hfc hpl HPF hAC
  generalize listE fs = R at hck hpl HPF HLE hAC
  generalize placeL fs f = PL at HPP hAC
  obtain ⟨fp, fq, fn, flo, fhi, fseq⟩ := f
  dsimp only at hal hfl hfc hpl ⊢
  by_cases hR : R.1 = 0
  · replace hAC := hAC.2 hR
    replace hpl := hpl hR
    replace HPF := HPF.out hR
    have hL60 := HLE.out hR
    by_cases hE : E = 0
    · subst hE
      replace hAC := hAC.2 rfl
      replace hpl := hpl rfl
      have HPF' : Hid (∀ n t, PlaceAt fs Z n t → (t = true ↔ 0 ≤ FF)) := HPF rfl
      clear HPF
      go_enter Tryd.func8, Tryd.ntmps8
      go_upto_region 1 with fail
      generalize w.alloc (.cells #[.string fp, .string fq, .int .i64 fn, .int .i64 flo, .int .i64 fhi, .int .i64 fseq] 32) = WA at hal hfl ⊢
      have hc1 := hck WA hal
      clear hck
      go_wp2_with fail
      refine hc1.mono ?_
      rintro e w1 ⟨ev, rfl, ht, hb1⟩
      clear hc1
      obtain rfl := ht.ok hR
      have hB1 : Below w.heap.size w w1 := hal.trans (hb1.mono hal.size)
      have hfl1 := hfl.below hb1
      obtain ⟨z0, z1, z2, z3, z4, z5, -⟩ := hfl1.cells
      dsimp only at z0 z1 z2 z3 z4 z5
      have hf1 := hfc w1 hB1
      simp only [errV] at hf1
      clear hfc hfl hb1 hal ht
      go_wp2_with fail
      refine hf1.mono ?_
      rintro e w2 ⟨rfl, hb2⟩
      clear hf1 z0 z1 z2 z3 z4 z5
      have hB2 : Below w.heap.size w w2 := hB1.trans (hb2.mono hB1.size)
      have hfl2 := hfl1.below hb2
      have z0 := hfl2.cells.1
      dsimp only at z0
      have hp2 := hpl w2 hB2
      clear hpl hfl1 hb2 hB1
      go_wp2_with fail
      refine hp2.mono ?_
      rintro e w3 ⟨n, t, rfl, hpa, hb3⟩
      clear hp2 z0
      have hB3 : Below w.heap.size w w3 := hB2.trans (hb3.mono hB2.size)
      have hfl3 := hfl2.below hb3
      have htf := HPF'.out n t hpa
      clear hfl2 hb3 hB2 HPF'
      cases t with
      | true =>
        have hFF : 0 ≤ FF := htf.1 rfl
        obtain ⟨rfl, rfl⟩ := hAC.1 (by omega)
        have he := (HEN.out w3 hB3).exist
        clear hpa htf hfl3
        go_wp2
        go_quiet (fail)
        go_wp2
        go_ret2
        exact ⟨_, _, rfl, Or.inl ⟨none, 0, rfl, fun _ => rfl, rfl⟩, rfl, below_drewN hB3 nq⟩
      | false =>
        have hFF : ¬ 0 ≤ FF := fun e => nomatch htf.2 e
        replace hAC := hAC.2 (by omega)
        clear htf
        by_cases h60 : 60 ≤ L
        · obtain rfl : L = 60 := by omega
          obtain ⟨rfl, rfl⟩ := hAC.1 (by omega)
          have he := (HEN.out w3 hB3).full
          clear hpa hfl3
          go_wp2
          go_quiet (fail)
          go_wp2
          go_ret2
          exact ⟨_, _, rfl, Or.inl ⟨none, 0, rfl, fun _ => rfl, rfl⟩, rfl, below_drewN hB3 nq⟩
        · obtain ⟨rfl, rfl⟩ := hAC.2 (by omega)
          have hn60 : ((L : Int) == 60) = false := beq_eq_false_iff_ne.2 (by omega)
          have hnL : n ≤ L := by have := hpa.1; rw [HX.out] at this; exact this
          have HFL : Hid ([fs.take n, [(fp, fq, fn, flo, fhi, fseq)], fs.drop n].flatten = AL) := HPP.out n hpa
          obtain ⟨z0, z1, z2, z3, z4, z5, -⟩ := hfl3.cells
          dsimp only at z0 z1 z2 z3 z4 z5
          have hvq : (q = none ∧ L = 0 ∧ cap = 0) ∨ (∃ ad, q = some ad ∧ L = 0) ∨ ∃ b o, q = some ⟨b, o, none⟩ ∧ L ≤ cap ∧ FlCells w b o fs := by
            have h := HFX.out
            rcases h with ⟨p, c', e, hp, he⟩ | ⟨b, o, c', e, hl', hc⟩
            · simp only [Value.slice.injEq] at e
              obtain ⟨rfl, h0, rfl⟩ := e
              rw [HX.out] at h0
              cases q with
              | none => exact Or.inl ⟨rfl, h0, hp rfl⟩
              | some ad => exact Or.inr (Or.inl ⟨ad, rfl, h0⟩)
            · simp only [Value.slice.injEq] at e
              obtain ⟨rfl, _, rfl⟩ := e
              exact Or.inr (Or.inr ⟨b, o, rfl, by rw [← HX.out]; exact hl', hc⟩)
          have HCC : Hid (∀ (V1 V3 : Value), (∀ W, Below w.heap.size w W → FlsAt W V1 (fs.take n)) → (∀ W, Below w.heap.size w W → FlsAt W V3 (fs.drop n)) → ∀ Y : World, Below w.heap.size w Y → Y.heap = ((w3.alloc (.cells #[.string fp, .string fq, .int .i64 fn, .int .i64 flo, .int .i64 fhi, .int .i64 fseq] 32)).alloc (.cells #[V1, .slice (some ⟨w3.heap.size, 0, none⟩) 1 1, V3] 22)).heap →               Calls Tryd.prog 18 #[.slice (some ⟨w3.heap.size + 1, 0, none⟩) 3 3] Y fun e w' => ∃ v', e = .returned v' ∧ FlsAt w' v' AL ∧ Below Y.heap.size Y w') := fun V1 V3 g1 g3 Y hbY hY => by
            have hc1 : Y.heap[w3.heap.size]? = some (.cells #[.string fp, .string fq, .int .i64 fn, .int .i64 flo, .int .i64 fhi, .int .i64 fseq] 32 (0, 0)) := by
              rw [hY]
              exact heap_alloc2_old w3 _ _
            have hc2 : Y.heap[w3.heap.size + 1]? = some (.cells #[V1, .slice (some ⟨w3.heap.size, 0, none⟩) 1 1, V3] 22 (0, 0)) := by
              rw [hY]
              exact heap_alloc2_new w3 _ _
            have k1 := g1 Y hbY
            have k3 := g3 Y hbY
            obtain ⟨q1, c1, e1⟩ := k1.form
            obtain ⟨q3, c3, e3⟩ := k3.form
            have h' := concatF_any (w3.heap.size + 1) [fs.take n, [(fp, fq, fn, flo, fhi, fseq)], fs.drop n] Y (fun j hj => by
              obtain rfl | rfl | rfl : j = 0 ∨ j = 1 ∨ j = 2 := by simp at hj; omega
              · exact ⟨q1, c1, by rw [cell_of_row _ _ _ _ _ _ hc2]; exact congrArg some e1, by rw [e1] at k1; exact k1⟩
              · exact ⟨some ⟨w3.heap.size, 0, none⟩, 1, by rw [cell_of_row _ _ _ _ _ _ hc2]; rfl, Or.inr ⟨w3.heap.size, 0, 1, rfl, Nat.le_refl _, flCells_of fun t u hu => by
                  rw [cell_of_row _ _ _ _ _ _ hc1, Nat.zero_add, ← hu]
                  simp [flatF, encF]⟩⟩
              · exact ⟨q3, c3, by rw [cell_of_row _ _ _ _ _ _ hc2]; exact congrArg some e3, by rw [e3] at k3; exact k3⟩) (by simp) (by have := HX.out; simp; omega)
            rw [HFL.out] at h'
            exact h'
          have hbA : Below w.heap.size w (w3.alloc (.cells #[.string fp, .string fq, .int .i64 fn, .int .i64 flo, .int .i64 fhi, .int .i64 fseq] 32)) := hB3.alloc hB3.size _
          clear hpa hfl3
          rcases hvq with ⟨rfl, rfl, rfl⟩ | ⟨ad, rfl, rfl⟩ | ⟨b, o, rfl, hcap, hcs⟩
          · obtain rfl : n = 0 := by omega
            have HC : Hid (∀ Y : World, Below w.heap.size w Y → Y.heap = ((w3.alloc (.cells #[.string fp, .string fq, .int .i64 fn, .int .i64 flo, .int .i64 fhi, .int .i64 fseq] 32)).alloc (.cells #[.slice none 0 0, .slice (some ⟨w3.heap.size, 0, none⟩) 1 1, .slice none 0 0] 22)).heap → Calls Tryd.prog 18 #[.slice (some ⟨w3.heap.size + 1, 0, none⟩) 3 3] Y fun e w' => ∃ v', e = .returned v' ∧ FlsAt w' v' AL ∧ Below Y.heap.size Y w') := HCC.out (.slice none 0 0) (.slice none 0 0) (fun W _ => Or.inl ⟨none, 0, rfl, fun _ => rfl, by have := HX.out; simp at this; simp [this]⟩) (fun W _ => Or.inl ⟨none, 0, rfl, fun _ => rfl, by have := HX.out; simp at this; simp [this]⟩)
            have hbB : Below w.heap.size w ((w3.alloc (.cells #[.string fp, .string fq, .int .i64 fn, .int .i64 flo, .int .i64 fhi, .int .i64 fseq] 32)).alloc (.cells #[.slice none 0 0, .slice (some ⟨w3.heap.size, 0, none⟩) 1 1, .slice none 0 0] 22)) := hbA.alloc hbA.size _
            have hcd := HC.out _ hbB.drew rfl
            clear HCC HC
            go_upto_region 12 with fail
            go_region_with (go_at_call 18; refine hcd.mono ?_; rintro e wX ⟨v', rfl, hfX, hbX⟩)
            all_goals
              have HFR : Hid (FlsAt wX v' AL) := hfX
              clear hfX
              go_wp2
              go_ret2
              exact ⟨_, _, rfl, HFR.out, rfl, hbB.drew.trans (hbX.mono hbB.drew.size)⟩
          · obtain rfl : n = 0 := by omega
            obtain ⟨ab, ao, sp⟩ := ad
            have HC : Hid (∀ Y : World, Below w.heap.size w Y → Y.heap = ((w3.alloc (.cells #[.string fp, .string fq, .int .i64 fn, .int .i64 flo, .int .i64 fhi, .int .i64 fseq] 32)).alloc (.cells #[.slice (some ⟨ab, ao, sp⟩) 0 cap, .slice (some ⟨w3.heap.size, 0, none⟩) 1 1, .slice (some ⟨ab, ao, sp⟩) 0 cap] 22)).heap → Calls Tryd.prog 18 #[.slice (some ⟨w3.heap.size + 1, 0, none⟩) 3 3] Y fun e w' => ∃ v', e = .returned v' ∧ FlsAt w' v' AL ∧ Below Y.heap.size Y w') := HCC.out (.slice (some ⟨ab, ao, sp⟩) 0 cap) (.slice (some ⟨ab, ao, sp⟩) 0 cap) (fun W _ => Or.inl ⟨some ⟨ab, ao, sp⟩, cap, rfl, fun h => (nomatch h), by have := HX.out; simp at this; simp [this]⟩) (fun W _ => Or.inl ⟨some ⟨ab, ao, sp⟩, cap, rfl, fun h => (nomatch h), by have := HX.out; simp at this; simp [this]⟩)
            have hbB : Below w.heap.size w ((w3.alloc (.cells #[.string fp, .string fq, .int .i64 fn, .int .i64 flo, .int .i64 fhi, .int .i64 fseq] 32)).alloc (.cells #[.slice (some ⟨ab, ao, sp⟩) 0 cap, .slice (some ⟨w3.heap.size, 0, none⟩) 1 1, .slice (some ⟨ab, ao, sp⟩) 0 cap] 22)) := hbA.alloc hbA.size _
            have hcd := HC.out _ hbB.drew rfl
            clear HCC HC
            go_upto_region 12 with fail
            go_region_with (go_at_call 18; refine hcd.mono ?_; rintro e wX ⟨v', rfl, hfX, hbX⟩)
            all_goals
              have HFR : Hid (FlsAt wX v' AL) := hfX
              clear hfX
              go_wp2
              go_ret2
              exact ⟨_, _, rfl, HFR.out, rfl, hbB.drew.trans (hbX.mono hbB.drew.size)⟩
          · have i1 : (0 : Int) ≤ (n : Int) := by omega
            have i2 : (n : Int) ≤ (L : Int) := by omega
            have i3 : (n : Int) ≤ (cap : Int) := by omega
            have i4 : (L : Int) ≤ (cap : Int) := by omega
            by_cases hcn : cap = n
            · obtain rfl : n = cap := hcn.symm
              obtain rfl : L = n := by omega
              have HC : Hid (∀ Y : World, Below w.heap.size w Y → Y.heap = ((w3.alloc (.cells #[.string fp, .string fq, .int .i64 fn, .int .i64 flo, .int .i64 fhi, .int .i64 fseq] 32)).alloc (.cells #[.slice (some ⟨b, o, none⟩) L L, .slice (some ⟨w3.heap.size, 0, none⟩) 1 1, .slice (some ⟨b, o, none⟩) 0 0] 22)).heap → Calls Tryd.prog 18 #[.slice (some ⟨w3.heap.size + 1, 0, none⟩) 3 3] Y fun e w' => ∃ v', e = .returned v' ∧ FlsAt w' v' AL ∧ Below Y.heap.size Y w') := HCC.out (.slice (some ⟨b, o, none⟩) L L) (.slice (some ⟨b, o, none⟩) 0 0) (fun W hb => flsAt_take (hcs.below hb) (by rw [HX.out]; omega) (by rw [HX.out]; omega)) (fun W hb => Or.inl ⟨some ⟨b, o, none⟩, 0, rfl, fun h => (nomatch h), List.drop_eq_nil_of_le (by rw [HX.out]; exact Nat.le_refl _)⟩)
              have hbB : Below w.heap.size w ((w3.alloc (.cells #[.string fp, .string fq, .int .i64 fn, .int .i64 flo, .int .i64 fhi, .int .i64 fseq] 32)).alloc (.cells #[.slice (some ⟨b, o, none⟩) L L, .slice (some ⟨w3.heap.size, 0, none⟩) 1 1, .slice (some ⟨b, o, none⟩) 0 0] 22)) := hbA.alloc hbA.size _
              have hcd := HC.out _ hbB.drew rfl
              clear HCC HC
              go_upto_region 12 with fail
              go_region_with (go_at_call 18; refine hcd.mono ?_; rintro e wX ⟨v', rfl, hfX, hbX⟩)
              all_goals
                have HFR : Hid (FlsAt wX v' AL) := hfX
                clear hfX
                go_wp2
                go_ret2
                exact ⟨_, _, rfl, HFR.out, rfl, hbB.drew.trans (hbX.mono hbB.drew.size)⟩
            · skip
              have HC : Hid (∀ Y : World, Below w.heap.size w Y → Y.heap = ((w3.alloc (.cells #[.string fp, .string fq, .int .i64 fn, .int .i64 flo, .int .i64 fhi, .int .i64 fseq] 32)).alloc (.cells #[.slice (some ⟨b, o, none⟩) n cap, .slice (some ⟨w3.heap.size, 0, none⟩) 1 1, .slice (some ⟨b, o + n * 6, none⟩) (L - n) (cap - n)] 22)).heap → Calls Tryd.prog 18 #[.slice (some ⟨w3.heap.size + 1, 0, none⟩) 3 3] Y fun e w' => ∃ v', e = .returned v' ∧ FlsAt w' v' AL ∧ Below Y.heap.size Y w') := HCC.out (.slice (some ⟨b, o, none⟩) n cap) (.slice (some ⟨b, o + n * 6, none⟩) (L - n) (cap - n)) (fun W hb => flsAt_take (hcs.below hb) (by rw [HX.out]; omega) (by rw [HX.out]; omega)) (fun W hb => flsAt_drop (hcs.below hb) (by rw [HX.out]; omega) (by rw [HX.out]; omega) (by rw [HX.out]))
              have hbB : Below w.heap.size w ((w3.alloc (.cells #[.string fp, .string fq, .int .i64 fn, .int .i64 flo, .int .i64 fhi, .int .i64 fseq] 32)).alloc (.cells #[.slice (some ⟨b, o, none⟩) n cap, .slice (some ⟨w3.heap.size, 0, none⟩) 1 1, .slice (some ⟨b, o + n * 6, none⟩) (L - n) (cap - n)] 22)) := hbA.alloc hbA.size _
              have hcd := HC.out _ hbB.drew rfl
              clear HCC HC
              go_upto_region 12 with fail
              go_region_with (go_at_call 18; refine hcd.mono ?_; rintro e wX ⟨v', rfl, hfX, hbX⟩)
              all_goals
                have HFR : Hid (FlsAt wX v' AL) := hfX
                clear hfX
                go_wp2
                go_ret2
                exact ⟨_, _, rfl, HFR.out, rfl, hbB.drew.trans (hbX.mono hbB.drew.size)⟩
    · obtain ⟨rfl, rfl⟩ := hAC.1 hE
      obtain ⟨j, rfl⟩ : ∃ j, E = j + 1 := ⟨E - 1, by omega⟩
      clear hpl HPF HPP hAC
      go_enter Tryd.func8, Tryd.ntmps8
      go_upto_region 1 with fail
      generalize w.alloc (.cells #[.string fp, .string fq, .int .i64 fn, .int .i64 flo, .int .i64 fhi, .int .i64 fseq] 32) = WA at hal hfl ⊢
      have hc1 := hck WA hal
      clear hck
      go_wp2_with fail
      refine hc1.mono ?_
      rintro e w1 ⟨ev, rfl, ht, hb1⟩
      clear hc1
      obtain rfl := ht.ok hR
      have hB1 : Below w.heap.size w w1 := hal.trans (hb1.mono hal.size)
      have hfl1 := hfl.below hb1
      obtain ⟨z0, z1, z2, z3, z4, z5, -⟩ := hfl1.cells
      dsimp only at z0 z1 z2 z3 z4 z5
      have hf1 := hfc w1 hB1
      simp only [errV] at hf1
      clear hfc hfl hb1 hal ht
      go_wp2_with fail
      refine hf1.mono ?_
      rintro e w2 ⟨rfl, hb2⟩
      clear hf1 z0 z1 z2 z3 z4 z5
      have hB2 : Below w.heap.size w w2 := hB1.trans (hb2.mono hB1.size)
      clear hfl1 hb2 hB1
      go_wp2
      go_ret2
      exact ⟨_, _, rfl, Or.inl ⟨none, 0, rfl, fun _ => rfl, rfl⟩, rfl, hB2⟩
  · obtain ⟨rfl, rfl⟩ := hAC.1 hR
    clear hpl HPF HPP hfc hAC
    go_enter Tryd.func8, Tryd.ntmps8
    go_upto_region 1 with fail
    generalize w.alloc (.cells #[.string fp, .string fq, .int .i64 fn, .int .i64 flo, .int .i64 fhi, .int .i64 fseq] 32) = WA at hal hfl ⊢
    have hc1 := hck WA hal
    clear hck
    go_wp2_with fail
    refine hc1.mono ?_
    rintro e w1 ⟨ev, rfl, ht, hb1⟩
    clear hc1
    obtain ⟨t, u, rfl⟩ := ht.bad hR
    have HTT : Hid (ToldE w1 a (.iface t u) AE) := ht
    have hB1 : Below w.heap.size w w1 := hal.trans (hb1.mono hal.size)
    clear ht hfl hb1 hal
    go_wp2
    go_ret2
    exact ⟨_, _, rfl, Or.inl ⟨none, 0, rfl, fun _ => rfl, rfl⟩, HTT.out, hB1⟩

theorem found_out {fs : List Fl} {p : ByteArray} (hr : Rises 0 fs) (h : ¬ findF fs p < 0) : ∃ n, n < fs.length ∧ findF fs p = n ∧ [fs.take n, fs.drop (n + 1)].flatten = fs.filter (offP p) := by
  have hex : ∃ n, ∃ hn : n < fs.length, fs[n].1 = p := Classical.byContradiction fun hno => by
    rw [findF_no (fun j hj e => hno ⟨j, hj, e⟩)] at h
    omega
  obtain ⟨n, hn, e⟩ := hex
  have hfirst : findF fs p = n := findF_at hn (fun j hj hjn e' => by
    have := rises_path hr hj hn (e'.trans e.symm)
    omega) e
  refine ⟨n, hn, hfirst, ?_⟩
  have hb := (place_back hr hn).1
  rw [e] at hb
  have e2 : fs.filter (offP p) = fs.filter (fun g => decide (g.1 ≠ p)) := rfl
  rw [e2, hb, List.eraseIdx_eq_take_drop_succ]
  simp

set_option maxRecDepth 100000 in
set_option maxHeartbeats 8000000 in
theorem lremove_any (v : Value) (fs : List Fl) (p : ByteArray) (w : World) (a : Nat → Addr) (h : EnvL w a) (hx : FlsAt w v fs) (hl : fs.length ≤ 100) (hsz : Short fs) :
    Calls Tryd.prog 10 #[v, .string p] w fun e w' => ∃ v' ev, e = .returned (.tuple #[v', ev]) ∧ FlsAt w' v' (remL fs p) ∧ ToldE w' a ev (remE fs p) ∧ Below w.heap.size w w' := by
  obtain ⟨q, cap, rfl⟩ := hx.form
  have hck := lcheck_any (.slice q fs.length cap) fs w a h hx hl hsz
  have hfd := fun W (hb : Below w.heap.size w W) => find_any (.slice q fs.length cap) fs p W (hx.below hb) (by omega)
  have HFX : Hid (FlsAt w (.slice q fs.length cap) fs) := hx
  have HEN : Hid (∀ W, Below w.heap.size w W → EnvL W a) := fun W hb => h.below hb
  have HFO : Hid ((listE fs).1 = 0 → ¬ findF fs p < 0 → ∃ n, n < fs.length ∧ findF fs p = n ∧ [fs.take n, fs.drop (n + 1)].flatten = fs.filter (offP p)) := fun h1 h2 => found_out (listE_ok.1 h1).2 h2
  obtain ⟨L, hL⟩ : ∃ L, fs.length = L := ⟨_, rfl⟩
  have HX : Hid (fs.length = L) := hL
  have hAC := rem_cases fs p
  generalize remE fs p = AE at hAC ⊢
  generalize remL fs p = AL at hAC ⊢
  rw [hL] at hl hck hfd ⊢
  clear hL hx hsz
  generalize listE fs = R at hck HFO hAC
  generalize findF fs p = FF at hfd HFO hAC
  generalize fs.filter (offP p) = PL at HFO hAC
  by_cases hR : R.1 = 0
  · replace hAC := hAC.2 hR
    have HF2 := HFO.out hR
    by_cases hF : FF < 0
    · obtain ⟨rfl, rfl⟩ := hAC.1 hF
      clear HF2 HFO hAC
      go_enter Tryd.func10, Tryd.ntmps10
      go_wp2_with fail
      refine hck.mono ?_
      rintro e w1 ⟨ev, rfl, ht, hb1⟩
      clear hck
      obtain rfl := ht.ok hR
      have hf1 := hfd w1 hb1
      clear hfd ht
      go_wp2_with fail
      refine hf1.mono ?_
      rintro e w2 ⟨rfl, hb2⟩
      clear hf1
      have hB2 : Below w.heap.size w w2 := hb1.trans (hb2.mono hb1.size)
      have he := (HEN.out w2 hB2).miss
      go_wp2
      go_quiet (fail)
      go_wp2
      go_ret2
      exact ⟨_, _, rfl, Or.inl ⟨none, 0, rfl, fun _ => rfl, rfl⟩, rfl, below_drewN hB2 nq⟩
    · obtain ⟨rfl, rfl⟩ := hAC.2 hF
      clear hAC
      obtain ⟨n, hn, rfl, hfl⟩ := HF2 hF
      have HFL : Hid ([fs.take n, fs.drop (n + 1)].flatten = AL) := hfl
      clear HFO hfl
      have hnL : n < L := by rw [HX.out] at hn; exact hn
      obtain ⟨b, o, hq, hcs⟩ := HFX.out.cells (fun e => by rw [e] at hn; simp at hn)
      have hcap : L ≤ cap := by
        have := HFX.out.room.2 (fun e => by rw [e] at hn; simp at hn)
        rw [HX.out] at this
        exact this
      subst hq
      go_enter Tryd.func10, Tryd.ntmps10
      go_wp2_with fail
      refine hck.mono ?_
      rintro e w1 ⟨ev, rfl, ht, hb1⟩
      clear hck
      obtain rfl := ht.ok hR
      have hf1 := hfd w1 hb1
      clear hfd ht
      go_wp2_with fail
      refine hf1.mono ?_
      rintro e w3 ⟨rfl, hb2⟩
      clear hf1
      have hB3 : Below w.heap.size w w3 := hb1.trans (hb2.mono hb1.size)
      have HCC : Hid (∀ (V3 : Value), (∀ W, Below w.heap.size w W → FlsAt W V3 (fs.drop (n + 1))) → ∀ Y : World, Below w.heap.size w Y → Y.heap = (w3.alloc (.cells #[.slice (some ⟨b, o, none⟩) n cap, V3] 22)).heap →           Calls Tryd.prog 18 #[.slice (some ⟨w3.heap.size, 0, none⟩) 2 2] Y fun e w' => ∃ v', e = .returned v' ∧ FlsAt w' v' AL ∧ Below Y.heap.size Y w') := fun V3 g3 Y hbY hY => by
        have hc2 : Y.heap[w3.heap.size]? = some (.cells #[.slice (some ⟨b, o, none⟩) n cap, V3] 22 (0, 0)) := by
          rw [hY]
          exact heap_alloc_new w3 _
        have k1 : FlsAt Y (.slice (some ⟨b, o, none⟩) n cap) (fs.take n) := flsAt_take (hcs.below hbY) (by rw [HX.out]; omega) (by rw [HX.out]; exact hcap)
        have k3 := g3 Y hbY
        have e1 : (fs.take n).length = n := by rw [List.length_take, HX.out]; omega
        obtain ⟨q3, c3, e3⟩ := k3.form
        have h' := concatF_any w3.heap.size [fs.take n, fs.drop (n + 1)] Y (fun j hj => by
          obtain rfl | rfl : j = 0 ∨ j = 1 := by simp at hj; omega
          · exact ⟨some ⟨b, o, none⟩, cap, by rw [cell_of_row _ _ _ _ _ _ hc2]; show some _ = some _; rw [show [fs.take n, fs.drop (n + 1)][0].length = n from e1]; rfl, by rw [show [fs.take n, fs.drop (n + 1)][0].length = n from e1]; exact k1⟩
          · exact ⟨q3, c3, by rw [cell_of_row _ _ _ _ _ _ hc2]; exact congrArg some e3, by rw [e3] at k3; exact k3⟩) (by simp) (by have := HX.out; simp; omega)
        rw [HFL.out] at h'
        exact h'
      have i0 : ¬ (n : Int) < 0 := by omega
      have i1 : (0 : Int) ≤ (n : Int) := by omega
      have i2 : (n : Int) + 1 ≤ (L : Int) := by omega
      have i3 : (n : Int) ≤ (cap : Int) := by omega
      have i4 : (0 : Int) ≤ (n : Int) + 1 := by omega
      have i5 : (L : Int) ≤ (cap : Int) := by omega
      have i6 : IntKind.i64.wrap ((n : Int) + 1) = (n : Int) + 1 := IntWalk.i64_in _ (by omega)
      have i7 : ((n : Int) + 1).toNat = n + 1 := by omega
      clear hF HF2 hn hb1 hb2
      by_cases hcn : cap = n + 1
      · subst hcn
        obtain rfl : L = n + 1 := by omega
        have HC : Hid (∀ Y : World, Below w.heap.size w Y → Y.heap = (w3.alloc (.cells #[.slice (some ⟨b, o, none⟩) n (n + 1), .slice (some ⟨b, o, none⟩) 0 0] 22)).heap → Calls Tryd.prog 18 #[.slice (some ⟨w3.heap.size, 0, none⟩) 2 2] Y fun e w' => ∃ v', e = .returned v' ∧ FlsAt w' v' AL ∧ Below Y.heap.size Y w') := HCC.out (.slice (some ⟨b, o, none⟩) 0 0) (fun W hb => Or.inl ⟨some ⟨b, o, none⟩, 0, rfl, fun h => (nomatch h), List.drop_eq_nil_of_le (by rw [HX.out]; exact Nat.le_refl _)⟩)
        have hbB : Below w.heap.size w (w3.alloc (.cells #[.slice (some ⟨b, o, none⟩) n (n + 1), .slice (some ⟨b, o, none⟩) 0 0] 22)) := hB3.alloc hB3.size _
        have hcd := HC.out _ hbB.drew rfl
        clear HCC HC
        go_upto_region 7 with fail
        go_region_with (go_at_call 18; refine hcd.mono ?_; rintro e wX ⟨v', rfl, hfX, hbX⟩)
        all_goals
          have HFR : Hid (FlsAt wX v' AL) := hfX
          clear hfX
          go_wp2
          go_ret2
          exact ⟨_, _, rfl, HFR.out, rfl, hbB.drew.trans (hbX.mono hbB.drew.size)⟩
      · skip
        have HC : Hid (∀ Y : World, Below w.heap.size w Y → Y.heap = (w3.alloc (.cells #[.slice (some ⟨b, o, none⟩) n cap, .slice (some ⟨b, o + (n + 1) * 6, none⟩) (L - (n + 1)) (cap - (n + 1))] 22)).heap → Calls Tryd.prog 18 #[.slice (some ⟨w3.heap.size, 0, none⟩) 2 2] Y fun e w' => ∃ v', e = .returned v' ∧ FlsAt w' v' AL ∧ Below Y.heap.size Y w') := HCC.out (.slice (some ⟨b, o + (n + 1) * 6, none⟩) (L - (n + 1)) (cap - (n + 1))) (fun W hb => flsAt_drop (hcs.below hb) (by rw [HX.out]; omega) (by rw [HX.out]; omega) (by rw [HX.out]))
        have hbB : Below w.heap.size w (w3.alloc (.cells #[.slice (some ⟨b, o, none⟩) n cap, .slice (some ⟨b, o + (n + 1) * 6, none⟩) (L - (n + 1)) (cap - (n + 1))] 22)) := hB3.alloc hB3.size _
        have hcd := HC.out _ hbB.drew rfl
        clear HCC HC
        go_upto_region 7 with fail
        go_region_with (go_at_call 18; refine hcd.mono ?_; rintro e wX ⟨v', rfl, hfX, hbX⟩)
        all_goals
          have HFR : Hid (FlsAt wX v' AL) := hfX
          clear hfX
          go_wp2
          go_ret2
          exact ⟨_, _, rfl, HFR.out, rfl, hbB.drew.trans (hbX.mono hbB.drew.size)⟩
  · obtain ⟨rfl, rfl⟩ := hAC.1 hR
    clear hfd HFO hAC
    go_enter Tryd.func10, Tryd.ntmps10
    go_wp2_with fail
    refine hck.mono ?_
    rintro e w1 ⟨ev, rfl, ht, hb1⟩
    clear hck
    obtain ⟨t, u, rfl⟩ := ht.bad hR
    have HTT : Hid (ToldE w1 a (.iface t u) AE) := ht
    clear ht
    go_wp2
    go_ret2
    exact ⟨_, _, rfl, Or.inl ⟨none, 0, rfl, fun _ => rfl, rfl⟩, HTT.out, hb1⟩
end Go.Proofs.YtpkoefpdpoikkaaDoor
