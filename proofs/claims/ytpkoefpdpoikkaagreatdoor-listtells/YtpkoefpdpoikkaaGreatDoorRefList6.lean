/-
  The contracts of the document's own AddOf and RemoveOf.
-/
import Derived.Test.YtpkoefpdpoikkaaGreatDoorRefList5
namespace Go.Proofs.YtpkoefpdpoikkaaGreatDoor
open Go.RowKit Go.Extern.Stop Go.Stop Go.Extern Go.Sort Go.Shelf Go.Lib

def addE (fs : List Fl) (f : Fl) : Nat × Option Nat := if (listE fs).1 ≠ 0 then listE fs else if fileE f ≠ 0 then (fileE f, none) else if 0 ≤ findF fs f.1 then (7, none) else if 60 ≤ fs.length then (8, none) else (0, none)
def addL (fs : List Fl) (f : Fl) : List Fl := if (addE fs f).1 = 0 then placeL fs f else []
def remE (fs : List Fl) (p : ByteArray) : Nat × Option Nat := if (listE fs).1 ≠ 0 then listE fs else if findF fs p < 0 then (6, none) else (0, none)
def remL (fs : List Fl) (p : ByteArray) : List Fl := if (remE fs p).1 = 0 then fs.filter (offP p) else []

theorem addE_le (fs : List Fl) (f : Fl) : (addE fs f).1 ≤ 12 := by
  unfold addE
  have h1 : (listE fs).1 ≤ 12 := by
    unfold listE
    split
    · exact (by decide : (8 : Nat) ≤ 12)
    · exact lstG_le _ _ _
  have h2 := fileE_le f
  repeat' split
  all_goals first | exact h1 | (dsimp only; omega)
theorem remE_le (fs : List Fl) (p : ByteArray) : (remE fs p).1 ≤ 12 := by
  unfold remE
  have h1 : (listE fs).1 ≤ 12 := by
    unfold listE
    split
    · exact (by decide : (8 : Nat) ≤ 12)
    · exact lstG_le _ _ _
  repeat' split
  all_goals first | exact h1 | (dsimp only; omega)

theorem FC.ne_fls {W : World} {F : Nat} {x y : Int} {v : Value} {fs : List Fl} (h : FC W F x y) (hr : FlsAt W v fs) (o : Nat) (z : Value) (o2 : Nat) (z2 : Value) : FlsAt ((W.setCell ⟨F, o, none⟩ z).setCell ⟨F, o2, none⟩ z2) v fs := by
  rcases hr with hr | ⟨b, ob, cap, hv, hl, hc⟩
  · exact Or.inl hr
  · refine Or.inr ⟨b, ob, cap, hv, hl, fun j hj => ?_⟩
    have hbF : b ≠ F := by
      rintro rfl
      have h0 := (hc j hj).1
      rw [cell_of_row _ _ _ _ _ _ h] at h0
      have hm := Array.mem_of_getElem? h0
      simp at hm
    obtain ⟨c0, c1, c2, c3, c4, c5⟩ := hc j hj
    have key : ∀ t u, W.cell? ⟨b, t, none⟩ = some u → ((W.setCell ⟨F, o, none⟩ z).setCell ⟨F, o2, none⟩ z2).cell? ⟨b, t, none⟩ = some u := fun t u hu => by
      rw [World.cell?_setCell_other _ _ _ _ (by intro e; injection e with e; exact hbF e.symm), World.cell?_setCell_other _ _ _ _ (by intro e; injection e with e; exact hbF e.symm)]
      exact hu
    exact ⟨key _ _ c0, key _ _ c1, key _ _ c2, key _ _ c3, key _ _ c4, key _ _ c5⟩
theorem fc_other {W : World} {F G : Nat} {x y : Int} (h : FC W F x y) (hne : G ≠ F) (o : Nat) (z : Value) : FC (W.setCell ⟨G, o, none⟩ z) F x y := (heap_setCell_other _ _ _ _ (fun e => hne e.symm)).trans h
theorem fl_other {W : World} {F G : Nat} {f : Fl} (h : FlAt W F f) (hne : G ≠ F) (o : Nat) (z : Value) : FlAt (W.setCell ⟨G, o, none⟩ z) F f := (heap_setCell_other _ _ _ _ (fun e => hne e.symm)).trans h

set_option maxRecDepth 100000 in
set_option maxHeartbeats 8000000 in
theorem addOf_any (v : Value) (fs : List Fl) (f : Fl) (w : World) (hx : FlsAt w v fs) (hl : fs.length ≤ 1000) (hsz : ∀ g ∈ fs, g.1.size ≤ 100000 ∧ g.2.1.size ≤ 100000) (hf : f.1.size ≤ 100000 ∧ f.2.1.size ≤ 100000) :
    Calls Tryz.prog 40 #[v, flV f] w fun e w' => ∃ v', e = .returned (.tuple #[v', .agg #[.int .i64 (addE fs f).1, .int .i64 (atZ (addE fs f).2)]]) ∧ FlsAt w' v' (addL fs f) ∧ Below w.heap.size w w' := by
  obtain ⟨q, cap, rfl⟩ := hx.form
  have HFX : Hid (FlsAt w (.slice q fs.length cap) fs) := hx
  have HSZ : Hid (∀ g ∈ fs, g.1.size ≤ 100000 ∧ g.2.1.size ≤ 100000) := hsz
  have HLF : Hid (∀ W, Below w.heap.size w W → Calls Tryz.prog 36 #[.slice q fs.length cap] W fun e w' => e = .returned (.agg #[.int .i64 (listE fs).1, .int .i64 (atZ (listE fs).2)]) ∧ Below W.heap.size W w') := fun W hb => listFault_any _ fs W (hx.below hb) (by omega) hsz
  have HFO : Hid (∀ W, Below w.heap.size w W → Calls Tryz.prog 42 #[.slice q fs.length cap, .string f.1] W fun e w' => e = .returned (.int .i64 (findF fs f.1)) ∧ w' = W) := fun W hb => findOf_any _ fs f.1 W (hx.below hb) (by omega)
  have HPL : Hid (∀ W, Below w.heap.size w W → Calls Tryz.prog 102 #[.slice q fs.length cap, flV f] W fun e w' => ∃ v', e = .returned v' ∧ FlsAt w' v' (placeL fs f) ∧ Below W.heap.size W w') := fun W hb => placed_any _ fs f W (hx.below hb) hl (fun g hg => (hsz g hg).1) hf.1
  have HFE : Hid (∀ W, Calls Tryz.prog 21 #[flV f] W fun e w' => e = .returned (.int .i64 (fileE f)) ∧ Below W.heap.size W w') := fun W => fileError_any f W hf.1 hf.2
  obtain ⟨L, hL⟩ : ∃ L, fs.length = L := ⟨_, rfl⟩
  have HX : Hid (fs.length = L) := hL
  rw [hL] at hl HLF HFO HPL ⊢
  have HLA : Hid (FlAt (w.alloc (.cells #[.string f.1, .string f.2.1, .int .i64 f.2.2.1, .int .i64 f.2.2.2.1, .int .i64 f.2.2.2.2.1, .int .i64 f.2.2.2.2.2] 23)) w.heap.size f) := FlAt.new w f
  have hal : Below w.heap.size w (w.alloc (.cells #[.string f.1, .string f.2.1, .int .i64 f.2.2.1, .int .i64 f.2.2.2.1, .int .i64 f.2.2.2.2.1, .int .i64 f.2.2.2.2.2] 23)) := (Below.refl _ _).alloc (Nat.le_refl _) _
  obtain ⟨E1, hE1⟩ : ∃ E, listE fs = E := ⟨_, rfl⟩
  obtain ⟨E2, hE2⟩ : ∃ E, fileE f = E := ⟨_, rfl⟩
  obtain ⟨FI, hFI⟩ : ∃ E, findF fs f.1 = E := ⟨_, rfl⟩
  obtain ⟨R, hR⟩ : ∃ E, addE fs f = E := ⟨_, rfl⟩
  obtain ⟨RL, hRL⟩ : ∃ E, addL fs f = E := ⟨_, rfl⟩
  have HR : Hid (R = if E1.1 ≠ 0 then E1 else if E2 ≠ 0 then (E2, none) else if 0 ≤ FI then (7, none) else if 60 ≤ L then (8, none) else (0, none)) := by
    show _ = _
    rw [← hR]; unfold addE; rw [hE1, hE2, hFI, hL]
  have HRL : Hid (RL = if R.1 = 0 then placeL fs f else []) := by
    show _ = _
    rw [← hRL]; unfold addL; rw [hR]
  rw [hE1] at HLF
  rw [hFI] at HFO
  rw [hE2] at HFE
  rw [hR, hRL]
  clear hR hRL hE1 hE2 hFI hL hx hsz
  obtain ⟨EC, EA⟩ := E1
  dsimp only at HLF HR
  have hfl := HLF.out
  unfold flV at HPL HFE ⊢
  obtain ⟨fp, fq, fn, flo, fhi, fseq⟩ := f
  dsimp only at HLA hal hf HPL HFE HFO ⊢
  generalize hWA : w.alloc (.cells #[.string fp, .string fq, .int .i64 fn, .int .i64 flo, .int .i64 fhi, .int .i64 fseq] 23) = WA at HLA hal
  have hS1 : WA.heap.size = w.heap.size + 1 := by rw [← hWA]; simp
  have hf0 := FC.new WA
  have hal2 : Below WA.heap.size WA (WA.alloc (.cells #[.int .i64 0, .int .i64 0] 64)) := (Below.refl _ _).alloc (Nat.le_refl _) _
  go_enter Tryz.func40, Tryz.ntmps40
  go_wp2_with fail
  generalize hWB : WA.alloc (.cells #[.int .i64 0, .int .i64 0] 64) = WB at hf0 hal2 ⊢
  obtain ⟨F1, hF1e⟩ : ∃ F, w.heap.size + 1 = F := ⟨_, rfl⟩
  rw [hS1, hF1e] at hf0
  rw [hF1e]
  have hB0 : Below w.heap.size w WB := hal.trans (hal2.mono hal.size)
  clear hfl
  have hF1 : w.heap.size ≤ F1 := by omega
  have hlf := HLF.out WB hB0
  refine hlf.mono ?_
  rintro e w1 ⟨rfl, hb1⟩
  clear hlf
  have hB1 : Below w.heap.size w w1 := hB0.trans (hb1.mono hB0.size)
  have hf1 := hf0.below hb1
  have hal3 : Below w1.heap.size w1 (w1.alloc (.cells #[.int .i64 EC, .int .i64 (atZ EA)] 64)) := (Below.refl _ _).alloc (Nat.le_refl _) _
  have hgR : FC (w1.alloc (.cells #[.int .i64 EC, .int .i64 (atZ EA)] 64)) w1.heap.size EC (atZ EA) := heap_alloc_new _ _
  have hfR := hf1.below hal3
  have HFLR : Hid (FlAt (w1.alloc (.cells #[.int .i64 EC, .int .i64 (atZ EA)] 64)) w.heap.size (fp, fq, fn, flo, fhi, fseq)) := ((HLA.out.below hal2).below hb1).below hal3
  have hBR : Below w.heap.size w (w1.alloc (.cells #[.int .i64 EC, .int .i64 (atZ EA)] 64)) := hB1.trans (hal3.mono hB1.size)
  have hG1 : w.heap.size ≤ w1.heap.size := hB1.size
  have hF1G : F1 < w1.heap.size := hf1.lt
  clear hal3 hf1 hf0 hal2 hb1 hB0 hWB hB1 HLA hWA hal
  go_upto_region 2 with fail
  generalize w1.alloc (.cells #[.int .i64 EC, .int .i64 (atZ EA)] 64) = W2 at hgR hfR hBR HFLR ⊢
  generalize w1.heap.size = G at hgR hG1 hF1G ⊢
  by_cases hE : EC = 0
  · subst hE
    have HR1 : Hid (R = if E2 ≠ 0 then (E2, none) else if 0 ≤ FI then (7, none) else if 60 ≤ L then (8, none) else (0, none)) := by
      show _ = _
      rw [HR.out, if_neg (by simp)]
    clear HR
    obtain ⟨z0, z1, z2, z3, z4, z5, -⟩ := HFLR.out.cells
    dsimp only at z0 z1 z2 z3 z4 z5
    have k0 := hgR.c0
    have hfe := HFE.out W2
    go_wp2_with fail
    refine hfe.mono ?_
    rintro e w3 ⟨rfl, hb3⟩
    clear hfe z0 z1 z2 z3 z4 z5 k0
    replace hgR := hgR.below hb3
    replace hfR := hfR.below hb3
    have HFL3 : Hid (FlAt w3 w.heap.size (fp, fq, fn, flo, fhi, fseq)) := HFLR.out.below hb3
    replace hBR : Below w.heap.size w w3 := hBR.trans (hb3.mono hBR.size)
    clear hb3 HFLR
    have HFLR := HFL3
    clear HFL3
    have hbr := bare_of ((E2 : Nat)) w3
    go_wp2_with fail
    refine hbr.mono ?_
    rintro e w3x ⟨rfl, hbn⟩
    clear hbr
    have hfn := hfR.below hbn
    have hgn := hgR.below hbn
    have hBn : Below w.heap.size w w3x := hBR.trans (hbn.mono hBR.size)
    have hfln := HFLR.out.below hbn
    have p0 := hgn.c0
    have p1 := hgn.c1
    have pz := hgn.fz
    go_upto_region 4 with fail
    have hgR := hgn.set ((E2 : Nat)) (-1)
    have hfR : FC ((w3x.setCell ⟨G, 0, none⟩ (.int .i64 ((E2 : Nat)))).setCell ⟨G, 1, none⟩ (.int .i64 (-1))) F1 0 0 := fc_other (fc_other hfn (by omega) _ _) (by omega) _ _
    have HFLR : Hid (FlAt ((w3x.setCell ⟨G, 0, none⟩ (.int .i64 ((E2 : Nat)))).setCell ⟨G, 1, none⟩ (.int .i64 (-1))) w.heap.size (fp, fq, fn, flo, fhi, fseq)) := fl_other (fl_other hfln (by omega) _ _) (by omega) _ _
    clear hfln
    have hBR : Below w.heap.size w ((w3x.setCell ⟨G, 0, none⟩ (.int .i64 ((E2 : Nat)))).setCell ⟨G, 1, none⟩ (.int .i64 (-1))) := (hBn.setCell hG1 _).setCell hG1 _
    clear hfn hgn hBn p0 p1 pz hbn
    generalize (w3x.setCell ⟨G, 0, none⟩ (.int .i64 ((E2 : Nat)))).setCell ⟨G, 1, none⟩ (.int .i64 (-1)) = W4 at hfR hgR hBR HFLR ⊢
    by_cases hE2 : E2 = 0
    · subst hE2
      have HR2 : Hid (R = if 0 ≤ FI then (7, none) else if 60 ≤ L then (8, none) else (0, none)) := by
        show _ = _
        rw [HR1.out, if_neg (by simp)]
      clear HR1
      have k0 := hgR.c0
      have z0 := HFLR.out.cells.1
      dsimp only at z0
      have hfo := HFO.out W4 hBR
      go_wp2_with fail
      refine hfo.mono ?_
      rintro e w5 ⟨rfl, rfl⟩
      clear hfo z0
      by_cases hFI : 0 ≤ FI
      · have HRE : Hid (R = (7, none)) := by
          show _ = _
          rw [HR2.out, if_pos hFI]
        have HRLE : Hid (RL = []) := by
          show _ = _
          rw [HRL.out, HRE.out]; rfl
        have r1 : (0 : Int) ≤ FI := hFI
        clear HR2
        have hbr := bare_of (7) w5
        go_wp2_with fail
        refine hbr.mono ?_
        rintro e w5x ⟨rfl, hbn⟩
        clear hbr
        have hfn := hfR.below hbn
        have hgn := hgR.below hbn
        have hBn : Below w.heap.size w w5x := hBR.trans (hbn.mono hBR.size)
        have hfln := HFLR.out.below hbn
        have p0 := hgn.c0
        have p1 := hgn.c1
        have pz := hgn.fz
        go_upto_region 6 with fail
        have hgR := hgn.set (7) (-1)
        have hfR : FC ((w5x.setCell ⟨G, 0, none⟩ (.int .i64 (7))).setCell ⟨G, 1, none⟩ (.int .i64 (-1))) F1 0 0 := fc_other (fc_other hfn (by omega) _ _) (by omega) _ _
        have HFLR : Hid (FlAt ((w5x.setCell ⟨G, 0, none⟩ (.int .i64 (7))).setCell ⟨G, 1, none⟩ (.int .i64 (-1))) w.heap.size (fp, fq, fn, flo, fhi, fseq)) := fl_other (fl_other hfln (by omega) _ _) (by omega) _ _
        clear hfln
        have hBR : Below w.heap.size w ((w5x.setCell ⟨G, 0, none⟩ (.int .i64 (7))).setCell ⟨G, 1, none⟩ (.int .i64 (-1))) := (hBn.setCell hG1 _).setCell hG1 _
        clear hfn hgn hBn p0 p1 pz hbn
        generalize (w5x.setCell ⟨G, 0, none⟩ (.int .i64 (7))).setCell ⟨G, 1, none⟩ (.int .i64 (-1)) = W6 at hfR hgR hBR HFLR ⊢
        have j0 := hfR.c0
        have j1 := hfR.c1
        have jz := hfR.fz
        have k0 := hgR.c0
        have k1 := hgR.c1
        have hBd := hBR.drew
        have hfd : FC W6.drew F1 0 0 := hfR.below (Below.refl W6.heap.size W6).drew
        have hgd : FC W6.drew G (7) (-1) := hgR.below (Below.refl W6.heap.size W6).drew
        have m0 := hfd.c0
        have m1 := hfd.c1
        have mz := hfd.fz
        have n0 := hgd.c0
        have n1 := hgd.c1
        clear hfd hgd hfR hgR
        go_wp2_with fail
        go_region
        all_goals go_wp2
        all_goals refine bodyPost_ret (v := .tuple #[.slice none 0 0, .agg #[.int .i64 (7), .int .i64 (-1)]]) (by simp [results, Tryz.results40, go_sem, j0, j1]) rfl ⟨_, by rw [HRE.out] <;> rfl, by rw [HRLE.out]; exact Or.inl ⟨none, 0, rfl, fun _ => rfl, rfl⟩, ?_⟩
        all_goals first
          | exact (hBR.setCell hF1 _).setCell hF1 _
          | exact (hBd.setCell hF1 _).setCell hF1 _
          | exact ((hBR.setCell hF1 _).setCell hF1 _).drew
      · have r1 : ¬ (0 : Int) ≤ FI := hFI
        have r2 : FI < 0 := by omega
        have HR3 : Hid (R = if 60 ≤ L then (8, none) else (0, none)) := by
          show _ = _
          rw [HR2.out, if_neg hFI]
        clear HR2
        by_cases hLL : 60 ≤ L
        · have HRE : Hid (R = (8, none)) := by
            show _ = _
            rw [HR3.out, if_pos hLL]
          have HRLE : Hid (RL = []) := by
            show _ = _
            rw [HRL.out, HRE.out]; rfl
          have s1 : (60 : Int) ≤ (L : Int) := by omega
          clear HR3
          have hbr := bare_of (8) w5
          go_wp2_with fail
          refine hbr.mono ?_
          rintro e w5x ⟨rfl, hbn⟩
          clear hbr
          have hfn := hfR.below hbn
          have hgn := hgR.below hbn
          have hBn : Below w.heap.size w w5x := hBR.trans (hbn.mono hBR.size)
          have hfln := HFLR.out.below hbn
          have p0 := hgn.c0
          have p1 := hgn.c1
          have pz := hgn.fz
          go_upto_region 8 with fail
          have hgR := hgn.set (8) (-1)
          have hfR : FC ((w5x.setCell ⟨G, 0, none⟩ (.int .i64 (8))).setCell ⟨G, 1, none⟩ (.int .i64 (-1))) F1 0 0 := fc_other (fc_other hfn (by omega) _ _) (by omega) _ _
          have HFLR : Hid (FlAt ((w5x.setCell ⟨G, 0, none⟩ (.int .i64 (8))).setCell ⟨G, 1, none⟩ (.int .i64 (-1))) w.heap.size (fp, fq, fn, flo, fhi, fseq)) := fl_other (fl_other hfln (by omega) _ _) (by omega) _ _
          clear hfln
          have hBR : Below w.heap.size w ((w5x.setCell ⟨G, 0, none⟩ (.int .i64 (8))).setCell ⟨G, 1, none⟩ (.int .i64 (-1))) := (hBn.setCell hG1 _).setCell hG1 _
          clear hfn hgn hBn p0 p1 pz hbn
          generalize (w5x.setCell ⟨G, 0, none⟩ (.int .i64 (8))).setCell ⟨G, 1, none⟩ (.int .i64 (-1)) = W6 at hfR hgR hBR HFLR ⊢
          have j0 := hfR.c0
          have j1 := hfR.c1
          have jz := hfR.fz
          have k0 := hgR.c0
          have k1 := hgR.c1
          have hBd := hBR.drew
          have hfd : FC W6.drew F1 0 0 := hfR.below (Below.refl W6.heap.size W6).drew
          have hgd : FC W6.drew G (8) (-1) := hgR.below (Below.refl W6.heap.size W6).drew
          have m0 := hfd.c0
          have m1 := hfd.c1
          have mz := hfd.fz
          have n0 := hgd.c0
          have n1 := hgd.c1
          clear hfd hgd hfR hgR
          go_wp2_with fail
          go_region
          all_goals go_wp2
          all_goals refine bodyPost_ret (v := .tuple #[.slice none 0 0, .agg #[.int .i64 (8), .int .i64 (-1)]]) (by simp [results, Tryz.results40, go_sem, j0, j1]) rfl ⟨_, by rw [HRE.out] <;> rfl, by rw [HRLE.out]; exact Or.inl ⟨none, 0, rfl, fun _ => rfl, rfl⟩, ?_⟩
          all_goals first
            | exact (hBR.setCell hF1 _).setCell hF1 _
            | exact (hBd.setCell hF1 _).setCell hF1 _
            | exact ((hBR.setCell hF1 _).setCell hF1 _).drew
        · have HRE : Hid (R = (0, none)) := by
            show _ = _
            rw [HR3.out, if_neg hLL]
          have HRLE : Hid (RL = placeL fs (fp, fq, fn, flo, fhi, fseq)) := by
            show _ = _
            rw [HRL.out, HRE.out]; rfl
          have s1 : ¬ (60 : Int) ≤ (L : Int) := by omega
          have s2 : (L : Int) < 60 := by omega
          clear HR3
          obtain ⟨z0, z1, z2, z3, z4, z5, -⟩ := HFLR.out.cells
          dsimp only at z0 z1 z2 z3 z4 z5
          have hpl := HPL.out w5 hBR
          go_wp2_with fail
          refine hpl.mono ?_
          rintro e w6 ⟨v6, rfl, hv6, hb6⟩
          clear hpl z0 z1 z2 z3 z4 z5 k0
          have hf6 := hfR.below hb6
          have hB6 : Below w.heap.size w w6 := hBR.trans (hb6.mono hBR.size)
          have hfi := fine_of w6
          go_wp2_with fail
          refine hfi.mono ?_
          rintro e w7 ⟨rfl, hb7⟩
          clear hfi
          have hf7 := hf6.below hb7
          have hB7 : Below w.heap.size w w7 := hB6.trans (hb7.mono hB6.size)
          have j0 := hf7.c0
          have j1 := hf7.c1
          have jz := hf7.fz
          go_wp2
          refine bodyPost_ret (v := .tuple #[v6, .agg #[.int .i64 0, .int .i64 (-1)]]) (by simp [results, Tryz.results40, go_sem, j0, j1]) rfl ⟨_, by rw [HRE.out]; rfl, ?_, (hB7.setCell hF1 _).setCell hF1 _⟩
          rw [HRLE.out]
          exact hf7.ne_fls (hv6.below hb7) _ _ _ _
    · have HRE : Hid (R = (E2, none)) := by
        show _ = _
        rw [HR1.out, if_pos hE2]
      have HRLE : Hid (RL = []) := by
        show _ = _
        rw [HRL.out, HRE.out, if_neg hE2]
      have q1 : ¬ ((E2 : Nat) : Int) = 0 := by omega
      have q2 : (((E2 : Nat) : Int) == 0) = false := beq_eq_false_iff_ne.2 q1
      have q3 : (0 : Int) < ((E2 : Nat) : Int) := by omega
      clear HR1
      have j0 := hfR.c0
      have j1 := hfR.c1
      have jz := hfR.fz
      have k0 := hgR.c0
      have k1 := hgR.c1
      have hBd := hBR.drew
      have hfd : FC W4.drew F1 0 0 := hfR.below (Below.refl W4.heap.size W4).drew
      have hgd : FC W4.drew G ((E2 : Nat)) (-1) := hgR.below (Below.refl W4.heap.size W4).drew
      have m0 := hfd.c0
      have m1 := hfd.c1
      have mz := hfd.fz
      have n0 := hgd.c0
      have n1 := hgd.c1
      clear hfd hgd hfR hgR
      go_wp2_with fail
      go_region
      all_goals go_wp2
      all_goals refine bodyPost_ret (v := .tuple #[.slice none 0 0, .agg #[.int .i64 ((E2 : Nat)), .int .i64 (-1)]]) (by simp [results, Tryz.results40, go_sem, j0, j1]) rfl ⟨_, by rw [HRE.out] <;> rfl, by rw [HRLE.out]; exact Or.inl ⟨none, 0, rfl, fun _ => rfl, rfl⟩, ?_⟩
      all_goals first
        | exact (hBR.setCell hF1 _).setCell hF1 _
        | exact (hBd.setCell hF1 _).setCell hF1 _
        | exact ((hBR.setCell hF1 _).setCell hF1 _).drew
  · have HRE : Hid (R = (EC, EA)) := by
      show _ = _
      rw [HR.out, if_pos hE]
    have HRLE : Hid (RL = []) := by
      show _ = _
      rw [HRL.out, HRE.out, if_neg hE]
    have q1 : ¬ ((EC : Nat) : Int) = 0 := by omega
    have q2 : (((EC : Nat) : Int) == 0) = false := beq_eq_false_iff_ne.2 q1
    have q3 : (0 : Int) < ((EC : Nat) : Int) := by omega
    clear HR
    have j0 := hfR.c0
    have j1 := hfR.c1
    have jz := hfR.fz
    have k0 := hgR.c0
    have k1 := hgR.c1
    have hBd := hBR.drew
    have hfd : FC W2.drew F1 0 0 := hfR.below (Below.refl W2.heap.size W2).drew
    have hgd : FC W2.drew G ((EC : Nat)) (atZ EA) := hgR.below (Below.refl W2.heap.size W2).drew
    have m0 := hfd.c0
    have m1 := hfd.c1
    have mz := hfd.fz
    have n0 := hgd.c0
    have n1 := hgd.c1
    clear hfd hgd hfR hgR
    go_wp2_with fail
    go_region
    all_goals go_wp2
    all_goals refine bodyPost_ret (v := .tuple #[.slice none 0 0, .agg #[.int .i64 ((EC : Nat)), .int .i64 (atZ EA)]]) (by simp [results, Tryz.results40, go_sem, j0, j1]) rfl ⟨_, by rw [HRE.out] <;> rfl, by rw [HRLE.out]; exact Or.inl ⟨none, 0, rfl, fun _ => rfl, rfl⟩, ?_⟩
    all_goals first
      | exact (hBR.setCell hF1 _).setCell hF1 _
      | exact (hBd.setCell hF1 _).setCell hF1 _
      | exact ((hBR.setCell hF1 _).setCell hF1 _).drew

set_option maxRecDepth 100000 in
set_option maxHeartbeats 8000000 in
theorem removeOf_any (v : Value) (fs : List Fl) (p : ByteArray) (w : World) (hx : FlsAt w v fs) (hl : fs.length ≤ 1000) (hsz : ∀ g ∈ fs, g.1.size ≤ 100000 ∧ g.2.1.size ≤ 100000) :
    Calls Tryz.prog 41 #[v, .string p] w fun e w' => ∃ v', e = .returned (.tuple #[v', .agg #[.int .i64 (remE fs p).1, .int .i64 (atZ (remE fs p).2)]]) ∧ FlsAt w' v' (remL fs p) ∧ Below w.heap.size w w' := by
  obtain ⟨q, cap, rfl⟩ := hx.form
  have HLF : Hid (∀ W, Below w.heap.size w W → Calls Tryz.prog 36 #[.slice q fs.length cap] W fun e w' => e = .returned (.agg #[.int .i64 (listE fs).1, .int .i64 (atZ (listE fs).2)]) ∧ Below W.heap.size W w') := fun W hb => listFault_any _ fs W (hx.below hb) (by omega) hsz
  have HFO : Hid (∀ W, Below w.heap.size w W → Calls Tryz.prog 42 #[.slice q fs.length cap, .string p] W fun e w' => e = .returned (.int .i64 (findF fs p)) ∧ w' = W) := fun W hb => findOf_any _ fs p W (hx.below hb) (by omega)
  have HWO : Hid (∀ W, Below w.heap.size w W → Calls Tryz.prog 103 #[.slice q fs.length cap, .string p] W fun e w' => ∃ v', e = .returned v' ∧ FlsAt w' v' (fs.filter (offP p)) ∧ Below W.heap.size W w') := fun W hb => without_any _ fs p W (hx.below hb) (by omega)
  obtain ⟨L, hL⟩ : ∃ L, fs.length = L := ⟨_, rfl⟩
  rw [hL] at hl HLF HFO HWO ⊢
  obtain ⟨E1, hE1⟩ : ∃ E, listE fs = E := ⟨_, rfl⟩
  obtain ⟨FI, hFI⟩ : ∃ E, findF fs p = E := ⟨_, rfl⟩
  obtain ⟨R, hR⟩ : ∃ E, remE fs p = E := ⟨_, rfl⟩
  obtain ⟨RL, hRL⟩ : ∃ E, remL fs p = E := ⟨_, rfl⟩
  have HR : Hid (R = if E1.1 ≠ 0 then E1 else if FI < 0 then (6, none) else (0, none)) := by
    show _ = _
    rw [← hR]; unfold remE; rw [hE1, hFI]
  have HRL : Hid (RL = if R.1 = 0 then fs.filter (offP p) else []) := by
    show _ = _
    rw [← hRL]; unfold remL; rw [hR]
  rw [hE1] at HLF
  rw [hFI] at HFO
  rw [hR, hRL]
  clear hR hRL hE1 hFI hL hx hsz
  obtain ⟨EC, EA⟩ := E1
  dsimp only at HLF HR
  have hf0 := FC.new w
  have hal2 : Below w.heap.size w (w.alloc (.cells #[.int .i64 0, .int .i64 0] 64)) := (Below.refl _ _).alloc (Nat.le_refl _) _
  go_enter Tryz.func41, Tryz.ntmps41
  go_wp2_with fail
  generalize hWB : w.alloc (.cells #[.int .i64 0, .int .i64 0] 64) = WB at hf0 hal2 ⊢
  have hB0 : Below w.heap.size w WB := hal2
  obtain ⟨F1, hF1e⟩ : ∃ F, w.heap.size = F := ⟨_, rfl⟩
  have hf0' : FC WB F1 0 0 := by rw [← hF1e]; exact hf0
  rw [show (Value.pointer (some ⟨w.heap.size, 0, none⟩)) = Value.pointer (some ⟨F1, 0, none⟩) by rw [hF1e]]
  clear hf0
  have hf0 := hf0'
  clear hf0'
  have hF1 : w.heap.size ≤ F1 := by omega
  have hlf := HLF.out WB hB0
  refine hlf.mono ?_
  rintro e w1 ⟨rfl, hb1⟩
  clear hlf
  have hB1 : Below w.heap.size w w1 := hB0.trans (hb1.mono hB0.size)
  have hf1 := hf0.below hb1
  have hal3 : Below w1.heap.size w1 (w1.alloc (.cells #[.int .i64 EC, .int .i64 (atZ EA)] 64)) := (Below.refl _ _).alloc (Nat.le_refl _) _
  have hgR : FC (w1.alloc (.cells #[.int .i64 EC, .int .i64 (atZ EA)] 64)) w1.heap.size EC (atZ EA) := heap_alloc_new _ _
  have hfR := hf1.below hal3
  skip
  have hBR : Below w.heap.size w (w1.alloc (.cells #[.int .i64 EC, .int .i64 (atZ EA)] 64)) := hB1.trans (hal3.mono hB1.size)
  have hG1 : w.heap.size ≤ w1.heap.size := hB1.size
  have hF1G : F1 < w1.heap.size := hf1.lt
  clear hal3 hf1 hf0 hal2 hb1 hB0 hWB hB1 
  go_upto_region 2 with fail
  generalize w1.alloc (.cells #[.int .i64 EC, .int .i64 (atZ EA)] 64) = W2 at hgR hfR hBR  ⊢
  generalize w1.heap.size = G at hgR hG1 hF1G ⊢
  clear hF1e
  by_cases hE : EC = 0
  · subst hE
    have HR2 : Hid (R = if FI < 0 then (6, none) else (0, none)) := by
      show _ = _
      rw [HR.out, if_neg (by simp)]
    clear HR
    have k0 := hgR.c0
    have hfo := HFO.out W2 hBR
    go_wp2_with fail
    refine hfo.mono ?_
    rintro e w5 ⟨rfl, rfl⟩
    clear hfo
    by_cases hFI : FI < 0
    · have HRE : Hid (R = (6, none)) := by
        show _ = _
        rw [HR2.out, if_pos hFI]
      have HRLE : Hid (RL = []) := by
        show _ = _
        rw [HRL.out, HRE.out]; rfl
      clear HR2
      have hbr := bare_of (6) w5
      go_wp2_with fail
      refine hbr.mono ?_
      rintro e w5x ⟨rfl, hbn⟩
      clear hbr
      have hfn := hfR.below hbn
      have hgn := hgR.below hbn
      have hBn : Below w.heap.size w w5x := hBR.trans (hbn.mono hBR.size)
      have p0 := hgn.c0
      have p1 := hgn.c1
      have pz := hgn.fz
      go_upto_region 4 with fail
      have hgR := hgn.set (6) (-1)
      have hfR : FC ((w5x.setCell ⟨G, 0, none⟩ (.int .i64 (6))).setCell ⟨G, 1, none⟩ (.int .i64 (-1))) F1 0 0 := fc_other (fc_other hfn (by omega) _ _) (by omega) _ _
      have hBR : Below w.heap.size w ((w5x.setCell ⟨G, 0, none⟩ (.int .i64 (6))).setCell ⟨G, 1, none⟩ (.int .i64 (-1))) := (hBn.setCell hG1 _).setCell hG1 _
      clear hfn hgn hBn p0 p1 pz hbn
      generalize (w5x.setCell ⟨G, 0, none⟩ (.int .i64 (6))).setCell ⟨G, 1, none⟩ (.int .i64 (-1)) = W6 at hfR hgR hBR ⊢
      have j0 := hfR.c0
      have j1 := hfR.c1
      have jz := hfR.fz
      have k0 := hgR.c0
      have k1 := hgR.c1
      have hBd := hBR.drew
      have hfd : FC W6.drew F1 0 0 := hfR.below (Below.refl W6.heap.size W6).drew
      have hgd : FC W6.drew G (6) (-1) := hgR.below (Below.refl W6.heap.size W6).drew
      have m0 := hfd.c0
      have m1 := hfd.c1
      have mz := hfd.fz
      have n0 := hgd.c0
      have n1 := hgd.c1
      clear hfd hgd hfR hgR
      go_wp2_with fail
      go_region
      all_goals go_wp2
      all_goals refine bodyPost_ret (v := .tuple #[.slice none 0 0, .agg #[.int .i64 (6), .int .i64 (-1)]]) (by simp [results, Tryz.results41, go_sem, j0, j1]) rfl ⟨_, by rw [HRE.out] <;> rfl, by rw [HRLE.out]; exact Or.inl ⟨none, 0, rfl, fun _ => rfl, rfl⟩, ?_⟩
      all_goals first
        | exact (hBR.setCell hF1 _).setCell hF1 _
        | exact (hBd.setCell hF1 _).setCell hF1 _
        | exact ((hBR.setCell hF1 _).setCell hF1 _).drew
    · have HRE : Hid (R = (0, none)) := by
        show _ = _
        rw [HR2.out, if_neg hFI]
      have HRLE : Hid (RL = fs.filter (offP p)) := by
        show _ = _
        rw [HRL.out, HRE.out]; rfl
      clear HR2
      have hpl := HWO.out w5 hBR
      go_wp2_with fail
      refine hpl.mono ?_
      rintro e w6 ⟨v6, rfl, hv6, hb6⟩
      clear hpl k0
      have hf6 := hfR.below hb6
      have hB6 : Below w.heap.size w w6 := hBR.trans (hb6.mono hBR.size)
      have hfi := fine_of w6
      go_wp2_with fail
      refine hfi.mono ?_
      rintro e w7 ⟨rfl, hb7⟩
      clear hfi
      have hf7 := hf6.below hb7
      have hB7 : Below w.heap.size w w7 := hB6.trans (hb7.mono hB6.size)
      have j0 := hf7.c0
      have j1 := hf7.c1
      have jz := hf7.fz
      go_wp2
      refine bodyPost_ret (v := .tuple #[v6, .agg #[.int .i64 0, .int .i64 (-1)]]) (by simp [results, Tryz.results41, go_sem, j0, j1]) rfl ⟨_, by rw [HRE.out]; rfl, ?_, (hB7.setCell hF1 _).setCell hF1 _⟩
      rw [HRLE.out]
      exact hf7.ne_fls (hv6.below hb7) _ _ _ _
  · have HRE : Hid (R = (EC, EA)) := by
      show _ = _
      rw [HR.out, if_pos hE]
    have HRLE : Hid (RL = []) := by
      show _ = _
      rw [HRL.out, HRE.out, if_neg hE]
    have q1 : ¬ ((EC : Nat) : Int) = 0 := by omega
    have q2 : (((EC : Nat) : Int) == 0) = false := beq_eq_false_iff_ne.2 q1
    have q3 : (0 : Int) < ((EC : Nat) : Int) := by omega
    clear HR
    have j0 := hfR.c0
    have j1 := hfR.c1
    have jz := hfR.fz
    have k0 := hgR.c0
    have k1 := hgR.c1
    have hBd := hBR.drew
    have hfd : FC W2.drew F1 0 0 := hfR.below (Below.refl W2.heap.size W2).drew
    have hgd : FC W2.drew G ((EC : Nat)) (atZ EA) := hgR.below (Below.refl W2.heap.size W2).drew
    have m0 := hfd.c0
    have m1 := hfd.c1
    have mz := hfd.fz
    have n0 := hgd.c0
    have n1 := hgd.c1
    clear hfd hgd hfR hgR
    go_wp2_with fail
    go_region
    all_goals go_wp2
    all_goals refine bodyPost_ret (v := .tuple #[.slice none 0 0, .agg #[.int .i64 ((EC : Nat)), .int .i64 (atZ EA)]]) (by simp [results, Tryz.results41, go_sem, j0, j1]) rfl ⟨_, by rw [HRE.out] <;> rfl, by rw [HRLE.out]; exact Or.inl ⟨none, 0, rfl, fun _ => rfl, rfl⟩, ?_⟩
    all_goals first
      | exact (hBR.setCell hF1 _).setCell hF1 _
      | exact (hBd.setCell hF1 _).setCell hF1 _
      | exact ((hBR.setCell hF1 _).setCell hF1 _).drew
end Go.Proofs.YtpkoefpdpoikkaaGreatDoor
