/-
  The contracts of the document's own Placed, and of the statements' own OwnFiles.
-/
import Derived.Test.YtpkoefpdpoikkaaGreatDoorRefList1
namespace Go.Proofs.YtpkoefpdpoikkaaGreatDoor
open Go.RowKit Go.Extern.Stop Go.Stop Go.Extern Go.Sort Go.Shelf Go.Lib

theorem fine_of (w : World) : Calls Tryz.prog 101 #[] w fun e w' => e = .returned (.agg #[.int .i64 0, .int .i64 (-1)]) ∧ Below w.heap.size w w' := by
  go_enter Tryz.func101, Tryz.ntmps101
  go_wp2
  refine bodyPost_ret (v := .agg #[.int .i64 0, .int .i64 (-1)]) (by simp [results, Tryz.results101, go_sem]) rfl ⟨rfl, ?_⟩
  exact (Below.refl _ _).alloc (Nat.le_refl _) _

theorem bare_of (n : Int) (w : World) : Calls Tryz.prog 99 #[.int .i64 n] w fun e w' => e = .returned (.agg #[.int .i64 n, .int .i64 (-1)]) ∧ Below w.heap.size w w' := by
  go_enter Tryz.func99, Tryz.ntmps99
  go_wp2
  refine bodyPost_ret (v := .agg #[.int .i64 n, .int .i64 (-1)]) (by simp [results, Tryz.results99, go_sem]) rfl ⟨rfl, ?_⟩
  exact (Below.refl _ _).alloc (Nat.le_refl _) _

def FC (W : World) (F : Nat) (x y : Int) : Prop := W.heap[F]? = some (.cells #[.int .i64 x, .int .i64 y] 64 (0, 0))
theorem FC.lt {W : World} {F : Nat} {x y : Int} (h : FC W F x y) : F < W.heap.size := lt_of_block h
theorem FC.below {W W' : World} {F : Nat} {x y : Int} (h : FC W F x y) (hb : Below W.heap.size W W') : FC W' F x y := (hb.block F h.lt).trans h
theorem FC.c0 {W : World} {F : Nat} {x y : Int} (h : FC W F x y) : W.cell? ⟨F, 0, none⟩ = some (.int .i64 x) := by rw [cell_of_row _ _ _ _ _ _ h]; rfl
theorem FC.c1 {W : World} {F : Nat} {x y : Int} (h : FC W F x y) : W.cell? ⟨F, 1, none⟩ = some (.int .i64 y) := by rw [cell_of_row _ _ _ _ _ _ h]; rfl
theorem FC.fz {W : World} {F : Nat} {x y : Int} (h : FC W F x y) (o : Nat) : W.frozen? ⟨F, o, none⟩ = false := frozen_of_row _ _ _ _ _ h
theorem FC.new (w : World) : FC (w.alloc (.cells #[.int .i64 0, .int .i64 0] 64)) w.heap.size 0 0 := heap_alloc_new _ _
theorem FC.set {W : World} {F : Nat} {x y : Int} (h : FC W F x y) (a b : Int) : FC ((W.setCell ⟨F, 0, none⟩ (.int .i64 a)).setCell ⟨F, 1, none⟩ (.int .i64 b)) F a b := by
  have h1 : (W.setCell ⟨F, 0, none⟩ (.int .i64 a)).heap[F]? = some (.cells #[.int .i64 a, .int .i64 y] 64 (0, 0)) := by
    rw [heap_setCell_same _ _ _ _ _ _ h]; rfl
  show _ = _
  rw [heap_setCell_same _ _ _ _ _ _ h1]; rfl

end Go.Proofs.YtpkoefpdpoikkaaGreatDoor
namespace Go.Proofs.YtpkoefpdpoikkaaGreatDoor
open Go.RowKit Go.Extern.Stop Go.Stop Go.Extern Go.Sort Go.Shelf Go.Lib

set_option maxRecDepth 100000 in
set_option maxHeartbeats 4000000 in
theorem sameFiles_yes (v v' : Value) (fs : List Fl) (w : World) (hx : FlsAt w v fs) (hy : FlsAt w v' fs) (hl : fs.length ≤ 20000) :
    Calls Tryz.prog 30 #[v, v'] w fun e w' => e = .returned (.bool true) ∧ Below w.heap.size w w' := by
  obtain ⟨q, cap, rfl⟩ := hx.form
  obtain ⟨q', cap', rfl⟩ := hy.form
  have HFX : Hid (FlsAt w (.slice q fs.length cap) fs) := hx
  have HFY : Hid (FlsAt w (.slice q' fs.length cap') fs) := hy
  obtain ⟨L, hL⟩ : ∃ L, fs.length = L := ⟨_, rfl⟩
  have HX : Hid (fs.length = L) := hL
  rw [hL] at hl ⊢
  clear hL hx hy
  go_enter Tryz.func30, Tryz.ntmps30
  go_wp2
  go_loopw [5] (fun k wr => ∃ n : Nat, n ≤ L ∧ k = .int .i64 n ∧ Below w.heap.size w wr) (fun k _ => L - (intOf k).toNat)
  case atStart => exact ⟨0, by omega, rfl, Below.refl _ _⟩
  case round =>
    obtain ⟨n, hn, rfl, hb⟩ := hrel
    by_cases hlt : n < L
    · have hltx : n < fs.length := by rw [HX.out]; exact hlt
      obtain ⟨b, o, hq, hc⟩ := (HFX.out.below hb).cells (fun e => by rw [e] at hltx; simp at hltx)
      obtain ⟨b', o', hq', hc'⟩ := (HFY.out.below hb).cells (fun e => by rw [e] at hltx; simp at hltx)
      subst hq hq'
      obtain ⟨c0, c1, c2, c3, c4, c5⟩ := hc n hltx
      obtain ⟨d0, d1, d2, d3, d4, d5⟩ := hc' n hltx
      generalize fs[n] = f at c0 c1 c2 c3 c4 c5 d0 d1 d2 d3 d4 d5
      have hnq := fun W => neqF f W
      have hgd : ∀ (bo : BinOp) (a b : Operand) (w : World), Sem.run Tryz.prog (eqGuard bo 23 a b (flV f) (flV f)) w = .ok () w := fun bo a b w => guardF bo a b f f w
      unfold flV at hnq hgd
      obtain ⟨fp, fq, fn, flo, fhi, fseq⟩ := f
      dsimp only at c0 c1 c2 c3 c4 c5 d0 d1 d2 d3 d4 d5 hnq hgd
      have hi : (n : Int) < (L : Int) := by omega
      have hi0' : (0 : Int) ≤ (n : Int) := by omega
      clear hc hc' hltx
      go_wp2
      go_quiet (fail)
      have hb2 : Below w.heap.size w (wr.drewN nq) := below_drewN hb nq
      generalize wr.drewN nq = wr2 at hb2 ⊢
      go_wp2
      go_roundw
      case rel => exact ⟨n + 1, by omega, by go_num, hb2⟩
      case measure => simp [intOf]; omega
    · obtain rfl : n = L := by omega
      go_wp2
      go_ret
      exact ⟨rfl, hb⟩

theorem listL_take (fs : List Fl) (n : Nat) (h : n < fs.length) : listL (fs.take (n + 1)) = listL (fs.take n) ++ (fileL fs[n] ++ [10]) := by
  have e := (List.take_append_getElem h).symm
  unfold listL
  rw [e, List.flatMap_append]
  simp only [List.flatMap_cons, List.flatMap_nil, List.append_nil]

theorem listL_len : ∀ fs : List Fl, (∀ f ∈ fs, fileE f = 0 ∧ f.1.size ≤ 100 ∧ f.2.1.size ≤ 100) → (listL fs).length ≤ 300 * fs.length
  | [], _ => by simp [listL]
  | f :: r, h => by
    have ih := listL_len r (fun g hg => h g (List.mem_cons_of_mem _ hg))
    obtain ⟨h0, h1, h2⟩ := h f List.mem_cons_self
    have := fl_len h0
    have e : listL (f :: r) = fileL f ++ 10 :: listL r := by simp [listL]
    rw [e, List.length_append, List.length_cons, List.length_cons]
    omega

set_option maxRecDepth 100000 in
set_option maxHeartbeats 4000000 in
theorem listText_any (v : Value) (fs : List Fl) (w : World) (hx : FlsAt w v fs) (hl : fs.length ≤ 1000) (hok : ∀ f ∈ fs, fileE f = 0 ∧ f.1.size ≤ 100 ∧ f.2.1.size ≤ 100) :
    Calls Tryz.prog 38 #[v] w fun e w' => e = .returned (.string (bytesOf (listL fs))) ∧ Below w.heap.size w w' := by
  obtain ⟨q, cap, rfl⟩ := hx.form
  have HFX : Hid (FlsAt w (.slice q fs.length cap) fs) := hx
  have HOK : Hid (∀ f ∈ fs, fileE f = 0 ∧ f.1.size ≤ 100 ∧ f.2.1.size ≤ 100) := hok
  obtain ⟨L, hL⟩ : ∃ L, fs.length = L := ⟨_, rfl⟩
  have HX : Hid (fs.length = L) := hL
  rw [hL] at hl ⊢
  clear hL hx hok
  go_enter Tryz.func38, Tryz.ntmps38
  go_wp2
  go_loopw [3, 4] (fun s k wr => ∃ n : Nat, n ≤ L ∧ s = .string (bytesOf (listL (fs.take n))) ∧ k = .int .i64 n ∧ Below w.heap.size w wr) (fun _ k _ => L - (intOf k).toNat)
  case atStart => exact ⟨0, by omega, rfl, rfl, Below.refl _ _⟩
  case round =>
    obtain ⟨n, hn, rfl, rfl, hb⟩ := hrel
    by_cases hlt : n < L
    · have hltx : n < fs.length := by rw [HX.out]; exact hlt
      obtain ⟨b, o, hq, hc⟩ := (HFX.out.below hb).cells (fun e => by rw [e] at hltx; simp at hltx)
      subst hq
      obtain ⟨c0, c1, c2, c3, c4, c5⟩ := hc n hltx
      obtain ⟨k0, k1, k2⟩ := HOK.out fs[n] (List.getElem_mem _)
      have htx := fileText_any fs[n] wr (by omega) (by omega)
      have hfb : fileB fs[n] = bytesOf (fileL fs[n]) := by unfold fileB; rw [if_pos k0]
      have hfl := fl_len k0
      have hln := listL_len (fs.take n) (fun f hf => HOK.out f (List.mem_of_mem_take hf))
      rw [List.length_take] at hln
      have hsn : (bytesOf (listL (fs.take n))).size ≤ 300000 := by rw [bytes_len]; omega
      have hsf : (bytesOf (fileL fs[n])).size ≤ 300 := by rw [bytes_len]; omega
      have HT : Hid (bytesOf (listL (fs.take n)) ++ bytesOf (fileL fs[n]) ++ ⟨#[10]⟩ = bytesOf (listL (fs.take (n + 1)))) := by
        show _ = _
        rw [listL_take fs n hltx]
        apply part_ext
        simp [bytesOf, ByteArray.data_append]
      rw [hfb] at htx
      generalize bytesOf (fileL fs[n]) = tx at htx HT hsf
      generalize bytesOf (listL (fs.take n)) = ts at HT hsn ⊢
      unfold flV at htx
      generalize fs[n] = f at c0 c1 c2 c3 c4 c5 htx
      obtain ⟨fp, fq, fn, flo, fhi, fseq⟩ := f
      dsimp only at c0 c1 c2 c3 c4 c5 htx
      have hi : (n : Int) < (L : Int) := by omega
      have hi0' : (0 : Int) ≤ (n : Int) := by omega
      have n1 : ¬ 9223372036854775807 < ts.size + tx.size := by omega
      have n2 : ¬ 9223372036854775807 < ts.size + tx.size + 1 := by omega
      have m1 : ¬ 9223372036854775806 < ts.size + tx.size := by omega
      clear hc hltx hln hfl hfb k0 k1 k2
      go_wp2_with fail
      refine htx.mono ?_
      rintro e w3 ⟨rfl, hb3⟩
      clear htx
      have hb4 : Below w.heap.size w w3 := hb.trans (hb3.mono hb.size)
      go_wp2
      go_roundw
      case rel => exact ⟨n + 1, by omega, congrArg Value.string HT.out, by go_num, hb4⟩
      case measure => simp [intOf]; omega
    · obtain rfl : n = L := by omega
      have hta : fs.take n = fs := List.take_of_length_le (by rw [HX.out]; exact Nat.le_refl _)
      rw [hta]
      clear hta
      go_wp2
      go_ret
      exact ⟨rfl, hb⟩
end Go.Proofs.YtpkoefpdpoikkaaGreatDoor
namespace Go.Proofs.YtpkoefpdpoikkaaGreatDoor
open Go.RowKit Go.Extern.Stop Go.Stop Go.Extern Go.Sort Go.Shelf Go.Lib

def atZ : Option Nat → Int
  | some i => i
  | none => -1

def ahead (fs : List Fl) : Nat → Int
  | 0 => 0
  | n + 1 => match fs[n]? with
    | some f => fk f
    | none => 0

theorem ahead_succ {fs : List Fl} {n : Nat} (h : n < fs.length) : ahead fs (n + 1) = fk fs[n] := by
  show (match fs[n]? with
    | some f => fk f
    | none => 0) = _
  rw [List.getElem?_eq_getElem h]

def LeftG (fs : List Fl) (n : Nat) : Prop := lstG 0 fs 0 = lstG (ahead fs n) (fs.drop n) n

theorem left_zero (fs : List Fl) : LeftG fs 0 := rfl
theorem left_bad {fs : List Fl} {n : Nat} (h : LeftG fs n) (hn : n < fs.length) (he : fileE fs[n] ≠ 0) : lstG 0 fs 0 = (fileE fs[n], some n) := by
  unfold LeftG at h
  rw [h, List.drop_eq_getElem_cons hn]
  unfold lstG
  rw [if_pos he]
theorem left_order {fs : List Fl} {n : Nat} (h : LeftG fs n) (hn : n < fs.length) (he : fileE fs[n] = 0) (ho : fk fs[n] ≤ ahead fs n) : lstG 0 fs 0 = (9, some n) := by
  unfold LeftG at h
  rw [h, List.drop_eq_getElem_cons hn]
  unfold lstG
  rw [if_neg (by simp [he]), if_pos ho]
theorem left_succ {fs : List Fl} {n : Nat} (h : LeftG fs n) (hn : n < fs.length) (he : fileE fs[n] = 0) (ho : ahead fs n < fk fs[n]) : LeftG fs (n + 1) := by
  unfold LeftG at h ⊢
  rw [h, ahead_succ hn]
  conv => lhs; rw [List.drop_eq_getElem_cons hn]
  conv => lhs; unfold lstG
  rw [if_neg (by simp [he]), if_neg (by omega)]
theorem left_all {fs : List Fl} (h : LeftG fs fs.length) : lstG 0 fs 0 = (0, none) := by
  unfold LeftG at h
  rw [h, List.drop_length]
  rfl

set_option maxRecDepth 100000 in
set_option maxHeartbeats 8000000 in
theorem listFault_any (v : Value) (fs : List Fl) (w : World) (hx : FlsAt w v fs) (hl : fs.length ≤ 20000) (hsz : ∀ f ∈ fs, f.1.size ≤ 100000 ∧ f.2.1.size ≤ 100000) :
    Calls Tryz.prog 36 #[v] w fun e w' => e = .returned (.agg #[.int .i64 (listE fs).1, .int .i64 (atZ (listE fs).2)]) ∧ Below w.heap.size w w' := by
  obtain ⟨q, cap, rfl⟩ := hx.form
  have HFX : Hid (FlsAt w (.slice q fs.length cap) fs) := hx
  have HSZ : Hid (∀ f ∈ fs, f.1.size ≤ 100000 ∧ f.2.1.size ≤ 100000) := hsz
  obtain ⟨L, hL⟩ : ∃ L, fs.length = L := ⟨_, rfl⟩
  have HX : Hid (fs.length = L) := hL
  rw [hL] at hl ⊢
  have hf0 := FC.new w
  have hal : Below w.heap.size w (w.alloc (.cells #[.int .i64 0, .int .i64 0] 64)) := (Below.refl _ _).alloc (Nat.le_refl _) _
  generalize hR : listE fs = R
  have HR : Hid (listE fs = R) := hR
  clear hL hx hsz hR
  by_cases hbig : 60 < L
  · have hRR : R = (8, none) := by rw [← HR.out]; unfold listE; rw [if_pos (by rw [HX.out]; exact hbig)]
    subst hRR
    have hi : (60 : Int) < (L : Int) := by omega
    have hbr := bare_of 8 (w.alloc (.cells #[.int .i64 0, .int .i64 0] 64))
    go_enter Tryz.func36, Tryz.ntmps36
    go_wp2_with fail
    generalize w.alloc (.cells #[.int .i64 0, .int .i64 0] 64) = WA at hbr hf0 hal ⊢
    refine hbr.mono ?_
    rintro e w1 ⟨rfl, hb1⟩
    clear hbr
    have hf1 := hf0.below hb1
    have hB1 : Below w.heap.size w w1 := hal.trans (hb1.mono hal.size)
    have j0 := hf1.c0
    have j1 := hf1.c1
    have jz := hf1.fz
    clear hf0 hal hb1
    go_wp2
    refine bodyPost_ret (v := .agg #[.int .i64 8, .int .i64 (-1)]) (by simp [results, Tryz.results36, go_sem, j0, j1]) rfl ⟨rfl, ?_⟩
    exact (hB1.setCell (Nat.le_refl _) _).setCell (Nat.le_refl _) _
  · have HRR : Hid (R = lstG 0 fs 0) := by
      show _ = _
      rw [← HR.out]; unfold listE; rw [if_neg (by rw [HX.out]; exact hbig)]
    have hi : ¬ (60 : Int) < (L : Int) := by omega
    clear HR
    go_enter Tryz.func36, Tryz.ntmps36
    go_wp2
    generalize w.alloc (.cells #[.int .i64 0, .int .i64 0] 64) = WA at hf0 hal ⊢
    go_loopw [3] (fun k wr => ∃ n : Nat, n ≤ L ∧ k = .int .i64 n ∧ LeftG fs n ∧ Below w.heap.size w wr ∧ FC wr w.heap.size 0 0) (fun k _ => L - (intOf k).toNat)
    case atStart => exact ⟨0, by omega, rfl, left_zero fs, hal, hf0⟩
    case round =>
      clear hf0 hal
      obtain ⟨n, hn, rfl, hlg, hb, hfc⟩ := hrel
      have HLG : Hid (LeftG fs n) := hlg
      have HFC : Hid (FC wr w.heap.size 0 0) := hfc
      clear hlg hfc
      by_cases hlt : n < L
      · have hltx : n < fs.length := by rw [HX.out]; exact hlt
        obtain ⟨b, o, hq, hc⟩ := (HFX.out.below hb).cells (fun e => by rw [e] at hltx; simp at hltx)
        subst hq
        have HC : Hid (FlCells wr b o fs) := hc
        obtain ⟨c0, c1, c2, c3, c4, c5⟩ := hc n hltx
        obtain ⟨k1, k2⟩ := HSZ.out fs[n] (List.getElem_mem _)
        have hfe := fileError_any fs[n] wr k1 k2
        have hbad := fun e => left_bad HLG.out hltx e
        have hord := fun e o => left_order HLG.out hltx e o
        have hnxt := fun e o => left_succ HLG.out hltx e o
        have hkp : fileE fs[n] = 0 → 0 < fk fs[n] := fun e => fk_pos e
        unfold flV at hfe
        have HFN : Hid (fk fs[n] = pk fs[n].1.data.toList) := rfl
        generalize fileE fs[n] = E at hfe hbad hord hnxt hkp
        generalize fk fs[n] = Z at hord hnxt hkp HFN
        generalize fs[n] = f at c0 c1 c2 c3 c4 c5 hfe HFN k1
        obtain ⟨fp, fq, fn, flo, fhi, fseq⟩ := f
        dsimp only at c0 c1 c2 c3 c4 c5 hfe HFN k1
        have hiL : (n : Int) < (L : Int) := by omega
        have hi0' : (0 : Int) ≤ (n : Int) := by omega
        clear hc
        go_wp2_with fail
        refine hfe.mono ?_
        rintro e w3 ⟨rfl, hb3⟩
        have c0' := below_keep hb3 c0
        clear hfe c0 c1 c2 c3 c4 c5
        have hb4 : Below w.heap.size w w3 := hb.trans (hb3.mono hb.size)
        have hfc3 := HFC.out.below hb3
        have j0 := hfc3.c0
        have j1 := hfc3.c1
        have jz := hfc3.fz
        by_cases hE : E = 0
        · subst hE
          have hk0 := hkp rfl
          replace hord := hord rfl
          replace hnxt := hnxt rfl
          clear hkp hbad
          cases n with
          | zero =>
            have hno : ahead fs 0 < Z := hk0
            have HNX : Hid (LeftG fs (0 + 1)) := hnxt hno
            have HF3 : Hid (FC w3 w.heap.size 0 0) := hfc3
            clear hord hnxt hno hfc3 j0 j1 jz c0'
            go_wp2
            go_roundw
            case rel => exact ⟨0 + 1, by omega, by go_num, HNX.out, hb4, HF3.out⟩
            case measure => simp [intOf]; omega
          | succ m =>
            have hmx : m < fs.length := by omega
            have hah := ahead_succ hmx
            have g0 := ((HC.out.below hb3) m hmx).1
            have hks := (HSZ.out fs[m] (List.getElem_mem _)).1
            have hib := fun W => isBehind_any fp fs[m].1 W k1 hks
            have HAZ : Hid (ahead fs (m + 1) = pk fs[m].1.data.toList) := hah
            rw [← HAZ.out, ← HFN.out] at hib
            generalize fs[m].1 = gp at g0 hib
            generalize ahead fs (m + 1) = Y at hord hnxt hib
            have r1 : (0 : Int) < (m : Int) + 1 := by omega
            have r2 : (m : Int) < (L : Int) := by omega
            have r3 : (m : Int) + 1 < (L : Int) := by omega
            have r4 : (0 : Int) ≤ (m : Int) := by omega
            have r5 : (0 : Int) ≤ (m : Int) + 1 := by omega
            have r6 : IntKind.i64.wrap (m : Int) = (m : Int) := IntWalk.i64_in _ (by omega)
            clear hiL hi0'
            have hbs : Below w3.heap.size w3 w3 := Below.refl _ _
            have hbd : Below w3.heap.size w3 w3.drew := hbs.drew
            have hfd := hfc3.below hbd
            have HFD : Hid (FC w3.drew w.heap.size 0 0) := hfd
            have hBd : Below w.heap.size w w3.drew := hb4.drew
            clear HAZ HFN hah hmx k2 hltx hks hfc3
            go_wp2_with fail
            go_region_held3 (fun w' => w'.cell? ⟨b, o + (m + 1) * 6, none⟩ = some (.string fp) ∧ w'.cell? ⟨b, o + m * 6, none⟩ = some (.string gp) ∧ Below w3.heap.size w3 w')
              (first
                | (go_split_ands; with_reducible exact ⟨below_keep hbd c0', below_keep hbd g0, hbd⟩)
                | (go_split_ands; exact ⟨by assumption, by assumption, by assumption⟩))
              (first
                | (go_at_call 100; with_reducible refine (hib _).mono ?_; rintro e wX ⟨rfl, rfl⟩))
            go_split_ands
            by_cases ho : Z ≤ Y
            · have hd : decide (Y < Z) = false := decide_eq_false (by omega)
              rw [hd]
              have hRR : R = (9, some (m + 1)) := HRR.out.trans (hord ho)
              subst hRR
              clear hord hnxt hib ho hd
              go_wp2
              refine bodyPost_ret (v := .agg #[.int .i64 9, .int .i64 ((m + 1 : Nat) : Int)]) (by simp [results, Tryz.results36, go_sem, j0, j1]) rfl ⟨rfl, ?_⟩
              exact (hBd.setCell (Nat.le_refl _) _).setCell (Nat.le_refl _) _
            · have hd : decide (Y < Z) = true := decide_eq_true (by omega)
              rw [hd]
              have HNX : Hid (LeftG fs (m + 1 + 1)) := hnxt (by omega)
              clear hord hnxt hib ho hd j0 j1 jz
              go_wp2
              go_roundw
              case rel => exact ⟨m + 1 + 1, by omega, by go_num, HNX.out, hBd, HFD.out⟩
              case measure => simp [intOf]; omega
        · have hEp : (0 : Int) < (E : Int) := by omega
          have hE0 : ¬ (E : Int) = 0 := by omega
          have hRR : R = (E, some n) := HRR.out.trans (hbad hE)
          subst hRR
          clear hbad hord hnxt hkp hE hfc3
          go_wp2
          refine bodyPost_ret (v := .agg #[.int .i64 E, .int .i64 n]) (by simp [results, Tryz.results36, go_sem, j0, j1]) rfl ⟨rfl, ?_⟩
          exact (hb4.setCell (Nat.le_refl _) _).setCell (Nat.le_refl _) _
      · obtain rfl : n = L := by omega
        have hRR : R = (0, none) := HRR.out.trans (left_all (by rw [HX.out]; exact HLG.out))
        subst hRR
        have hfi := fine_of wr
        go_wp2_with fail
        refine hfi.mono ?_
        rintro e w3 ⟨rfl, hb3⟩
        clear hfi
        have hb4 : Below w.heap.size w w3 := hb.trans (hb3.mono hb.size)
        have hfc3 := HFC.out.below hb3
        have j0 := hfc3.c0
        have j1 := hfc3.c1
        have jz := hfc3.fz
        go_wp2
        refine bodyPost_ret (v := .agg #[.int .i64 0, .int .i64 (-1)]) (by simp [results, Tryz.results36, go_sem, j0, j1]) rfl ⟨rfl, ?_⟩
        exact (hb4.setCell (Nat.le_refl _) _).setCell (Nat.le_refl _) _
end Go.Proofs.YtpkoefpdpoikkaaGreatDoor
namespace Go.Proofs.YtpkoefpdpoikkaaGreatDoor
open Go.RowKit Go.Extern.Stop Go.Stop Go.Extern Go.Sort Go.Shelf Go.Lib

def Src (w : World) (q : Option Addr) (m c : Nat) (ys : List Value) : Prop :=
  (m = 0 ∧ (q = none → c = 0)) ∨ ∃ b o, q = some ⟨b, o, none⟩ ∧ ∀ j u, ys[j]? = some u → w.cell? ⟨b, o + j, none⟩ = some u

set_option maxHeartbeats 1000000 in
theorem run_append_src {P : Program} (w : World) (base : Nat) (t ty e : TypeId) (i : TypeInfo) (z : Value) (size bytes : Nat) (ht : P.underlying t = some (.slice e)) (hi : P.info? e = some i) (hz : i.zero = some z)
    (hsize : i.size = size) (hby : i.bytes = bytes) (hzs : z.cells.size = size) (hsz : 0 < size)
    (v : Value) (n : Nat) (xs : List Value) (hown : w.ownsRow base e size v n xs)
    (q : Option Addr) (m c : Nat) (news : List Value) (hl : news.length = m * size) (hsrc : Src w q m c news) (h1 : ∀ u ∈ news, u.oneCell' = true)
    (h63 : n + m ≤ maxLen) (hbytes : (n + m) * bytes ≤ 140737488355328) (hbase : base ≤ w.heap.size) :
    ∃ v' w', (Builtin.append_ #[t, t] ty #[v, .slice q m c]).run P w = .ok v' w' ∧ w'.ownsRow base e size v' (n + m) (xs ++ news) ∧ w.grownBy w' v.ownBlock ∧ (v'.ownBlock = v.ownBlock ∨ v'.ownBlock = some w.heap.size) := by
  rcases hsrc with ⟨h0, hc⟩ | ⟨b, o, rfl, hcells⟩
  · subst h0
    have hnews : news = [] := List.length_eq_zero_iff.1 (by simpa using hl)
    subst hnews
    cases q with
    | none =>
      have hc0 := hc rfl
      subst hc0
      refine ⟨v, w, ?_, by simpa using hown, ⟨rfl, rfl, rfl, Nat.le_refl _, fun _ _ _ => rfl⟩, Or.inl rfl⟩
      rcases hown.2 with ⟨rfl, _⟩ | ⟨g, cap, cur, rfl, _, _, hn, _⟩
      · simp [Builtin.append_, run_underlying ht, sizeOf, typeInfo, zeroValue, hi, hz, Builtin.lenOf, run_firstCells_none]
      · simp [Builtin.append_, run_underlying ht, sizeOf, typeInfo, zeroValue, hi, hz, Builtin.lenOf, run_firstCells_none, hn, storeCells]
    | some ad =>
      obtain ⟨v', w', hr, h2, h3, _, h5⟩ := run_append_own_at (P := P) w base t ty e i z size bytes ht hi hz hsize hby hzs hsz v n xs hown ad 0 c [] hl (fun j u hj => by simp at hj) h1 h63 hbytes hbase
      exact ⟨v', w', hr, h2, h3, h5⟩
  · obtain ⟨v', w', hr, h2, h3, _, h5⟩ := run_append_own_at (P := P) w base t ty e i z size bytes ht hi hz hsize hby hzs hsz v n xs hown ⟨b, o, none⟩ m c news hl (fun j u hj => by rw [Addr.add_lit]; exact hcells j u hj) h1 h63 hbytes hbase
    exact ⟨v', w', hr, h2, h3, h5⟩

theorem wpList_append_src {P : Program} {w : World} {ops : Array Oper} {rest : List Oper} {o : Oper} {a : Act} {Q : Exit → Act → World → Prop} (hgd : o.guard = none) (s x : Operand) (t : TypeId)
    (ho : o.op = .call { callee := .builtin .append, args := #[s, x], argTypes := #[t, t] })
    (base : Nat) (e : TypeId) (i : TypeInfo) (z : Value) (size bytes : Nat) (ht : P.underlying t = some (.slice e)) (hi : P.info? e = some i) (hz : i.zero = some z)
    (hsize : i.size = size) (hby : i.bytes = bytes) (hzs : z.cells.size = size) (hsz : 0 < size)
    (v : Value) (n : Nat) (xs : List Value) (hs : a.eval s = v) (hown : w.ownsRow base e size v n xs)
    (q : Option Addr) (m c : Nat) (news : List Value) (hx : a.eval x = .slice q m c) (hl : news.length = m * size) (hsrc : Src w q m c news) (h1 : ∀ u ∈ news, u.oneCell' = true)
    (h63 : n + m ≤ maxLen) (hbytes : (n + m) * bytes ≤ 140737488355328) (hbase : base ≤ w.heap.size)
    (h : ∀ v' w', w'.ownsRow base e size v' (n + m) (xs ++ news) → w.grownBy w' v.ownBlock → (v'.ownBlock = v.ownBlock ∨ v'.ownBlock = some w.heap.size) → wpList P ops Q rest (a.put o.dst v') w') :
    wpList P ops Q (o :: rest) a w := by
  refine wpList_plain hgd fun K hK => ?_
  obtain ⟨v', w', hr, h2, h3, h4⟩ := run_append_src (P := P) w base t o.type e i z size bytes ht hi hz hsize hby hzs hsz v n xs hown q m c news hl hsrc h1 h63 hbytes hbase
  unfold Oper.wp execOp
  simp only [ho, resolve, invoke, builtin, Sem.run_bind, Sem.run_pure, Result.andThen_ok, List.map_toArray, List.map_cons, List.map_nil, hs, hx, hr]
  exact hK _ _ (h v' w' h2 h3 h4)
end Go.Proofs.YtpkoefpdpoikkaaGreatDoor
namespace Go.Proofs.YtpkoefpdpoikkaaGreatDoor
open Go.RowKit Go.Extern.Stop Go.Stop Go.Extern Go.Sort Go.Shelf Go.Lib

theorem src_fls {w : World} {q : Option Addr} {n c : Nat} {fs : List Fl} (h : FlsAt w (.slice q n c) fs) : Src w q n c (flatF fs) := by
  rcases h with ⟨p, c', e, hp, rfl⟩ | ⟨b, o, cap, e, hl, hc⟩
  · simp only [Value.slice.injEq] at e
    obtain ⟨rfl, rfl, rfl⟩ := e
    exact Or.inl ⟨rfl, hp⟩
  · simp only [Value.slice.injEq] at e
    obtain ⟨rfl, rfl, rfl⟩ := e
    exact Or.inr ⟨b, o, rfl, cellsF_flat hc⟩

theorem flCells_take {w : World} {b o : Nat} {fs : List Fl} (h : FlCells w b o fs) (n : Nat) : FlCells w b o (fs.take n) := fun j hj => by
  rw [List.length_take] at hj
  have := h j (by omega)
  rw [List.getElem_take]
  exact this
theorem flCells_drop {w : World} {b o : Nat} {fs : List Fl} (h : FlCells w b o fs) (n : Nat) : FlCells w b (o + n * 6) (fs.drop n) := fun j hj => by
  rw [List.length_drop] at hj
  have := h (n + j) (by omega)
  rw [List.getElem_drop]
  have e : o + n * 6 + j * 6 = o + (n + j) * 6 := by omega
  rw [e]
  exact this

theorem place_at {fs : List Fl} {f : Fl} {n : Nat} (hn : n ≤ fs.length) (h1 : ∀ j (h : j < fs.length), j < n → fk fs[j] < fk f) (h2 : ∀ h : n < fs.length, ¬ fk fs[n] < fk f) : placeL fs f = fs.take n ++ f :: fs.drop n := by
  have hx : ∀ g ∈ fs.take n, fk g < fk f := fun g hg => by
    obtain ⟨a, ha, rfl⟩ := List.mem_iff_getElem.1 hg
    rw [List.length_take] at ha
    rw [List.getElem_take]
    exact h1 a (by omega) (by omega)
  have hs : fs = fs.take n ++ fs.drop n := (List.take_append_drop n fs).symm
  have ht : fs.takeWhile (fun g => decide (fk g < fk f)) = fs.take n := by
    conv => lhs; rw [hs]
    rw [List.takeWhile_append_of_pos (fun g hg => by simpa using hx g hg)]
    rcases Nat.lt_or_ge n fs.length with h | h
    · rw [List.drop_eq_getElem_cons h, List.takeWhile_cons_of_neg (by simpa using h2 h), List.append_nil]
    · rw [List.drop_of_length_le h]; simp
  have hd : fs.dropWhile (fun g => decide (fk g < fk f)) = fs.drop n := by
    conv => lhs; rw [hs]
    rw [List.dropWhile_append_of_pos (fun g hg => by simpa using hx g hg)]
    rcases Nat.lt_or_ge n fs.length with h | h
    · rw [List.drop_eq_getElem_cons h, List.dropWhile_cons_of_neg (by simpa using h2 h)]
    · rw [List.drop_of_length_le h]; simp
  unfold placeL
  rw [ht, hd]

set_option maxRecDepth 100000 in
set_option maxHeartbeats 2000000 in
theorem ownFiles_any (v : Value) (fs : List Fl) (w : World) (hx : FlsAt w v fs) (hl : fs.length ≤ 1000) :
    Calls Tryz.prog 27 #[v] w fun e w' => ∃ v', e = .returned v' ∧ w'.ownsRow w.heap.size 23 6 v' fs.length (flatF fs) ∧ Below w.heap.size w w' := by
  obtain ⟨i0, hi0, hz0, hs0, hby0⟩ := Tryz.fileInfo
  obtain ⟨q, cap, rfl⟩ := hx.form
  have HSR : Hid (Src w q fs.length cap (flatF fs)) := src_fls hx
  obtain ⟨L, hL⟩ : ∃ L, fs.length = L := ⟨_, rfl⟩
  have HX : Hid (fs.length = L) := hL
  rw [hL] at hl ⊢
  clear hL hx
  go_enter Tryz.func27, Tryz.ntmps27
  go_wp2_with (at_builtin; (refine wpList_append_src rfl _ _ 50 rfl w.heap.size 23 i0 (.agg #[.string ⟨#[]⟩, .string ⟨#[]⟩, .int .i64 0, .int .i64 0, .int .i64 0, .int .i64 0]) 6 64 Tryz.underlying50 hi0 hz0 hs0 hby0 rfl (by decide) (.slice none 0 0) 0 [] rfl (World.ownsRow_nil _ _ _ _) q L cap (flatF fs) rfl ?qf1 ?qf2 ?qf3 ?qf4 ?qf5 ?qf6 ?_))
  any_goals first
    | exact flatF_one fs
    | (rw [flatF_len, HX.out])
    | (have h' := HSR.out; rw [HX.out] at h'; exact h')
    | (unfold maxLen; omega)
    | omega
    | exact Nat.le_refl _
  intro v3 w3 ho3 hg3 _
  have hb3 : Below w.heap.size w w3 := (Below.refl _ _).grown hg3 (Nat.le_refl _) (fun k hk => by simp [Value.ownBlock] at hk)
  have OW : Hid (w3.ownsRow w.heap.size 23 6 v3 L (flatF fs)) := by
    show w3.ownsRow _ _ _ _ _ _
    simpa using ho3
  clear ho3 hg3
  go_wp2
  go_ret
  exact ⟨v3, rfl, OW.out, hb3⟩
end Go.Proofs.YtpkoefpdpoikkaaGreatDoor
