/-
  What is known of a file, as it came in.
-/
import Derived.Test.YtpkoefpdpoikkaaGreatDoorRefOf
import Derived.ProofKit
import Derived.Deep.Strs
import Derived.HandedShaped
namespace Go.Proofs.YtpkoefpdpoikkaaGreatDoor
open Go.RowKit Go.Extern.Stop Go.Stop Go.Extern Go.Sort Go.Shelf Go.Lib

theorem chkF_le (f : Fl) : (chkF f).2 ≤ 12 := by
  unfold chkF
  split
  · exact Nat.zero_le _
  · have := fileE_le f; dsimp only; omega

theorem readF_le (l : List UInt8) : (readF l).2 ≤ 12 := by
  unfold readF
  split
  · split
    · exact chkF_le _
    · exact (by decide : (1 : Nat) ≤ 12)
  · exact (by decide : (1 : Nat) ≤ 12)

theorem keysF_le (g : Bool) (l : List UInt8) : (keysF g l).2 ≤ 12 := by
  cases g
  · exact (readG_le dataK rd_le l).1
  · exact (readG_le goneK (fun l => by
      show (keyO l).2 ≤ 12
      unfold keyO
      split
      · exact (by decide : (1 : Nat) ≤ 12)
      · split
        · exact Nat.zero_le _
        · exact (by decide : (2 : Nat) ≤ 12)) l).1

theorem ofF_le (p q : ByteArray) (l : List UInt8) (seq : Int) : (ofF p q l seq).2 ≤ 12 := by
  unfold ofF
  split
  · exact (by decide : (5 : Nat) ≤ 12)
  · split
    · exact chkF_le _
    · exact keysF_le _ _

theorem pathR_le (l : List UInt8) : (pathR l).2.2 ≤ 12 := by
  unfold pathR
  split
  · exact Nat.zero_le _
  · exact (by decide : (5 : Nat) ≤ 12)

set_option maxRecDepth 100000 in
set_option maxHeartbeats 16000000 in
theorem fileTells_any (f : Fl) (s t : ByteArray) (w : World) (a : Nat → Addr) (h : EnvF w a) (hE : Errs w a) (h1 : f.1.size ≤ maxLen) (h2 : f.2.1.size ≤ maxLen) (hs : s.size ≤ maxLen) (ht : t.size ≤ maxLen) :
    Calls Tryz.prog 4 #[flV f, .string s, .string t] w fun e w' => e = .returned (.bool true) ∧ Below w.heap.size w w' := by
  have hal : Below w.heap.size w (w.alloc (.cells #[.string f.1, .string f.2.1, .int .i64 f.2.2.1, .int .i64 f.2.2.2.1, .int .i64 f.2.2.2.2.1, .int .i64 f.2.2.2.2.2] 23)) := (Below.refl _ _).alloc (Nat.le_refl _) _
  have hfl := FlAt.new w f
  have hkn := known_any _ a (h.below hal)
  have hlg := fun W => longFile_any f W h1 h2
  unfold maxLen at h1 h2 hs ht
  have HE : Hid (∀ W, Below w.heap.size w W → Errs W a) := fun W hW => hE.below hW
  have HV : Hid (∀ W, Below w.heap.size w W → EnvF W a) := fun W hW => h.below hW
  have HD : Hid (flV f = flV f) := rfl
  have hck := fun (g1 : f.1.size ≤ 100000) (g2 : f.2.1.size ≤ 100000) W (hW : EnvF W a) => fcheck_any f W a hW.lean g1 g2
  have hfe := fun (g1 : f.1.size ≤ 100000) (g2 : f.2.1.size ≤ 100000) W => fileError_any f W g1 g2
  have htx := fun (g1 : f.1.size ≤ 100000) (g2 : f.2.1.size ≤ 100000) W (hW : EnvF W a) => ftext_any f W a hW.lean g1 g2
  have htr := fun (g1 : f.1.size ≤ 100000) (g2 : f.2.1.size ≤ 100000) W => fileText_any f W g1 g2
  have hec := fileE_le f
  generalize fileE f = E at hck hfe hec
  generalize fileB f = T at htx htr
  have hlb : longFB f = false → f.1.size ≤ 30 ∧ f.2.1.size ≤ 30 := fun e => by
    unfold longFB at e
    simp only [Bool.or_eq_false_iff, decide_eq_false_iff_not] at e
    omega
  generalize longFB f = lb at hlg hlb
  obtain ⟨p, q, n, lo, hi, seq⟩ := f
  unfold flV at *
  dsimp only at *
  clear h hE HD
  go_enter Tryz.func4, Tryz.ntmps4
  go_wp2_with fail
  generalize w.alloc (.cells #[.string p, .string q, .int .i64 n, .int .i64 lo, .int .i64 hi, .int .i64 seq] 23) = WA at hal hfl hkn ⊢
  refine hkn.mono ?_
  rintro e w1 ⟨rfl, hb1⟩
  clear hkn
  have hB1 : Below w.heap.size w w1 := hal.trans (hb1.mono hal.size)
  have hfl1 := hfl.below hb1
  clear hfl hb1 hal
  have hl1 := hlg w1
  obtain ⟨x0, x1, x2, x3, x4, x5, _⟩ := hfl1.cells
  dsimp only at x0 x1 x2 x3 x4 x5
  clear hlg
  go_wp2_with fail
  refine hl1.mono ?_
  rintro e w2 ⟨rfl, hb2⟩
  clear hl1 x0 x1 x2 x3 x4 x5
  have hB2 : Below w.heap.size w w2 := hB1.trans (hb2.mono hB1.size)
  have hfl2 := hfl1.below hb2
  clear hfl1 hb2
  cases lb with
  | true =>
    simp only [if_true]
    clear hck hfe htx htr hlb hfl2
    go_wp2
    go_ret
    exact ⟨rfl, hB2⟩
  | false =>
    obtain ⟨g1, g2⟩ := hlb rfl
    simp only [Bool.false_eq_true, if_false]
    clear hlb
    by_cases hs1 : 100 < s.size
    · have hs2 : (100 : Int) < (s.size : Int) := by omega
      clear hck hfe htx htr hfl2
      go_wp2
      go_ret
      exact ⟨rfl, hB2⟩
    · by_cases ht1 : 1500 < t.size
      · have hs2 : ¬ (100 : Int) < (s.size : Int) := by omega
        have ht2 : (1500 : Int) < (t.size : Int) := by omega
        clear hck hfe htx htr hfl2
        go_wp2
        go_ret
        exact ⟨rfl, hB2⟩
      · have hs2 : ¬ (100 : Int) < (s.size : Int) := by omega
        have ht2 : ¬ (1500 : Int) < (t.size : Int) := by omega
        have hck2 := hck (by omega) (by omega)
        have hfe2 := hfe (by omega) (by omega)
        have htx2 := htx (by omega) (by omega)
        have htr2 := htr (by omega) (by omega)
        have hnm := fnumber_any p w2 a (HV.out w2 hB2).data.env (by omega)
        have hpo := fun W => pathOf_any p W (by omega)
        have hple := pathR_le p.data.toList
        generalize pathR p.data.toList = PR at hnm hpo hple
        obtain ⟨kp, np, ep⟩ := PR
        dsimp only at hnm hpo hple
        obtain ⟨x0, _, _, _, _, _, _⟩ := hfl2.cells
        dsimp only at x0
        clear hck hfe htx htr
        go_wp2_with fail
        refine hnm.mono ?_
        rintro e w3 ⟨rfl, hb3⟩
        clear hnm x0
        have hB3 : Below w.heap.size w w3 := hB2.trans (hb3.mono hB2.size)
        obtain ⟨x0, x1, x2, x3, x4, x5, _⟩ := (hfl2.below hb3).cells
        dsimp only at x0 x1 x2 x3 x4 x5
        clear hfl2 hb3
        go_wp2_with fail
        refine (hpo w3).mono ?_
        rintro e w3' ⟨rfl, hw3⟩
        rw [hw3]
        clear hpo hw3
        generalize bytesOf kp = kB
        have hec2 : E ≤ 12 := by omega
        go_wp2_with fail
        go_region_held3 (fun w' => w'.cell? ⟨w.heap.size, 0, none⟩ = some (.string p) ∧ w'.cell? ⟨w.heap.size, 1, none⟩ = some (.string q) ∧ w'.cell? ⟨w.heap.size, 2, none⟩ = some (.int .i64 n) ∧ w'.cell? ⟨w.heap.size, 3, none⟩ = some (.int .i64 lo) ∧ w'.cell? ⟨w.heap.size, 4, none⟩ = some (.int .i64 hi) ∧ w'.cell? ⟨w.heap.size, 5, none⟩ = some (.int .i64 seq) ∧ Below w.heap.size w w')
          (first
            | (go_split_ands; with_reducible exact ⟨below_keep hbX (by assumption), below_keep hbX (by assumption), below_keep hbX (by assumption), below_keep hbX (by assumption), below_keep hbX (by assumption), below_keep hbX (by assumption), Below.trans (by assumption) (hbX.mono (Below.size (by assumption)))⟩)
            | (go_split_ands; exact ⟨by go_keep, by go_keep, by go_keep, by go_keep, by go_keep, by go_keep, by assumption⟩)
            | (go_split_ands; exact ⟨by go_keep, by go_keep, by go_keep, by go_keep, by go_keep, by go_keep, Below.drew (by assumption)⟩))
          (first
            | (go_at_call 20; with_reducible refine (coded_same ep hple _ a (HE.out _ (by go_split_ands; assumption))).mono ?_; rintro e wX ⟨rfl, hbX⟩)
            | (go_at_call 20; with_reducible refine (coded_same E hec2 _ a (HE.out _ (by go_split_ands; assumption))).mono ?_; rintro e wX ⟨rfl, hbX⟩)
            | (go_at_call 12; with_reducible refine (hck2 _ (HV.out _ (by go_split_ands; assumption))).mono ?_; rintro e wX ⟨rfl, hbX⟩)
            | (go_at_call 21; with_reducible refine (hfe2 _).mono ?_; rintro e wX ⟨rfl, hbX⟩)
            | (go_at_call 13; with_reducible refine (htx2 _ (HV.out _ (by go_split_ands; assumption))).mono ?_; rintro e wX ⟨rfl, hbX⟩)
            | (go_at_call 22; with_reducible refine (htr2 _).mono ?_; rintro e wX ⟨rfl, hbX⟩))
        go_split_ands
        have hB9 : Below w.heap.size w wX := by assumption
        have z0 : wX.cell? ⟨w.heap.size, 0, none⟩ = some (.string p) := by assumption
        have z1 : wX.cell? ⟨w.heap.size, 1, none⟩ = some (.string q) := by assumption
        have z5 : wX.cell? ⟨w.heap.size, 5, none⟩ = some (.int .i64 seq) := by assumption
        have Z0 : Hid (wX.cell? ⟨w.heap.size, 0, none⟩ = some (.string p)) := z0
        have Z1 : Hid (wX.cell? ⟨w.heap.size, 1, none⟩ = some (.string q)) := z1
        have Z5 : Hid (wX.cell? ⟨w.heap.size, 5, none⟩ = some (.int .i64 seq)) := z5
        have hrd := fread_any s wX a (HV.out _ hB9).rd (by omega)
        have hrf := fun W => readFile_any s W (by omega)
        have hrl := readF_le s.data.toList
        generalize readF s.data.toList = RR at hrd hrf hrl
        obtain ⟨⟨rp, rq, rn, rlo, rhi, rseq⟩, rE⟩ := RR
        unfold flV at hrd hrf
        dsimp only at hrd hrf hrl
        have hof := fun W (hW : Below w.heap.size w W) => fof_any p q t seq W a (HV.out W hW) (fun _ _ _ _ => (HE.out W hW).handle) (by omega) (by omega) (by unfold maxLen; omega)
        have hor := fun W => ofText_any p q t seq W (by omega) (by omega) (by unfold maxLen; omega)
        have hol := ofF_le p q t.data.toList seq
        generalize ofF p q t.data.toList seq = OO at hof hor hol
        obtain ⟨⟨op, oq, on, olo, ohi, oseq⟩, oE⟩ := OO
        unfold flV at hof hor
        dsimp only at hof hor hol
        clear z0 z1 z5 hck2 hfe2 htx2 htr2 hbX x0 x1 x2 x3 x4 x5
        clear hB1 hB2 hB3
        go_wp2_with fail
        refine hrd.mono ?_
        rintro e w10 ⟨rfl, hb10⟩
        clear hrd
        have hB10 : Below w.heap.size w w10 := hB9.trans (hb10.mono hB9.size)
        have hal10 : Below w10.heap.size w10 (w10.alloc (.cells #[.string rp, .string rq, .int .i64 rn, .int .i64 rlo, .int .i64 rhi, .int .i64 rseq] 23)) := (Below.refl _ _).alloc (Nat.le_refl _) _
        have hB11 : Below w.heap.size w (w10.alloc (.cells #[.string rp, .string rq, .int .i64 rn, .int .i64 rlo, .int .i64 rhi, .int .i64 rseq] 23)) := hB10.trans (hal10.mono hB10.size)
        have hfx := FlAt.new w10 (rp, rq, rn, rlo, rhi, rseq)
        dsimp only at hfx
        have hXw : w.heap.size < w10.heap.size := Nat.lt_of_lt_of_le (cell_lt Z0.out) hb10.size
        have Y0 : Hid ((w10.alloc (.cells #[.string rp, .string rq, .int .i64 rn, .int .i64 rlo, .int .i64 rhi, .int .i64 rseq] 23)).cell? ⟨w.heap.size, 0, none⟩ = some (.string p)) := below_keep hal10 (below_keep hb10 Z0.out)
        have Y1 : Hid ((w10.alloc (.cells #[.string rp, .string rq, .int .i64 rn, .int .i64 rlo, .int .i64 rhi, .int .i64 rseq] 23)).cell? ⟨w.heap.size, 1, none⟩ = some (.string q)) := below_keep hal10 (below_keep hb10 Z1.out)
        have Y5 : Hid ((w10.alloc (.cells #[.string rp, .string rq, .int .i64 rn, .int .i64 rlo, .int .i64 rhi, .int .i64 rseq] 23)).cell? ⟨w.heap.size, 5, none⟩ = some (.int .i64 seq)) := below_keep hal10 (below_keep hb10 Z5.out)
        clear hal10 hb10 Z0 Z1 Z5
        go_wp2_with fail
        generalize w10.alloc (.cells #[.string rp, .string rq, .int .i64 rn, .int .i64 rlo, .int .i64 rhi, .int .i64 rseq] 23) = w11 at hB11 hfx Y0 Y1 Y5 ⊢
        generalize w10.heap.size = BX at hfx hXw ⊢
        refine (hrf w11).mono ?_
        rintro e w12 ⟨rfl, hb12⟩
        clear hrf
        have hB12 : Below w.heap.size w w12 := hB11.trans (hb12.mono hB11.size)
        have hal12 : Below w12.heap.size w12 (w12.alloc (.cells #[.string rp, .string rq, .int .i64 rn, .int .i64 rlo, .int .i64 rhi, .int .i64 rseq] 23)) := (Below.refl _ _).alloc (Nat.le_refl _) _
        have hB13 : Below w.heap.size w (w12.alloc (.cells #[.string rp, .string rq, .int .i64 rn, .int .i64 rlo, .int .i64 rhi, .int .i64 rseq] 23)) := hB12.trans (hal12.mono hB12.size)
        have hfy := FlAt.new w12 (rp, rq, rn, rlo, rhi, rseq)
        dsimp only at hfy
        have hfx13 := (hfx.below hb12).below hal12
        have hYX : BX < w12.heap.size := (hfx.below hb12).lt
        have X0 : Hid ((w12.alloc (.cells #[.string rp, .string rq, .int .i64 rn, .int .i64 rlo, .int .i64 rhi, .int .i64 rseq] 23)).cell? ⟨w.heap.size, 0, none⟩ = some (.string p)) := below_keep hal12 (below_keep hb12 Y0.out)
        have X1 : Hid ((w12.alloc (.cells #[.string rp, .string rq, .int .i64 rn, .int .i64 rlo, .int .i64 rhi, .int .i64 rseq] 23)).cell? ⟨w.heap.size, 1, none⟩ = some (.string q)) := below_keep hal12 (below_keep hb12 Y1.out)
        have X5 : Hid ((w12.alloc (.cells #[.string rp, .string rq, .int .i64 rn, .int .i64 rlo, .int .i64 rhi, .int .i64 rseq] 23)).cell? ⟨w.heap.size, 5, none⟩ = some (.int .i64 seq)) := below_keep hal12 (below_keep hb12 Y5.out)
        have hcd := coded_same rE hrl (w12.alloc (.cells #[.string rp, .string rq, .int .i64 rn, .int .i64 rlo, .int .i64 rhi, .int .i64 rseq] 23)) a (HE.out _ hB13)
        clear hal12 hb12 hfx Y0 Y1 Y5
        go_wp2_with fail
        generalize w12.alloc (.cells #[.string rp, .string rq, .int .i64 rn, .int .i64 rlo, .int .i64 rhi, .int .i64 rseq] 23) = w13 at hB13 hfy hfx13 X0 X1 X5 hcd ⊢
        generalize w12.heap.size = BY at hfy hYX ⊢
        refine hcd.mono ?_
        rintro e w14 ⟨rfl, hb14⟩
        clear hcd
        have hB14 : Below w.heap.size w w14 := hB13.trans (hb14.mono hB13.size)
        have hfx14 := hfx13.below hb14
        have hfy14 := hfy.below hb14
        have FX14 : Hid (FlAt w14 BX (rp, rq, rn, rlo, rhi, rseq)) := hfx14
        have FY14 : Hid (FlAt w14 BY (rp, rq, rn, rlo, rhi, rseq)) := hfy14
        have hnq := fun W => neqF (rp, rq, rn, rlo, rhi, rseq) W
        have hgd : ∀ (bo : BinOp) (a b : Operand) (w : World), Sem.run Tryz.prog (eqGuard bo 23 a b (.agg #[.string rp, .string rq, .int .i64 rn, .int .i64 rlo, .int .i64 rhi, .int .i64 rseq]) (.agg #[.string rp, .string rq, .int .i64 rn, .int .i64 rlo, .int .i64 rhi, .int .i64 rseq])) w = .ok () w := fun bo a b w => guardF bo a b (rp, rq, rn, rlo, rhi, rseq) (rp, rq, rn, rlo, rhi, rseq) w
        unfold flV at hnq
        dsimp only at hnq
        obtain ⟨u0, u1, u2, u3, u4, u5, uf⟩ := hfx14.cells
        obtain ⟨v0, v1, v2, v3, v4, v5, vf⟩ := hfy14.cells
        dsimp only at u0 u1 u2 u3 u4 u5 v0 v1 v2 v3 v4 v5
        have k0 := below_keep hb14 X0.out
        have k1 := below_keep hb14 X1.out
        have k5 := below_keep hb14 X5.out
        have hof14 := hof w14 hB14
        clear hof hfx13 hfy hfx14 hfy14 X0 X1 X5 hb14
        go_wp2_with fail
        refine hof14.mono ?_
        rintro e w15 ⟨rfl, hb15⟩
        clear hof14 hnq hgd u0 u1 u2 u3 u4 u5 uf v0 v1 v2 v3 v4 v5 vf
        have hB15 : Below w.heap.size w w15 := hB14.trans (hb15.mono hB14.size)
        have hfx15 := FX14.out.below hb15
        have hfy15 := FY14.out.below hb15
        obtain ⟨u0, u1, u2, u3, u4, u5, uf⟩ := hfx15.cells
        dsimp only at u0 u1 u2 u3 u4 u5
        have hfx16 := hfx15.set (op, oq, on, olo, ohi, oseq)
        have hfy16 : FlAt (flSet w15 BX (op, oq, on, olo, ohi, oseq)) BY (rp, rq, rn, rlo, rhi, rseq) := by
          unfold FlAt at hfy15 ⊢
          rw [FlAt.flSet_other (by omega)]
          exact hfy15
        have hB16 := flSet_below (f := (op, oq, on, olo, ohi, oseq)) hB15 (Nat.le_of_lt hXw)
        unfold flSet at hfx16 hfy16 hB16
        dsimp only at hfx16 hfy16 hB16
        have m0 : (((((((w15.setCell ⟨BX, 0, none⟩ (.string op)).setCell ⟨BX, 1, none⟩ (.string oq)).setCell ⟨BX, 2, none⟩ (.int .i64 on)).setCell ⟨BX, 3, none⟩ (.int .i64 olo)).setCell ⟨BX, 4, none⟩ (.int .i64 ohi)).setCell ⟨BX, 5, none⟩ (.int .i64 oseq))).cell? ⟨w.heap.size, 0, none⟩ = some (.string p) := cell_store (Nat.ne_of_lt hXw) (below_keep hb15 k0)
        have m1 : (((((((w15.setCell ⟨BX, 0, none⟩ (.string op)).setCell ⟨BX, 1, none⟩ (.string oq)).setCell ⟨BX, 2, none⟩ (.int .i64 on)).setCell ⟨BX, 3, none⟩ (.int .i64 olo)).setCell ⟨BX, 4, none⟩ (.int .i64 ohi)).setCell ⟨BX, 5, none⟩ (.int .i64 oseq))).cell? ⟨w.heap.size, 1, none⟩ = some (.string q) := cell_store (Nat.ne_of_lt hXw) (below_keep hb15 k1)
        have m5 : (((((((w15.setCell ⟨BX, 0, none⟩ (.string op)).setCell ⟨BX, 1, none⟩ (.string oq)).setCell ⟨BX, 2, none⟩ (.int .i64 on)).setCell ⟨BX, 3, none⟩ (.int .i64 olo)).setCell ⟨BX, 4, none⟩ (.int .i64 ohi)).setCell ⟨BX, 5, none⟩ (.int .i64 oseq))).cell? ⟨w.heap.size, 5, none⟩ = some (.int .i64 seq) := cell_store (Nat.ne_of_lt hXw) (below_keep hb15 k5)
        have hor16 := hor (((((((w15.setCell ⟨BX, 0, none⟩ (.string op)).setCell ⟨BX, 1, none⟩ (.string oq)).setCell ⟨BX, 2, none⟩ (.int .i64 on)).setCell ⟨BX, 3, none⟩ (.int .i64 olo)).setCell ⟨BX, 4, none⟩ (.int .i64 ohi)).setCell ⟨BX, 5, none⟩ (.int .i64 oseq)))
        clear hor k0 k1 k5 hb15 hfx15 hfy15 FX14 FY14
        go_wp2_with fail
        generalize ((((((w15.setCell ⟨BX, 0, none⟩ (.string op)).setCell ⟨BX, 1, none⟩ (.string oq)).setCell ⟨BX, 2, none⟩ (.int .i64 on)).setCell ⟨BX, 3, none⟩ (.int .i64 olo)).setCell ⟨BX, 4, none⟩ (.int .i64 ohi)).setCell ⟨BX, 5, none⟩ (.int .i64 oseq)) = w16 at hfx16 hfy16 hB16 m0 m1 m5 hor16 ⊢
        refine hor16.mono ?_
        rintro e w17 ⟨rfl, hb17⟩
        clear hor16 m0 m1 m5 u0 u1 u2 u3 u4 u5 uf
        have hB17 : Below w.heap.size w w17 := hB16.trans (hb17.mono hB16.size)
        have hfx17 := hfx16.below hb17
        have hfy17 := hfy16.below hb17
        obtain ⟨u0, u1, u2, u3, u4, u5, uf⟩ := hfy17.cells
        dsimp only at u0 u1 u2 u3 u4 u5
        have hfy18 := hfy17.set (op, oq, on, olo, ohi, oseq)
        have hfx18 : FlAt (flSet w17 BY (op, oq, on, olo, ohi, oseq)) BX (op, oq, on, olo, ohi, oseq) := by
          unfold FlAt at hfx17 ⊢
          rw [FlAt.flSet_other (by omega)]
          exact hfx17
        have hB18 := flSet_below (f := (op, oq, on, olo, ohi, oseq)) hB17 (Nat.le_of_lt (Nat.lt_trans hXw hYX))
        unfold flSet at hfx18 hfy18 hB18
        dsimp only at hfx18 hfy18 hB18
        have hcd := coded_same oE hol (((((((w17.setCell ⟨BY, 0, none⟩ (.string op)).setCell ⟨BY, 1, none⟩ (.string oq)).setCell ⟨BY, 2, none⟩ (.int .i64 on)).setCell ⟨BY, 3, none⟩ (.int .i64 olo)).setCell ⟨BY, 4, none⟩ (.int .i64 ohi)).setCell ⟨BY, 5, none⟩ (.int .i64 oseq))) a (HE.out _ hB18)
        clear hfx17 hfy17 hfx16 hfy16 hb17
        go_wp2_with fail
        generalize ((((((w17.setCell ⟨BY, 0, none⟩ (.string op)).setCell ⟨BY, 1, none⟩ (.string oq)).setCell ⟨BY, 2, none⟩ (.int .i64 on)).setCell ⟨BY, 3, none⟩ (.int .i64 olo)).setCell ⟨BY, 4, none⟩ (.int .i64 ohi)).setCell ⟨BY, 5, none⟩ (.int .i64 oseq)) = w18 at hfx18 hfy18 hB18 hcd ⊢
        refine hcd.mono ?_
        rintro e w19 ⟨rfl, hb19⟩
        clear hcd u0 u1 u2 u3 u4 u5 uf
        have hB19 : Below w.heap.size w w19 := hB18.trans (hb19.mono hB18.size)
        obtain ⟨u0, u1, u2, u3, u4, u5, uf⟩ := (hfx18.below hb19).cells
        obtain ⟨v0, v1, v2, v3, v4, v5, vf⟩ := (hfy18.below hb19).cells
        dsimp only at u0 u1 u2 u3 u4 u5 v0 v1 v2 v3 v4 v5
        have heq := fun W => eqF (op, oq, on, olo, ohi, oseq) W
        have hgd : ∀ (bo : BinOp) (a b : Operand) (w : World), Sem.run Tryz.prog (eqGuard bo 23 a b (.agg #[.string op, .string oq, .int .i64 on, .int .i64 olo, .int .i64 ohi, .int .i64 oseq]) (.agg #[.string op, .string oq, .int .i64 on, .int .i64 olo, .int .i64 ohi, .int .i64 oseq])) w = .ok () w := fun bo a b w => guardF bo a b (op, oq, on, olo, ohi, oseq) (op, oq, on, olo, ohi, oseq) w
        unfold flV at heq
        dsimp only at heq
        clear hfx18 hfy18 hb19
        go_wp2
        go_ret
        exact ⟨rfl, hB19⟩
end Go.Proofs.YtpkoefpdpoikkaaGreatDoor
namespace Go.Proofs.YtpkoefpdpoikkaaGreatDoor
open Go.ChangeShapes Go.WideShapes Go.ChangeAt Go.RowKit Go.Deep

theorem Tryz.cellsInt : Tryz.prog.cellsOf 3 = 1 := by kernel_rfl
theorem Tryz.cellsString : Tryz.prog.cellsOf 9 = 1 := by kernel_rfl

section
variable {H : Type} {enc : TypeId × Value → H} {W : World} {base : Nat} {spare : Nat → Bool} {held : Bool}

end

theorem returns_and_shaped {H : Type} {enc : TypeId × Value → H} {a : Assume} {C : Checked} {os : Os} {f : FuncId} {fn : Func} {s : ChangeSpec} {conds : List PathCond} {apart fresh handsOn again : Bool} {X : World → Array Value → Prop}
    (hX : ∀ (w w' : World) (args : Array Value), w.heap = w'.heap → X w args → X w' args)
    (own : ownKnob C.prog.godebug = none) (started : os.Started) (noInit : C.prog.inits.idxOf? f = none) (hfn : C.prog.funcs[f]? = some fn)
    (witness : ∃ (w : World) (tape : Tape) (i : Input), w.os = os ∧ (w.forCall tape i).Shaped C.prog ∧ i.vars = [] ∧ Input.okWide C.prog (w.forCall tape i) .any w.heap.size f i ∧
      ((s.pre enc C.prog fn conds apart (w.forCall tape i).memory i.args ∧ X (w.forCall tape i).memory i.args) ∧ sizedMet enc C.prog fn (OpenSpec.ofChange s) apart (w.forCall tape i).memory i.args) ∧ a.holds C.prog (lone (Frame.enter C.prog f i.args .normal) [] (w.forCall tape i)))
    (contract : ∀ (W : World) (base : Nat) (args : Array Value) (ds gs : List (DataW H)) (before : List MemPlace),
      (∀ (j : Nat) t v, fn.params[j]? = some t → args[j]? = some v → Value.okWide C.prog W .any base t v) →
      DataW.Whole enc C.prog fn.params.toList s.vars apart W args.toList ds gs before → W.ShapedOpen C.prog → X W args →
      Calls C.prog f args W fun e W' => ∃ v, e = .returned v ∧ s.post enc C.prog fn apart fresh handsOn again W args v W') :
    ReturnsInHanded a C os f .any (fun w args => (s.pre enc C.prog fn conds apart w args ∧ X w args) ∧ sizedMet enc C.prog fn (OpenSpec.ofChange s) apart w args) (s.post enc C.prog fn apart fresh handsOn again) := by
  refine returnsInHanded_of_calls own started noInit witness fun w tape i _ hsh _ hok hpre _ => ?_
  obtain ⟨_, _, _, fn', hfn', _, _, _, _, hval⟩ := hok
  cases Option.some.inj (hfn'.symm.trans hfn)
  obtain ⟨⟨⟨ds, gs, before, hw, _⟩, hx⟩, _⟩ := hpre
  have hw' := DataW.Whole.of_heap (w' := w.forCall tape i) (by rfl) hw
  have hx' := hX _ (w.forCall tape i) _ (by rfl) hx
  refine (contract (w.forCall tape i) w.heap.size i.args ds gs before hval hw' hsh hx').mono fun e W' ⟨v, he, hp⟩ => ?_
  subst he
  exact ChangeSpec.post_blind hp
end Go.Proofs.YtpkoefpdpoikkaaGreatDoor
namespace Go.Proofs.YtpkoefpdpoikkaaGreatDoor
open Go.ChangeShapes Go.WideShapes Go.ChangeAt Go.RowKit Go.Lib Go.Shelf

theorem Tryz.cellsFile : Tryz.prog.cellsOf 23 = 6 := by kernel_rfl

theorem list6 {α : Type} {l : List α} (h : l.length = 6) : ∃ a b c d e f, l = [a, b, c, d, e, f] := by
  match l, h with
  | [a, b, c, d, e, f], _ => exact ⟨a, b, c, d, e, f, rfl⟩

theorem array6 {α : Type} {cs : Array α} (h : cs.size = 6) : ∃ a b c d e f, cs = #[a, b, c, d, e, f] := by
  obtain ⟨l⟩ := cs
  obtain ⟨a, b, c, d, e, f, rfl⟩ := list6 (l := l) h
  exact ⟨a, b, c, d, e, f, rfl⟩

section
variable {H : Type} {enc : TypeId × Value → H} {W : World} {base : Nat} {spare : Nat → Bool} {held : Bool}

set_option maxRecDepth 100000 in
theorem open_file {r : Reach} {b0 : Nat} {v : Value} {d : DataW H} {p : List MemPlace} (hv : Value.okWide Tryz.prog W r b0 23 v) (h : DataW.Trod enc Tryz.prog W base spare held 23 v d p) :
    ∃ f : Fl, v = flV f ∧ f.1.size ≤ maxLen ∧ f.2.1.size ≤ maxLen := by
  obtain ⟨cs, rfl, hsz⟩ := okWide_struct Tryz.underlying23 hv
  obtain ⟨c0, c1, c2, c3, c4, c5, rfl⟩ := array6 (hsz.trans Tryz.cellsFile)
  obtain ⟨fuel, hf⟩ := h
  have hf' : DataW.trod enc Tryz.prog W base spare held fuel 23 [c0, c1, c2, c3, c4, c5] = some (d, p) := by simpa [Value.cells] using hf
  obtain ⟨xs, n, _, _, _, hlen, hfs⟩ := DataW.trod_struct Tryz.underlying23 hf'
  obtain ⟨y0, y1, y2, y3, y4, y5, rfl⟩ := list6 (show xs.length = 6 from hlen)
  have f0 : DataW.trod enc Tryz.prog W base spare held n 9 [c0] = some y0 := by simpa [Tryz.cellsString] using hfs 0 _ rfl
  have f1 : DataW.trod enc Tryz.prog W base spare held n 9 [c1] = some y1 := by simpa [Tryz.cellsString] using hfs 1 _ rfl
  have f2 : DataW.trod enc Tryz.prog W base spare held n 3 [c2] = some y2 := by simpa [Tryz.cellsInt] using hfs 2 _ rfl
  have f3 : DataW.trod enc Tryz.prog W base spare held n 3 [c3] = some y3 := by simpa [Tryz.cellsInt] using hfs 3 _ rfl
  have f4 : DataW.trod enc Tryz.prog W base spare held n 3 [c4] = some y4 := by simpa [Tryz.cellsInt] using hfs 4 _ rfl
  have f5 : DataW.trod enc Tryz.prog W base spare held n 3 [c5] = some y5 := by simpa [Tryz.cellsInt] using hfs 5 _ rfl
  obtain ⟨s0, e0, _, h0⟩ := DataW.trod_string Tryz.underlying9 f0
  obtain ⟨s1, e1, _, h1⟩ := DataW.trod_string Tryz.underlying9 f1
  obtain ⟨k2, e2, _, _⟩ := DataW.trod_int Tryz.underlying3 f2
  obtain ⟨k3, e3, _, _⟩ := DataW.trod_int Tryz.underlying3 f3
  obtain ⟨k4, e4, _, _⟩ := DataW.trod_int Tryz.underlying3 f4
  obtain ⟨k5, e5, _, _⟩ := DataW.trod_int Tryz.underlying3 f5
  simp only [List.cons.injEq, and_true] at e0 e1 e2 e3 e4 e5
  exact ⟨(s0, s1, k2, k3, k4, k5), by rw [e0, e1, e2, e3, e4, e5]; rfl, h0, h1⟩
end
end Go.Proofs.YtpkoefpdpoikkaaGreatDoor
