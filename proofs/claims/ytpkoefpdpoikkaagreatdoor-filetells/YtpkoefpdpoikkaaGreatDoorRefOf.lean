/-
  The contract of the document's own OfText.
-/
import Derived.Test.YtpkoefpdpoikkaaGreatDoorRefReadGone
namespace Go.Proofs.YtpkoefpdpoikkaaGreatDoor
open Go.RowKit Go.Extern.Stop Go.Stop Go.Extern Go.Sort Go.Shelf Go.Lib

set_option maxRecDepth 100000 in
set_option maxHeartbeats 8000000 in
theorem ofText_any (p q s : ByteArray) (seq : Int) (w : World) (h1 : p.size ≤ 100000) (h2 : q.size ≤ 100000) (hs : s.size ≤ maxLen) :
    Calls Tryz.prog 24 #[.string p, .string q, .string s, .int .i64 seq] w fun e w' => e = .returned (.tuple #[flV (ofF p q s.data.toList seq).1, .int .i64 (ofF p q s.data.toList seq).2]) ∧ Below w.heap.size w w' := by
  have hal : Below w.heap.size w (w.alloc (.cells #[.string ⟨#[]⟩, .string ⟨#[]⟩, .int .i64 0, .int .i64 0, .int .i64 0, .int .i64 0] 23)) := (Below.refl _ _).alloc (Nat.le_refl _) _
  have hfz : FlAt (w.alloc (.cells #[.string ⟨#[]⟩, .string ⟨#[]⟩, .int .i64 0, .int .i64 0, .int .i64 0, .int .i64 0] 23)) w.heap.size zeroF := FlAt.new w zeroF
  have hnm := pathOf_any p (w.alloc (.cells #[.string ⟨#[]⟩, .string ⟨#[]⟩, .int .i64 0, .int .i64 0, .int .i64 0, .int .i64 0] 23)) h1
  generalize hR : ofF p q s.data.toList seq = R
  have HR : Hid (ofF p q s.data.toList seq = R) := hR
  clear hR
  have ZERO : Hid (∀ W, FlAt W w.heap.size zeroF → (W.cell? ⟨w.heap.size, 0, none⟩ = some (.string ⟨#[]⟩) ∧ W.cell? ⟨w.heap.size, 1, none⟩ = some (.string ⟨#[]⟩) ∧ W.cell? ⟨w.heap.size, 2, none⟩ = some (.int .i64 0) ∧ W.cell? ⟨w.heap.size, 3, none⟩ = some (.int .i64 0) ∧ W.cell? ⟨w.heap.size, 4, none⟩ = some (.int .i64 0) ∧ W.cell? ⟨w.heap.size, 5, none⟩ = some (.int .i64 0) ∧ ∀ o, W.frozen? ⟨w.heap.size, o, none⟩ = false)) := fun W hW => hW.cells
  have hfe := fun (L : Nat) (lo hi : Int) W => fileError_any (p, q, (L : Int), lo, hi, seq) W h1 h2
  unfold flV at hfe
  dsimp only at hfe
  go_enter Tryz.func24, Tryz.ntmps24
  go_wp2_with fail
  generalize w.alloc (.cells #[.string ⟨#[]⟩, .string ⟨#[]⟩, .int .i64 0, .int .i64 0, .int .i64 0, .int .i64 0] 23) = WA at hal hfz hnm ⊢
  refine hnm.mono ?_
  rintro e w1 ⟨rfl, hw1⟩
  rw [hw1]
  clear hnm hw1
  have HF1 : Hid (FlAt WA w.heap.size zeroF) := hfz
  clear hfz
  cases hp : pathO p.data.toList with
  | none =>
    have hRR := HR.out
    rw [ofF_none hp] at hRR
    subst hRR
    rw [pathR_none hp]
    obtain ⟨y0, y1, y2, y3, y4, y5, yf⟩ := ZERO.out WA HF1.out
    have s0 := setCell_self y0
    have s1 := setCell_self y1
    have s2 := setCell_self y2
    have s3 := setCell_self y3
    have s4 := setCell_self y4
    have s5 := setCell_self y5
    clear hp hfe
    go_wp2
    exact bodyPost_ret (v := .tuple #[.agg #[.string ⟨#[]⟩, .string ⟨#[]⟩, .int .i64 0, .int .i64 0, .int .i64 0, .int .i64 0], .int .i64 5]) (by simp [results, Tryz.results24, go_sem, y0, y1, y2, y3, y4, y5]) rfl ⟨rfl, hal⟩
  | some gn =>
    obtain ⟨g, k⟩ := gn
    have hRR := HR.out
    rw [ofF_some hp] at hRR
    rw [pathR_some hp]
    have hkl := keysF_len g s.data.toList
    have hkd : (bytesOf (kindL g)).data.toList = kindL g := bytes_data _
    clear hp HR
    cases g
    · have d1 := eqB_of (s := bytesOf (kindL false)) (l := [100, 97, 116, 97]) (by rw [hkd]; rfl)
      have hrd := readData_any s WA hs
      have eK : keysF false s.data.toList = (keysR (dataO s.data.toList).1, (dataO s.data.toList).2.1) := rfl
      rw [eK] at hRR hkl
      generalize bytesOf (kindL false) = kB at d1 ⊢
      generalize dataO s.data.toList = Dt at hrd hRR hkl
      obtain ⟨xs, E, pl⟩ := Dt
      dsimp only at hRR hkl
      have HRR : Hid ((if E = 0 then chkF (p, q, (keysR xs).length, (endsZ (keysR xs)).1, (endsZ (keysR xs)).2, seq) else (zeroF, E)) = R) := hRR
      clear hkd eK hRR
      go_wp2_with fail
      refine hrd.mono ?_
      rintro e w2 ⟨hb2, hres⟩
      clear hrd
      have hB2 : Below w.heap.size w w2 := hal.trans (hb2.mono hal.size)
      have HF2 : Hid (FlAt w2 w.heap.size zeroF) := HF1.out.below hb2
      dsimp only at hres
      clear hb2 hal
      rcases hres with ⟨h0, v, rfl, hv⟩ | ⟨h0, j, rfl, _, _⟩
      · have HX : Hid (chkF (p, q, (keysR xs).length, (endsZ (keysR xs)).1, (endsZ (keysR xs)).2, seq) = R) := by
          show _ = _
          rw [← HRR.out, if_pos h0]
        have hba : Below w2.heap.size w2 (w2.alloc (.cells #[.int .i64 0, .int .i64 (-1)] 64)) := (Below.refl _ _).alloc (Nat.le_refl _) _
        have hBA : Below w.heap.size w (w2.alloc (.cells #[.int .i64 0, .int .i64 (-1)] 64)) := hB2.trans (hba.mono hB2.size)
        have hko := keysOf_any v xs _ (hv.below hba) (by rw [keysR_len] at hkl; omega)
        have HFA : Hid (FlAt (w2.alloc (.cells #[.int .i64 0, .int .i64 (-1)] 64)) w.heap.size zeroF) := HF2.out.below hba
        clear hv hba HRR h0
        go_wp2_with fail
        generalize w2.alloc (.cells #[.int .i64 0, .int .i64 (-1)] 64) = WB at hko hBA HFA ⊢
        refine hko.mono ?_
        rintro e w3 ⟨kv, rfl, hk3, hb3⟩
        clear hko
        have hB3 : Below w.heap.size w w3 := hBA.trans (hb3.mono hBA.size)
        have HF3 : Hid (FlAt w3 w.heap.size zeroF) := HFA.out.below hb3
        generalize keysR xs = zs at hk3 HX hkl
        clear hb3 hBA HFA
        go_wp2_with fail
        have hen := ends_any kv zs w3 hk3 (by unfold maxLen; omega)
        obtain ⟨q3, c3, rfl⟩ := hk3.form
        have HX2 : Hid (R = if fileE (p, q, (zs.length : Int), (endsZ zs).1, (endsZ zs).2, seq) = 0 then ((p, q, (zs.length : Int), (endsZ zs).1, (endsZ zs).2, seq), 0) else (zeroF, fileE (p, q, (zs.length : Int), (endsZ zs).1, (endsZ zs).2, seq))) := HX.out.symm
        clear HX hk3
        generalize (endsZ zs).1 = lo at hen HX2
        generalize (endsZ zs).2 = hi at hen HX2
        generalize zs.length = L at hen HX2 hkl ⊢
        have hbf : Below w3.heap.size w3 (w3.alloc (.cells #[.string p, .string q, .int .i64 L, .int .i64 lo, .int .i64 hi, .int .i64 seq] 23)) := (Below.refl _ _).alloc (Nat.le_refl _) _
        have hfB := FlAt.new w3 (p, q, (L : Int), lo, hi, seq)
        dsimp only at hfB
        have hzF := HF3.out.below hbf
        have hBF : Below w.heap.size w (w3.alloc (.cells #[.string p, .string q, .int .i64 L, .int .i64 lo, .int .i64 hi, .int .i64 seq] 23)) := hB3.trans (hbf.mono hB3.size)
        have hf4 := hfe L lo hi (w3.alloc (.cells #[.string p, .string q, .int .i64 L, .int .i64 lo, .int .i64 hi, .int .i64 seq] 23))
        refine hen.mono ?_
        rintro e w4 ⟨rfl, hw4⟩
        rw [hw4]
        clear hw4 hen hfe hbf
        go_wp2_with fail
        generalize w3.alloc (.cells #[.string p, .string q, .int .i64 L, .int .i64 lo, .int .i64 hi, .int .i64 seq] 23) = WF at hf4 hBF hzF hfB ⊢
        generalize w3.heap.size = BF at hfB ⊢
        refine hf4.mono ?_
        rintro e w5 ⟨rfl, hb5⟩
        clear hf4
        have hB5 : Below w.heap.size w w5 := hBF.trans (hb5.mono hBF.size)
        have hz5 := hzF.below hb5
        have HZ5 : Hid (FlAt w5 w.heap.size zeroF) := hz5
        obtain ⟨x0, x1, x2, x3, x4, x5, _⟩ := (hfB.below hb5).cells
        dsimp only at x0 x1 x2 x3 x4 x5
        clear hfB hzF hb5 hz5
        have hX3 := HX2.out
        clear HX2
        generalize hfE : fileE (p, q, (L : Int), lo, hi, seq) = Ef at hX3 ⊢
        clear hfE
        obtain ⟨y0, y1, y2, y3, y4, y5, yf⟩ := ZERO.out w5 HZ5.out
        by_cases he : Ef = 0
        · rw [if_pos he] at hX3
          subst hX3
          subst he
          obtain ⟨z0, z1, z2, z3, z4, z5, _⟩ := (HZ5.out.set (p, q, (L : Int), lo, hi, seq)).cells
          have hB6 := flSet_below (f := (p, q, (L : Int), lo, hi, seq)) hB5 (Nat.le_refl w.heap.size)
          unfold flSet at z0 z1 z2 z3 z4 z5 hB6
          dsimp only at z0 z1 z2 z3 z4 z5 hB6
          go_wp2
          exact bodyPost_ret (v := .tuple #[.agg #[.string p, .string q, .int .i64 L, .int .i64 lo, .int .i64 hi, .int .i64 seq], .int .i64 0]) (by simp [results, Tryz.results24, go_sem, z0, z1, z2, z3, z4, z5]) rfl ⟨rfl, hB6⟩
        · rw [if_neg he] at hX3
          subst hX3
          have hEp : (0 : Int) < (Ef : Int) := by omega
          have s0 := setCell_self y0
          have s1 := setCell_self y1
          have s2 := setCell_self y2
          have s3 := setCell_self y3
          have s4 := setCell_self y4
          have s5 := setCell_self y5
          clear he x0 x1 x2 x3 x4 x5
          go_wp2
          exact bodyPost_ret (v := .tuple #[.agg #[.string ⟨#[]⟩, .string ⟨#[]⟩, .int .i64 0, .int .i64 0, .int .i64 0, .int .i64 0], .int .i64 Ef]) (by simp [results, Tryz.results24, go_sem, y0, y1, y2, y3, y4, y5]) rfl ⟨rfl, hB5⟩
      · have hX : R = (zeroF, E) := by
          rw [← HRR.out, if_neg h0]
        subst hX
        have hEp : (0 : Int) < (E : Int) := by omega
        have hba : Below w2.heap.size w2 (w2.alloc (.cells #[.int .i64 E, .int .i64 j] 64)) := (Below.refl _ _).alloc (Nat.le_refl _) _
        have hBA : Below w.heap.size w (w2.alloc (.cells #[.int .i64 E, .int .i64 j] 64)) := hB2.trans (hba.mono hB2.size)
        have hFC : FC (w2.alloc (.cells #[.int .i64 E, .int .i64 j] 64)) w2.heap.size E j := heap_alloc_new _ _
        obtain ⟨y0, y1, y2, y3, y4, y5, yf⟩ := ZERO.out _ (HF2.out.below hba)
        have s0 := setCell_self y0
        have s1 := setCell_self y1
        have s2 := setCell_self y2
        have s3 := setCell_self y3
        have s4 := setCell_self y4
        have s5 := setCell_self y5
        have k0 := hFC.c0
        clear hba HRR hfe h0 hFC
        go_wp2
        go_region
        all_goals go_wp2
        all_goals exact bodyPost_ret (v := .tuple #[.agg #[.string ⟨#[]⟩, .string ⟨#[]⟩, .int .i64 0, .int .i64 0, .int .i64 0, .int .i64 0], .int .i64 E]) (by simp [results, Tryz.results24, go_sem, y0, y1, y2, y3, y4, y5]) rfl ⟨rfl, hBA.drew⟩
    · have d1 := neB_of (s := bytesOf (kindL true)) (l := [100, 97, 116, 97]) (by rw [hkd]; decide)
      have hrd := readGone_any s WA hs
      have eK : keysF true s.data.toList = ((goneO s.data.toList).1, (goneO s.data.toList).2.1) := rfl
      rw [eK] at hRR hkl
      generalize bytesOf (kindL true) = kB at d1 ⊢
      generalize goneO s.data.toList = Dt at hrd hRR hkl
      obtain ⟨zs, E, pl⟩ := Dt
      dsimp only at hRR hkl
      have HRR : Hid ((if E = 0 then chkF (p, q, zs.length, (endsZ zs).1, (endsZ zs).2, seq) else (zeroF, E)) = R) := hRR
      clear hkd eK hRR
      go_wp2_with fail
      refine hrd.mono ?_
      rintro e w2 ⟨hb2, hres⟩
      clear hrd
      have hB2 : Below w.heap.size w w2 := hal.trans (hb2.mono hal.size)
      have HF2 : Hid (FlAt w2 w.heap.size zeroF) := HF1.out.below hb2
      dsimp only at hres
      clear hb2 hal
      rcases hres with ⟨h0, kv, rfl, hv, _⟩ | ⟨h0, j, rfl, _, _⟩
      · have HX : Hid (chkF (p, q, zs.length, (endsZ zs).1, (endsZ zs).2, seq) = R) := by
          show _ = _
          rw [← HRR.out, if_pos h0]
        have hba : Below w2.heap.size w2 (w2.alloc (.cells #[.int .i64 0, .int .i64 (-1)] 64)) := (Below.refl _ _).alloc (Nat.le_refl _) _
        have hB3 : Below w.heap.size w (w2.alloc (.cells #[.int .i64 0, .int .i64 (-1)] 64)) := hB2.trans (hba.mono hB2.size)
        have hk3 := hv.below hba
        have HF3 : Hid (FlAt (w2.alloc (.cells #[.int .i64 0, .int .i64 (-1)] 64)) w.heap.size zeroF) := HF2.out.below hba
        clear hv hba HRR h0
        go_wp2_with fail
        generalize w2.alloc (.cells #[.int .i64 0, .int .i64 (-1)] 64) = w3 at hk3 hB3 HF3 ⊢
        have hen := ends_any kv zs w3 hk3 (by unfold maxLen; omega)
        obtain ⟨q3, c3, rfl⟩ := hk3.form
        have HX2 : Hid (R = if fileE (p, q, (zs.length : Int), (endsZ zs).1, (endsZ zs).2, seq) = 0 then ((p, q, (zs.length : Int), (endsZ zs).1, (endsZ zs).2, seq), 0) else (zeroF, fileE (p, q, (zs.length : Int), (endsZ zs).1, (endsZ zs).2, seq))) := HX.out.symm
        clear HX hk3
        generalize (endsZ zs).1 = lo at hen HX2
        generalize (endsZ zs).2 = hi at hen HX2
        generalize zs.length = L at hen HX2 hkl ⊢
        have hbf : Below w3.heap.size w3 (w3.alloc (.cells #[.string p, .string q, .int .i64 L, .int .i64 lo, .int .i64 hi, .int .i64 seq] 23)) := (Below.refl _ _).alloc (Nat.le_refl _) _
        have hfB := FlAt.new w3 (p, q, (L : Int), lo, hi, seq)
        dsimp only at hfB
        have hzF := HF3.out.below hbf
        have hBF : Below w.heap.size w (w3.alloc (.cells #[.string p, .string q, .int .i64 L, .int .i64 lo, .int .i64 hi, .int .i64 seq] 23)) := hB3.trans (hbf.mono hB3.size)
        have hf4 := hfe L lo hi (w3.alloc (.cells #[.string p, .string q, .int .i64 L, .int .i64 lo, .int .i64 hi, .int .i64 seq] 23))
        refine hen.mono ?_
        rintro e w4 ⟨rfl, hw4⟩
        rw [hw4]
        clear hw4 hen hfe hbf
        go_wp2_with fail
        generalize w3.alloc (.cells #[.string p, .string q, .int .i64 L, .int .i64 lo, .int .i64 hi, .int .i64 seq] 23) = WF at hf4 hBF hzF hfB ⊢
        generalize w3.heap.size = BF at hfB ⊢
        refine hf4.mono ?_
        rintro e w5 ⟨rfl, hb5⟩
        clear hf4
        have hB5 : Below w.heap.size w w5 := hBF.trans (hb5.mono hBF.size)
        have hz5 := hzF.below hb5
        have HZ5 : Hid (FlAt w5 w.heap.size zeroF) := hz5
        obtain ⟨x0, x1, x2, x3, x4, x5, _⟩ := (hfB.below hb5).cells
        dsimp only at x0 x1 x2 x3 x4 x5
        clear hfB hzF hb5 hz5
        have hX3 := HX2.out
        clear HX2
        generalize hfE : fileE (p, q, (L : Int), lo, hi, seq) = Ef at hX3 ⊢
        clear hfE
        obtain ⟨y0, y1, y2, y3, y4, y5, yf⟩ := ZERO.out w5 HZ5.out
        by_cases he : Ef = 0
        · rw [if_pos he] at hX3
          subst hX3
          subst he
          obtain ⟨z0, z1, z2, z3, z4, z5, _⟩ := (HZ5.out.set (p, q, (L : Int), lo, hi, seq)).cells
          have hB6 := flSet_below (f := (p, q, (L : Int), lo, hi, seq)) hB5 (Nat.le_refl w.heap.size)
          unfold flSet at z0 z1 z2 z3 z4 z5 hB6
          dsimp only at z0 z1 z2 z3 z4 z5 hB6
          go_wp2
          exact bodyPost_ret (v := .tuple #[.agg #[.string p, .string q, .int .i64 L, .int .i64 lo, .int .i64 hi, .int .i64 seq], .int .i64 0]) (by simp [results, Tryz.results24, go_sem, z0, z1, z2, z3, z4, z5]) rfl ⟨rfl, hB6⟩
        · rw [if_neg he] at hX3
          subst hX3
          have hEp : (0 : Int) < (Ef : Int) := by omega
          have s0 := setCell_self y0
          have s1 := setCell_self y1
          have s2 := setCell_self y2
          have s3 := setCell_self y3
          have s4 := setCell_self y4
          have s5 := setCell_self y5
          clear he x0 x1 x2 x3 x4 x5
          go_wp2
          exact bodyPost_ret (v := .tuple #[.agg #[.string ⟨#[]⟩, .string ⟨#[]⟩, .int .i64 0, .int .i64 0, .int .i64 0, .int .i64 0], .int .i64 Ef]) (by simp [results, Tryz.results24, go_sem, y0, y1, y2, y3, y4, y5]) rfl ⟨rfl, hB5⟩
      · have hX : R = (zeroF, E) := by
          rw [← HRR.out, if_neg h0]
        subst hX
        have hEp : (0 : Int) < (E : Int) := by omega
        have hba : Below w2.heap.size w2 (w2.alloc (.cells #[.int .i64 E, .int .i64 j] 64)) := (Below.refl _ _).alloc (Nat.le_refl _) _
        have hBA : Below w.heap.size w (w2.alloc (.cells #[.int .i64 E, .int .i64 j] 64)) := hB2.trans (hba.mono hB2.size)
        have hFC : FC (w2.alloc (.cells #[.int .i64 E, .int .i64 j] 64)) w2.heap.size E j := heap_alloc_new _ _
        obtain ⟨y0, y1, y2, y3, y4, y5, yf⟩ := ZERO.out _ (HF2.out.below hba)
        have s0 := setCell_self y0
        have s1 := setCell_self y1
        have s2 := setCell_self y2
        have s3 := setCell_self y3
        have s4 := setCell_self y4
        have s5 := setCell_self y5
        have k0 := hFC.c0
        clear hba HRR hfe h0 hFC
        go_wp2
        go_region
        all_goals go_wp2
        all_goals exact bodyPost_ret (v := .tuple #[.agg #[.string ⟨#[]⟩, .string ⟨#[]⟩, .int .i64 0, .int .i64 0, .int .i64 0, .int .i64 0], .int .i64 E]) (by simp [results, Tryz.results24, go_sem, y0, y1, y2, y3, y4, y5]) rfl ⟨rfl, hBA.drew⟩
end Go.Proofs.YtpkoefpdpoikkaaGreatDoor
