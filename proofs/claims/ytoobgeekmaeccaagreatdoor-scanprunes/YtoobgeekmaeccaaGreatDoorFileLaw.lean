/-
  The contract of the document's own OfText.
  Lists of files in memory: six cells an element; laid flat; of the call's own.
  The contracts of the statements' own LongFile, and what '==' and '!=' give on what is known of a file.
-/
import Derived.Test.YtoobgeekmaeccaaGreatDoorFileText
import Derived.Test.YtoobgeekmaeccaaGreatDoorFileKnow
import Derived.Test.YtoobgeekmaeccaaGreatDoorRefReadData
import Derived.Test.YtoobgeekmaeccaaGreatDoorFileNum
import Derived.Test.YtoobgeekmaeccaaGreatDoorRowRead
namespace Go.Proofs.YtoobgeekmaeccaaGreatDoor
open Go.RowKit Go.Extern.Stop Go.Stop Go.Extern Go.Sort Go.Shelf Go.Lib

set_option maxRecDepth 100000 in
set_option maxHeartbeats 8000000 in
theorem ofText_any (p q s : ByteArray) (seq : Int) (w : World) (h1 : p.size ≤ 100000) (h2 : q.size ≤ 100000) (hs : s.size ≤ maxLen) :
    Calls Tryz.prog 35 #[.string p, .string q, .string s, .int .i64 seq] w fun e w' => e = .returned (.tuple #[flV (ofF p q s.data.toList seq).1, .int .i64 (ofF p q s.data.toList seq).2]) ∧ Below w.heap.size w w' := by
  have hal : Below w.heap.size w (w.alloc (.cells #[.string ⟨#[]⟩, .string ⟨#[]⟩, .int .i64 0, .int .i64 0, .int .i64 0, .int .i64 0] 63)) := (Below.refl _ _).alloc (Nat.le_refl _) _
  have hfz : FlAt (w.alloc (.cells #[.string ⟨#[]⟩, .string ⟨#[]⟩, .int .i64 0, .int .i64 0, .int .i64 0, .int .i64 0] 63)) w.heap.size zeroF := FlAt.new w zeroF
  have hnm := pathOf_any p (w.alloc (.cells #[.string ⟨#[]⟩, .string ⟨#[]⟩, .int .i64 0, .int .i64 0, .int .i64 0, .int .i64 0] 63)) h1
  generalize hR : ofF p q s.data.toList seq = R
  have HR : Hid (ofF p q s.data.toList seq = R) := hR
  clear hR
  have ZERO : Hid (∀ W, FlAt W w.heap.size zeroF → (W.cell? ⟨w.heap.size, 0, none⟩ = some (.string ⟨#[]⟩) ∧ W.cell? ⟨w.heap.size, 1, none⟩ = some (.string ⟨#[]⟩) ∧ W.cell? ⟨w.heap.size, 2, none⟩ = some (.int .i64 0) ∧ W.cell? ⟨w.heap.size, 3, none⟩ = some (.int .i64 0) ∧ W.cell? ⟨w.heap.size, 4, none⟩ = some (.int .i64 0) ∧ W.cell? ⟨w.heap.size, 5, none⟩ = some (.int .i64 0) ∧ ∀ o, W.frozen? ⟨w.heap.size, o, none⟩ = false)) := fun W hW => hW.cells
  have hfe := fun (L : Nat) (lo hi : Int) W => fileError_any (p, q, (L : Int), lo, hi, seq) W h1 h2
  unfold flV at hfe
  dsimp only at hfe
  go_enter Tryz.func35, Tryz.ntmps35
  go_wp2_with fail
  generalize w.alloc (.cells #[.string ⟨#[]⟩, .string ⟨#[]⟩, .int .i64 0, .int .i64 0, .int .i64 0, .int .i64 0] 63) = WA at hal hfz hnm ⊢
  refine hnm.mono ?_
  rintro e w1 ⟨rfl, hw1⟩
  rw [hw1]
  clear hnm hw1
  have HF1 : Hid (FlAt WA w.heap.size zeroF) := hfz
  clear hfz
  cases hp : pathO p.data.toList with
  | none =>
    have hRR := HR.out
    rw [ofF_none hp] at hRR
    subst hRR
    rw [pathR_none hp]
    obtain ⟨y0, y1, y2, y3, y4, y5, yf⟩ := ZERO.out WA HF1.out
    have s0 := setCell_self y0
    have s1 := setCell_self y1
    have s2 := setCell_self y2
    have s3 := setCell_self y3
    have s4 := setCell_self y4
    have s5 := setCell_self y5
    clear hp hfe
    go_wp2
    exact bodyPost_ret (v := .tuple #[.agg #[.string ⟨#[]⟩, .string ⟨#[]⟩, .int .i64 0, .int .i64 0, .int .i64 0, .int .i64 0], .int .i64 5]) (by simp [results, Tryz.results35, go_sem, y0, y1, y2, y3, y4, y5]) rfl ⟨rfl, hal⟩
  | some gn =>
    obtain ⟨g, k⟩ := gn
    have hRR := HR.out
    rw [ofF_some hp] at hRR
    rw [pathR_some hp]
    have hkl := keysF_len g s.data.toList
    have hkd : (bytesOf (kindL g)).data.toList = kindL g := bytes_data _
    clear hp HR
    cases g
    · have d1 := eqB_of (s := bytesOf (kindL false)) (l := [100, 97, 116, 97]) (by rw [hkd]; rfl)
      have hrd := readData_any s WA hs
      have eK : keysF false s.data.toList = (keysR (dataO s.data.toList).1, (dataO s.data.toList).2.1) := rfl
      rw [eK] at hRR hkl
      generalize bytesOf (kindL false) = kB at d1 ⊢
      generalize dataO s.data.toList = Dt at hrd hRR hkl
      obtain ⟨xs, E, pl⟩ := Dt
      dsimp only at hRR hkl
      have HRR : Hid ((if E = 0 then chkF (p, q, (keysR xs).length, (endsZ (keysR xs)).1, (endsZ (keysR xs)).2, seq) else (zeroF, E)) = R) := hRR
      clear hkd eK hRR
      go_wp2_with fail
      refine hrd.mono ?_
      rintro e w2 ⟨hb2, hres⟩
      clear hrd
      have hB2 : Below w.heap.size w w2 := hal.trans (hb2.mono hal.size)
      have HF2 : Hid (FlAt w2 w.heap.size zeroF) := HF1.out.below hb2
      dsimp only at hres
      clear hb2 hal
      rcases hres with ⟨h0, v, rfl, hv⟩ | ⟨h0, j, rfl, _, _⟩
      · have HX : Hid (chkF (p, q, (keysR xs).length, (endsZ (keysR xs)).1, (endsZ (keysR xs)).2, seq) = R) := by
          show _ = _
          rw [← HRR.out, if_pos h0]
        have hba : Below w2.heap.size w2 (w2.alloc (.cells #[.int .i64 0, .int .i64 (-1)] 46)) := (Below.refl _ _).alloc (Nat.le_refl _) _
        have hBA : Below w.heap.size w (w2.alloc (.cells #[.int .i64 0, .int .i64 (-1)] 46)) := hB2.trans (hba.mono hB2.size)
        have hko := keysOf_any v xs _ (hv.below hba) (by rw [keysR_len] at hkl; omega)
        have HFA : Hid (FlAt (w2.alloc (.cells #[.int .i64 0, .int .i64 (-1)] 46)) w.heap.size zeroF) := HF2.out.below hba
        clear hv hba HRR h0
        go_wp2_with fail
        generalize w2.alloc (.cells #[.int .i64 0, .int .i64 (-1)] 46) = WB at hko hBA HFA ⊢
        refine hko.mono ?_
        rintro e w3 ⟨kv, rfl, hk3, hb3⟩
        clear hko
        have hB3 : Below w.heap.size w w3 := hBA.trans (hb3.mono hBA.size)
        have HF3 : Hid (FlAt w3 w.heap.size zeroF) := HFA.out.below hb3
        generalize keysR xs = zs at hk3 HX hkl
        clear hb3 hBA HFA
        go_wp2_with fail
        have hen := ends_any kv zs w3 hk3 (by unfold maxLen; omega)
        obtain ⟨q3, c3, rfl⟩ := hk3.form
        have HX2 : Hid (R = if fileE (p, q, (zs.length : Int), (endsZ zs).1, (endsZ zs).2, seq) = 0 then ((p, q, (zs.length : Int), (endsZ zs).1, (endsZ zs).2, seq), 0) else (zeroF, fileE (p, q, (zs.length : Int), (endsZ zs).1, (endsZ zs).2, seq))) := HX.out.symm
        clear HX hk3
        generalize (endsZ zs).1 = lo at hen HX2
        generalize (endsZ zs).2 = hi at hen HX2
        generalize zs.length = L at hen HX2 hkl ⊢
        have hbf : Below w3.heap.size w3 (w3.alloc (.cells #[.string p, .string q, .int .i64 L, .int .i64 lo, .int .i64 hi, .int .i64 seq] 63)) := (Below.refl _ _).alloc (Nat.le_refl _) _
        have hfB := FlAt.new w3 (p, q, (L : Int), lo, hi, seq)
        dsimp only at hfB
        have hzF := HF3.out.below hbf
        have hBF : Below w.heap.size w (w3.alloc (.cells #[.string p, .string q, .int .i64 L, .int .i64 lo, .int .i64 hi, .int .i64 seq] 63)) := hB3.trans (hbf.mono hB3.size)
        have hf4 := hfe L lo hi (w3.alloc (.cells #[.string p, .string q, .int .i64 L, .int .i64 lo, .int .i64 hi, .int .i64 seq] 63))
        refine hen.mono ?_
        rintro e w4 ⟨rfl, hw4⟩
        rw [hw4]
        clear hw4 hen hfe hbf
        go_wp2_with fail
        generalize w3.alloc (.cells #[.string p, .string q, .int .i64 L, .int .i64 lo, .int .i64 hi, .int .i64 seq] 63) = WF at hf4 hBF hzF hfB ⊢
        generalize w3.heap.size = BF at hfB ⊢
        refine hf4.mono ?_
        rintro e w5 ⟨rfl, hb5⟩
        clear hf4
        have hB5 : Below w.heap.size w w5 := hBF.trans (hb5.mono hBF.size)
        have hz5 := hzF.below hb5
        have HZ5 : Hid (FlAt w5 w.heap.size zeroF) := hz5
        obtain ⟨x0, x1, x2, x3, x4, x5, _⟩ := (hfB.below hb5).cells
        dsimp only at x0 x1 x2 x3 x4 x5
        clear hfB hzF hb5 hz5
        have hX3 := HX2.out
        clear HX2
        generalize hfE : fileE (p, q, (L : Int), lo, hi, seq) = Ef at hX3 ⊢
        clear hfE
        obtain ⟨y0, y1, y2, y3, y4, y5, yf⟩ := ZERO.out w5 HZ5.out
        by_cases he : Ef = 0
        · rw [if_pos he] at hX3
          subst hX3
          subst he
          obtain ⟨z0, z1, z2, z3, z4, z5, _⟩ := (HZ5.out.set (p, q, (L : Int), lo, hi, seq)).cells
          have hB6 := flSet_below (f := (p, q, (L : Int), lo, hi, seq)) hB5 (Nat.le_refl w.heap.size)
          unfold flSet at z0 z1 z2 z3 z4 z5 hB6
          dsimp only at z0 z1 z2 z3 z4 z5 hB6
          go_wp2
          exact bodyPost_ret (v := .tuple #[.agg #[.string p, .string q, .int .i64 L, .int .i64 lo, .int .i64 hi, .int .i64 seq], .int .i64 0]) (by simp [results, Tryz.results35, go_sem, z0, z1, z2, z3, z4, z5]) rfl ⟨rfl, hB6⟩
        · rw [if_neg he] at hX3
          subst hX3
          have hEp : (0 : Int) < (Ef : Int) := by omega
          have s0 := setCell_self y0
          have s1 := setCell_self y1
          have s2 := setCell_self y2
          have s3 := setCell_self y3
          have s4 := setCell_self y4
          have s5 := setCell_self y5
          clear he x0 x1 x2 x3 x4 x5
          go_wp2
          exact bodyPost_ret (v := .tuple #[.agg #[.string ⟨#[]⟩, .string ⟨#[]⟩, .int .i64 0, .int .i64 0, .int .i64 0, .int .i64 0], .int .i64 Ef]) (by simp [results, Tryz.results35, go_sem, y0, y1, y2, y3, y4, y5]) rfl ⟨rfl, hB5⟩
      · have hX : R = (zeroF, E) := by
          rw [← HRR.out, if_neg h0]
        subst hX
        have hEp : (0 : Int) < (E : Int) := by omega
        have hba : Below w2.heap.size w2 (w2.alloc (.cells #[.int .i64 E, .int .i64 j] 46)) := (Below.refl _ _).alloc (Nat.le_refl _) _
        have hBA : Below w.heap.size w (w2.alloc (.cells #[.int .i64 E, .int .i64 j] 46)) := hB2.trans (hba.mono hB2.size)
        have hFC : FC (w2.alloc (.cells #[.int .i64 E, .int .i64 j] 46)) w2.heap.size E j := heap_alloc_new _ _
        obtain ⟨y0, y1, y2, y3, y4, y5, yf⟩ := ZERO.out _ (HF2.out.below hba)
        have s0 := setCell_self y0
        have s1 := setCell_self y1
        have s2 := setCell_self y2
        have s3 := setCell_self y3
        have s4 := setCell_self y4
        have s5 := setCell_self y5
        have k0 := hFC.c0
        clear hba HRR hfe h0 hFC
        go_wp2
        go_region
        all_goals go_wp2
        all_goals exact bodyPost_ret (v := .tuple #[.agg #[.string ⟨#[]⟩, .string ⟨#[]⟩, .int .i64 0, .int .i64 0, .int .i64 0, .int .i64 0], .int .i64 E]) (by simp [results, Tryz.results35, go_sem, y0, y1, y2, y3, y4, y5]) rfl ⟨rfl, hBA.drew⟩
    · have d1 := neB_of (s := bytesOf (kindL true)) (l := [100, 97, 116, 97]) (by rw [hkd]; decide)
      have hrd := readGone_any s WA hs
      have eK : keysF true s.data.toList = ((goneO s.data.toList).1, (goneO s.data.toList).2.1) := rfl
      rw [eK] at hRR hkl
      generalize bytesOf (kindL true) = kB at d1 ⊢
      generalize goneO s.data.toList = Dt at hrd hRR hkl
      obtain ⟨zs, E, pl⟩ := Dt
      dsimp only at hRR hkl
      have HRR : Hid ((if E = 0 then chkF (p, q, zs.length, (endsZ zs).1, (endsZ zs).2, seq) else (zeroF, E)) = R) := hRR
      clear hkd eK hRR
      go_wp2_with fail
      refine hrd.mono ?_
      rintro e w2 ⟨hb2, hres⟩
      clear hrd
      have hB2 : Below w.heap.size w w2 := hal.trans (hb2.mono hal.size)
      have HF2 : Hid (FlAt w2 w.heap.size zeroF) := HF1.out.below hb2
      dsimp only at hres
      clear hb2 hal
      rcases hres with ⟨h0, kv, rfl, hv, _⟩ | ⟨h0, j, rfl, _, _⟩
      · have HX : Hid (chkF (p, q, zs.length, (endsZ zs).1, (endsZ zs).2, seq) = R) := by
          show _ = _
          rw [← HRR.out, if_pos h0]
        have hba : Below w2.heap.size w2 (w2.alloc (.cells #[.int .i64 0, .int .i64 (-1)] 46)) := (Below.refl _ _).alloc (Nat.le_refl _) _
        have hB3 : Below w.heap.size w (w2.alloc (.cells #[.int .i64 0, .int .i64 (-1)] 46)) := hB2.trans (hba.mono hB2.size)
        have hk3 := hv.below hba
        have HF3 : Hid (FlAt (w2.alloc (.cells #[.int .i64 0, .int .i64 (-1)] 46)) w.heap.size zeroF) := HF2.out.below hba
        clear hv hba HRR h0
        go_wp2_with fail
        generalize w2.alloc (.cells #[.int .i64 0, .int .i64 (-1)] 46) = w3 at hk3 hB3 HF3 ⊢
        have hen := ends_any kv zs w3 hk3 (by unfold maxLen; omega)
        obtain ⟨q3, c3, rfl⟩ := hk3.form
        have HX2 : Hid (R = if fileE (p, q, (zs.length : Int), (endsZ zs).1, (endsZ zs).2, seq) = 0 then ((p, q, (zs.length : Int), (endsZ zs).1, (endsZ zs).2, seq), 0) else (zeroF, fileE (p, q, (zs.length : Int), (endsZ zs).1, (endsZ zs).2, seq))) := HX.out.symm
        clear HX hk3
        generalize (endsZ zs).1 = lo at hen HX2
        generalize (endsZ zs).2 = hi at hen HX2
        generalize zs.length = L at hen HX2 hkl ⊢
        have hbf : Below w3.heap.size w3 (w3.alloc (.cells #[.string p, .string q, .int .i64 L, .int .i64 lo, .int .i64 hi, .int .i64 seq] 63)) := (Below.refl _ _).alloc (Nat.le_refl _) _
        have hfB := FlAt.new w3 (p, q, (L : Int), lo, hi, seq)
        dsimp only at hfB
        have hzF := HF3.out.below hbf
        have hBF : Below w.heap.size w (w3.alloc (.cells #[.string p, .string q, .int .i64 L, .int .i64 lo, .int .i64 hi, .int .i64 seq] 63)) := hB3.trans (hbf.mono hB3.size)
        have hf4 := hfe L lo hi (w3.alloc (.cells #[.string p, .string q, .int .i64 L, .int .i64 lo, .int .i64 hi, .int .i64 seq] 63))
        refine hen.mono ?_
        rintro e w4 ⟨rfl, hw4⟩
        rw [hw4]
        clear hw4 hen hfe hbf
        go_wp2_with fail
        generalize w3.alloc (.cells #[.string p, .string q, .int .i64 L, .int .i64 lo, .int .i64 hi, .int .i64 seq] 63) = WF at hf4 hBF hzF hfB ⊢
        generalize w3.heap.size = BF at hfB ⊢
        refine hf4.mono ?_
        rintro e w5 ⟨rfl, hb5⟩
        clear hf4
        have hB5 : Below w.heap.size w w5 := hBF.trans (hb5.mono hBF.size)
        have hz5 := hzF.below hb5
        have HZ5 : Hid (FlAt w5 w.heap.size zeroF) := hz5
        obtain ⟨x0, x1, x2, x3, x4, x5, _⟩ := (hfB.below hb5).cells
        dsimp only at x0 x1 x2 x3 x4 x5
        clear hfB hzF hb5 hz5
        have hX3 := HX2.out
        clear HX2
        generalize hfE : fileE (p, q, (L : Int), lo, hi, seq) = Ef at hX3 ⊢
        clear hfE
        obtain ⟨y0, y1, y2, y3, y4, y5, yf⟩ := ZERO.out w5 HZ5.out
        by_cases he : Ef = 0
        · rw [if_pos he] at hX3
          subst hX3
          subst he
          obtain ⟨z0, z1, z2, z3, z4, z5, _⟩ := (HZ5.out.set (p, q, (L : Int), lo, hi, seq)).cells
          have hB6 := flSet_below (f := (p, q, (L : Int), lo, hi, seq)) hB5 (Nat.le_refl w.heap.size)
          unfold flSet at z0 z1 z2 z3 z4 z5 hB6
          dsimp only at z0 z1 z2 z3 z4 z5 hB6
          go_wp2
          exact bodyPost_ret (v := .tuple #[.agg #[.string p, .string q, .int .i64 L, .int .i64 lo, .int .i64 hi, .int .i64 seq], .int .i64 0]) (by simp [results, Tryz.results35, go_sem, z0, z1, z2, z3, z4, z5]) rfl ⟨rfl, hB6⟩
        · rw [if_neg he] at hX3
          subst hX3
          have hEp : (0 : Int) < (Ef : Int) := by omega
          have s0 := setCell_self y0
          have s1 := setCell_self y1
          have s2 := setCell_self y2
          have s3 := setCell_self y3
          have s4 := setCell_self y4
          have s5 := setCell_self y5
          clear he x0 x1 x2 x3 x4 x5
          go_wp2
          exact bodyPost_ret (v := .tuple #[.agg #[.string ⟨#[]⟩, .string ⟨#[]⟩, .int .i64 0, .int .i64 0, .int .i64 0, .int .i64 0], .int .i64 Ef]) (by simp [results, Tryz.results35, go_sem, y0, y1, y2, y3, y4, y5]) rfl ⟨rfl, hB5⟩
      · have hX : R = (zeroF, E) := by
          rw [← HRR.out, if_neg h0]
        subst hX
        have hEp : (0 : Int) < (E : Int) := by omega
        have hba : Below w2.heap.size w2 (w2.alloc (.cells #[.int .i64 E, .int .i64 j] 46)) := (Below.refl _ _).alloc (Nat.le_refl _) _
        have hBA : Below w.heap.size w (w2.alloc (.cells #[.int .i64 E, .int .i64 j] 46)) := hB2.trans (hba.mono hB2.size)
        have hFC : FC (w2.alloc (.cells #[.int .i64 E, .int .i64 j] 46)) w2.heap.size E j := heap_alloc_new _ _
        obtain ⟨y0, y1, y2, y3, y4, y5, yf⟩ := ZERO.out _ (HF2.out.below hba)
        have s0 := setCell_self y0
        have s1 := setCell_self y1
        have s2 := setCell_self y2
        have s3 := setCell_self y3
        have s4 := setCell_self y4
        have s5 := setCell_self y5
        have k0 := hFC.c0
        clear hba HRR hfe h0 hFC
        go_wp2
        go_region
        all_goals go_wp2
        all_goals exact bodyPost_ret (v := .tuple #[.agg #[.string ⟨#[]⟩, .string ⟨#[]⟩, .int .i64 0, .int .i64 0, .int .i64 0, .int .i64 0], .int .i64 E]) (by simp [results, Tryz.results35, go_sem, y0, y1, y2, y3, y4, y5]) rfl ⟨rfl, hBA.drew⟩
end Go.Proofs.YtoobgeekmaeccaaGreatDoor
namespace Go.Proofs.YtoobgeekmaeccaaGreatDoor
open Go.RowKit Go.Extern.Stop Go.Stop Go.Extern Go.Sort Go.Shelf Go.Lib

def encF (f : Fl) : List Value := [.string f.1, .string f.2.1, .int .i64 f.2.2.1, .int .i64 f.2.2.2.1, .int .i64 f.2.2.2.2.1, .int .i64 f.2.2.2.2.2]

def FlCells (w : World) (b o : Nat) (fs : List Fl) : Prop :=
  ∀ j (h : j < fs.length), w.cell? ⟨b, o + j * 6, none⟩ = some (.string fs[j].1) ∧ w.cell? ⟨b, o + j * 6 + 1, none⟩ = some (.string fs[j].2.1) ∧ w.cell? ⟨b, o + j * 6 + 2, none⟩ = some (.int .i64 fs[j].2.2.1) ∧ w.cell? ⟨b, o + j * 6 + 3, none⟩ = some (.int .i64 fs[j].2.2.2.1) ∧ w.cell? ⟨b, o + j * 6 + 4, none⟩ = some (.int .i64 fs[j].2.2.2.2.1) ∧ w.cell? ⟨b, o + j * 6 + 5, none⟩ = some (.int .i64 fs[j].2.2.2.2.2)

def FlsAt (w : World) (v : Value) (fs : List Fl) : Prop :=
  (∃ p c, v = .slice p 0 c ∧ (p = none → c = 0) ∧ fs = []) ∨ ∃ b o cap, v = .slice (some ⟨b, o, none⟩) fs.length cap ∧ fs.length ≤ cap ∧ FlCells w b o fs

theorem FlCells.below {w w' : World} {b o : Nat} {fs : List Fl} (h : FlCells w b o fs) (hb : Below w.heap.size w w') : FlCells w' b o fs :=
  fun j hj => ⟨below_keep hb (h j hj).1, below_keep hb (h j hj).2.1, below_keep hb (h j hj).2.2.1, below_keep hb (h j hj).2.2.2.1, below_keep hb (h j hj).2.2.2.2.1, below_keep hb (h j hj).2.2.2.2.2⟩

theorem FlsAt.below {w w' : World} {v : Value} {fs : List Fl} (h : FlsAt w v fs) (hb : Below w.heap.size w w') : FlsAt w' v fs := by
  rcases h with h | ⟨b, o, cap, hv, hl, hc⟩
  · exact Or.inl h
  · exact Or.inr ⟨b, o, cap, hv, hl, hc.below hb⟩

theorem FlsAt.form {w : World} {v : Value} {fs : List Fl} (h : FlsAt w v fs) : ∃ p c, v = .slice p fs.length c := by
  rcases h with ⟨p, c, rfl, _, rfl⟩ | ⟨b, o, cap, rfl, _⟩
  · exact ⟨_, _, rfl⟩
  · exact ⟨_, _, rfl⟩

theorem FlsAt.cells {w : World} {q : Option Addr} {n c : Nat} {fs : List Fl} (h : FlsAt w (.slice q n c) fs) (hne : fs ≠ []) : ∃ b o, q = some ⟨b, o, none⟩ ∧ FlCells w b o fs := by
  rcases h with ⟨_, _, _, _, e⟩ | ⟨b, o, cap, e, _, hc⟩
  · exact absurd e hne
  · simp only [Value.slice.injEq] at e
    exact ⟨b, o, e.1, hc⟩

theorem FlsAt.room {w : World} {q : Option Addr} {n c : Nat} {fs : List Fl} (h : FlsAt w (.slice q n c) fs) : n = fs.length ∧ (fs ≠ [] → n ≤ c) := by
  rcases h with ⟨p, c', e, _, rfl⟩ | ⟨b, o, cap, e, hl, hc⟩
  · simp only [Value.slice.injEq] at e
    exact ⟨e.2.1, fun h => absurd rfl h⟩
  · simp only [Value.slice.injEq] at e
    obtain ⟨_, rfl, rfl⟩ := e
    exact ⟨rfl, fun _ => hl⟩

def flatF (fs : List Fl) : List Value := fs.flatMap encF

theorem encF_len (f : Fl) : (encF f).length = 6 := rfl
theorem encF_one (f : Fl) : ∀ u ∈ encF f, u.oneCell' = true := by
  intro u hu
  simp only [encF, List.mem_cons, List.not_mem_nil, or_false] at hu
  rcases hu with rfl | rfl | rfl | rfl | rfl | rfl <;> rfl

theorem flatF_len : ∀ fs : List Fl, (flatF fs).length = fs.length * 6
  | [] => rfl
  | f :: fs => by
    have := flatF_len fs
    simp only [flatF, List.flatMap_cons, List.length_append, List.length_cons] at *
    rw [this, encF_len]; omega

theorem flatF_one (fs : List Fl) : ∀ u ∈ flatF fs, u.oneCell' = true := by
  intro u hu
  simp only [flatF, List.mem_flatMap] at hu
  obtain ⟨f, _, hf⟩ := hu
  exact encF_one f u hf

theorem flatF_append (xs ys : List Fl) : flatF (xs ++ ys) = flatF xs ++ flatF ys := by simp [flatF]

theorem flatF_get : ∀ (fs : List Fl) (j c : Nat) (h : j < fs.length), c < 6 → (flatF fs)[j * 6 + c]? = (encF fs[j])[c]?
  | [], j, _, h, _ => by simp at h
  | f :: fs, 0, c, _, hc => by
    simp only [flatF, List.flatMap_cons, Nat.zero_mul, Nat.zero_add, List.getElem_cons_zero]
    rw [List.getElem?_append_left (by rw [encF_len]; exact hc)]
  | f :: fs, j + 1, c, h, hc => by
    have hj : j < fs.length := by simp at h; omega
    have := flatF_get fs j c hj hc
    simp only [flatF, List.flatMap_cons, List.getElem_cons_succ] at *
    rw [List.getElem?_append_right (by rw [encF_len]; omega), encF_len, show (j + 1) * 6 + c - 6 = j * 6 + c by omega]
    exact this

theorem cellsF_flat {w : World} {b o : Nat} {fs : List Fl} (h : FlCells w b o fs) : ∀ t u, (flatF fs)[t]? = some u → w.cell? ⟨b, o + t, none⟩ = some u := by
  intro t u hu
  have ht : t < (flatF fs).length := by
    rcases Nat.lt_or_ge t (flatF fs).length with h' | h'
    · exact h'
    · rw [List.getElem?_eq_none h'] at hu; cases hu
  rw [flatF_len] at ht
  have hj : t / 6 < fs.length := by omega
  have e : t = t / 6 * 6 + t % 6 := by omega
  rw [e, flatF_get fs (t / 6) (t % 6) hj (by omega)] at hu
  obtain ⟨h0, h1, h2, h3, h4, h5⟩ := h (t / 6) hj
  have hm : t % 6 = 0 ∨ t % 6 = 1 ∨ t % 6 = 2 ∨ t % 6 = 3 ∨ t % 6 = 4 ∨ t % 6 = 5 := by omega
  rcases hm with hm | hm | hm | hm | hm | hm <;> rw [hm] at hu <;> simp only [encF, List.getElem?_cons_succ, List.getElem?_cons_zero, Option.some.injEq] at hu
  · rw [← hu, ← h0]; congr 2; omega
  · rw [← hu, ← h1]; congr 2; omega
  · rw [← hu, ← h2]; congr 2; omega
  · rw [← hu, ← h3]; congr 2; omega
  · rw [← hu, ← h4]; congr 2; omega
  · rw [← hu, ← h5]; congr 2; omega

theorem flCells_of {w : World} {b o : Nat} {fs : List Fl} (h : ∀ t u, (flatF fs)[t]? = some u → w.cell? ⟨b, o + t, none⟩ = some u) : FlCells w b o fs := fun j hj => by
  have g : ∀ c (hc : c < 6), w.cell? ⟨b, o + (j * 6 + c), none⟩ = (encF fs[j])[c]? := fun c hc => by
    have e := flatF_get fs j c hj hc
    have hl : c < (encF fs[j]).length := by rw [encF_len]; exact hc
    rw [List.getElem?_eq_getElem hl] at e ⊢
    exact h _ _ e
  refine ⟨?_, ?_, ?_, ?_, ?_, ?_⟩
  · simpa [encF] using g 0 (by omega)
  · simpa [encF, Nat.add_assoc] using g 1 (by omega)
  · simpa [encF, Nat.add_assoc] using g 2 (by omega)
  · simpa [encF, Nat.add_assoc] using g 3 (by omega)
  · simpa [encF, Nat.add_assoc] using g 4 (by omega)
  · simpa [encF, Nat.add_assoc] using g 5 (by omega)

theorem flsAt_of_own {w : World} {base : Nat} {v : Value} {n : Nat} {fs : List Fl} (h : w.ownsRow base 63 6 v n (flatF fs)) : FlsAt w v fs ∧ n = fs.length := by
  obtain ⟨hl, h⟩ := h
  have hn : n = fs.length := by rw [flatF_len] at hl; omega
  refine ⟨?_, hn⟩
  subst hn
  rcases h with ⟨hv, hn⟩ | ⟨g, cap, cur, rfl, _, hg, hcp, _, _, ht⟩
  · exact Or.inl ⟨none, 0, by rw [hv], fun _ => rfl, List.length_eq_zero_iff.1 hn⟩
  · refine Or.inr ⟨g, 0, cap, rfl, hcp, flCells_of fun t u hu => ?_⟩
    have ht' : t < fs.length * 6 := by
      rw [← flatF_len]
      rcases Nat.lt_or_ge t (flatF fs).length with h' | h'
      · exact h'
      · rw [List.getElem?_eq_none h'] at hu; cases hu
    rw [← ht, List.getElem?_take, if_pos ht'] at hu
    simp only [World.cell?, hg, Nat.zero_add]
    simpa using hu

theorem Tryz.fileInfo3 : (Tryz.prog.info? 63).map (fun i => (i.zero, i.size, i.bytes)) = some (some (.agg #[.string ⟨#[]⟩, .string ⟨#[]⟩, .int .i64 0, .int .i64 0, .int .i64 0, .int .i64 0]), 6, 64) := by kernel_rfl
theorem Tryz.fileInfo : ∃ i0 : TypeInfo, Tryz.prog.info? 63 = some i0 ∧ i0.zero = some (.agg #[.string ⟨#[]⟩, .string ⟨#[]⟩, .int .i64 0, .int .i64 0, .int .i64 0, .int .i64 0]) ∧ i0.size = 6 ∧ i0.bytes = 64 := by
  obtain ⟨i, hi, h⟩ := Option.map_eq_some_iff.1 Tryz.fileInfo3
  simp only [Prod.mk.injEq] at h
  exact ⟨i, hi, h.1, h.2.1, h.2.2⟩
end Go.Proofs.YtoobgeekmaeccaaGreatDoor
namespace Go.Proofs.YtoobgeekmaeccaaGreatDoor
open Go.RowKit Go.Extern.Stop Go.Stop Go.Extern Go.Sort Go.Shelf Go.Lib

theorem neqF (f : Fl) (w : World) : (binOp .neq 63 (flV f) (flV f)).run Tryz.prog w = .ok (.bool false) w := by
  have u3 := Tryz.underlying3
  have u9 := Tryz.underlying9
  have a3 := Tryz.isAgg3
  have z3 := Tryz.sizeOf3
  have a9 := Tryz.isAgg9
  have z9 := Tryz.sizeOf9
  have hS : Tryz.prog.underlying 63 = some (.struct (Tryz.prog.fieldsOf 63)) := by kernel_rfl
  have hp : Tryz.prog.stoodInHeld 63 = false := by kernel_rfl
  obtain ⟨p, q, n, lo, hi, seq⟩ := f
  unfold flV
  dsimp only
  rw [run_neq_struct, show (10000 : Nat) = 9999 + 1 from rfl, run_equalIn_agg w 9999 63 _ _ hS hp]
  simp only [Program.fieldsOf, Tryz.underlying63]
  go_simp

theorem neqF2 (f g : Fl) (h : f ≠ g) (w : World) : (binOp .neq 63 (flV f) (flV g)).run Tryz.prog w = .ok (.bool true) w := by
  have u3 := Tryz.underlying3
  have u9 := Tryz.underlying9
  have a3 := Tryz.isAgg3
  have z3 := Tryz.sizeOf3
  have a9 := Tryz.isAgg9
  have z9 := Tryz.sizeOf9
  have hS : Tryz.prog.underlying 63 = some (.struct (Tryz.prog.fieldsOf 63)) := by kernel_rfl
  have hp : Tryz.prog.stoodInHeld 63 = false := by kernel_rfl
  obtain ⟨p, q, n, lo, hi, seq⟩ := f
  obtain ⟨p', q', n', lo', hi', seq'⟩ := g
  unfold flV
  dsimp only
  rw [run_neq_struct, show (10000 : Nat) = 9999 + 1 from rfl, run_equalIn_agg w 9999 63 _ _ hS hp]
  simp only [Program.fieldsOf, Tryz.underlying63]
  go_simp
  intro e1 e2 e3 e4 e5 e6
  refine h ?_
  rw [ByteArray.toList_eq, ByteArray.toList_eq] at e1 e2
  have ep : p = p' := by
    cases p; cases p'
    simpa using e1
  have eq : q = q' := by
    cases q; cases q'
    simpa using e2
  rw [ep, eq, e3, e4, e5, e6]

theorem guardF : GuardAt Tryz.prog 63 flV := GuardAt.agg _ (by kernel_rfl)

def longFB (f : Fl) : Bool := decide (30 < f.1.size) || decide (30 < f.2.1.size)

theorem longFile_any (f : Fl) (w : World) (h1 : f.1.size ≤ maxLen) (h2 : f.2.1.size ≤ maxLen) :
    Calls Tryz.prog 73 #[flV f] w fun e w' => e = .returned (.int .i64 (if longFB f then 1 else 0)) ∧ Below w.heap.size w w' := by
  have hal : Below w.heap.size w (w.alloc (.cells #[.string f.1, .string f.2.1, .int .i64 f.2.2.1, .int .i64 f.2.2.2.1, .int .i64 f.2.2.2.2.1, .int .i64 f.2.2.2.2.2] 63)) := (Below.refl _ _).alloc (Nat.le_refl _) _
  have hfl := FlAt.new w f
  unfold maxLen at h1 h2
  obtain ⟨p, q, n, lo, hi, seq⟩ := f
  unfold flV longFB
  dsimp only at h1 h2 hal hfl ⊢
  by_cases hp : 30 < p.size
  · have e : (decide (30 < p.size) || decide (30 < q.size)) = true := by simp [hp]
    rw [e, if_pos rfl]
    clear e
    go_enter Tryz.func73, Tryz.ntmps73
    go_wp2
    go_ret
    exact ⟨rfl, hal⟩
  · by_cases hq : 30 < q.size
    · have e : (decide (30 < p.size) || decide (30 < q.size)) = true := by simp [hq]
      rw [e, if_pos rfl]
      clear e
      go_enter Tryz.func73, Tryz.ntmps73
      go_wp2
      go_ret
      exact ⟨rfl, hal⟩
    · have e : (decide (30 < p.size) || decide (30 < q.size)) = false := by simp [hp, hq]
      rw [e, if_neg (by simp)]
      clear e
      go_enter Tryz.func73, Tryz.ntmps73
      go_wp2
      go_ret
      exact ⟨rfl, hal⟩
end Go.Proofs.YtoobgeekmaeccaaGreatDoor
