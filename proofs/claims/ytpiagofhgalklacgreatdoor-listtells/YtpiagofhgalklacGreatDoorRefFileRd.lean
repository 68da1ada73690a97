/-
  The contract of the document's own ReadFile.
-/
import Derived.Test.YtpiagofhgalklacGreatDoorRefFile
import Derived.Test.YtpiagofhgalklacGreatDoorFileRd
namespace Go.Proofs.YtpiagofhgalklacGreatDoor
open Go.RowKit Go.Extern.Stop Go.Stop Go.Extern Go.Sort Go.Shelf Go.Lib

set_option maxRecDepth 100000 in
set_option maxHeartbeats 8000000 in
theorem readFile_any (s : ByteArray) (w : World) (hs : s.size ≤ 100000) :
    Calls Tryz.prog 56 #[.string s] w fun e w' => e = .returned (.tuple #[flV (readF s.data.toList).1, .int .i64 (readF s.data.toList).2]) ∧ Below w.heap.size w w' := by
  have hal : Below w.heap.size w (w.alloc (.cells #[.string ⟨#[]⟩, .string ⟨#[]⟩, .int .i64 0, .int .i64 0, .int .i64 0, .int .i64 0] 24)) := (Below.refl _ _).alloc (Nat.le_refl _) _
  have hfz : FlAt (w.alloc (.cells #[.string ⟨#[]⟩, .string ⟨#[]⟩, .int .i64 0, .int .i64 0, .int .i64 0, .int .i64 0] 24)) w.heap.size zeroF := FlAt.new w zeroF
  have hsp := cutText_any s (w.alloc (.cells #[.string ⟨#[]⟩, .string ⟨#[]⟩, .int .i64 0, .int .i64 0, .int .i64 0, .int .i64 0] 24)) (by omega)
  generalize hR : readF s.data.toList = R
  have HR : Hid (readF s.data.toList = R) := hR
  clear hR
  have hwl := words_len s.data.toList
  have ZERO : Hid (∀ W, FlAt W w.heap.size zeroF → (W.cell? ⟨w.heap.size, 0, none⟩ = some (.string ⟨#[]⟩) ∧ W.cell? ⟨w.heap.size, 1, none⟩ = some (.string ⟨#[]⟩) ∧ W.cell? ⟨w.heap.size, 2, none⟩ = some (.int .i64 0) ∧ W.cell? ⟨w.heap.size, 3, none⟩ = some (.int .i64 0) ∧ W.cell? ⟨w.heap.size, 4, none⟩ = some (.int .i64 0) ∧ W.cell? ⟨w.heap.size, 5, none⟩ = some (.int .i64 0) ∧ ∀ o, W.frozen? ⟨w.heap.size, o, none⟩ = false)) := fun W hW => hW.cells
  go_enter Tryz.func56, Tryz.ntmps56
  go_wp2_with fail
  generalize w.alloc (.cells #[.string ⟨#[]⟩, .string ⟨#[]⟩, .int .i64 0, .int .i64 0, .int .i64 0, .int .i64 0] 24) = WA at hal hfz hsp ⊢
  refine hsp.mono ?_
  rintro e w1 ⟨v1, ts, rfl, hts, htm, hb1⟩
  clear hsp
  have hB1 : Below w.heap.size w w1 := hal.trans (hb1.mono hal.size)
  have HF1 : Hid (FlAt w1 w.heap.size zeroF) := hfz.below hb1
  clear hfz hb1 hal
  obtain ⟨b, cap, rfl, hcap, hcell⟩ := hts
  by_cases h6 : ts.length = 6
  · obtain ⟨P, Q, A, B, C, D, rfl⟩ := six_of h6
    have hw : words s.data.toList = [P.data.toList, Q.data.toList, A.data.toList, B.data.toList, C.data.toList, D.data.toList] := by rw [← htm]; rfl
    have hrs := HR.out
    rw [readF_six hw, bytesOf_data, bytesOf_data] at hrs
    have hwz : ∀ t ∈ [P, Q, A, B, C, D], t.size ≤ 100000 := fun t ht => by
      have := hwl t.data.toList (by rw [← htm]; exact List.mem_map.2 ⟨t, ht, rfl⟩)
      rw [size_list, size_list] at this
      omega
    have hP := hwz P (by simp)
    have hQ := hwz Q (by simp)
    have c0 := hcell 0 (by simp)
    have c1 := hcell 1 (by simp)
    simp only [List.getElem_cons_succ, List.getElem_cons_zero] at c0 c1
    have hnm := numbersOf_list b 2 (cap - 2) [A, B, C, D] w1 (fun j hj => by
      have hj' : j + 2 < [P, Q, A, B, C, D].length := by simp at hj ⊢; omega
      have := hcell (j + 2) hj'
      rw [Nat.add_comm 2 j]
      simpa using this) (fun t ht => by
        have := hwz t (List.mem_cons_of_mem _ (List.mem_cons_of_mem _ ht))
        unfold maxLen; omega) (by simp)
    have HRS : Hid ((match numO A.data.toList, numO B.data.toList, numO C.data.toList, numO D.data.toList with
      | some n, some lo, some hi, some seq => chkF (P, Q, n, lo, hi, seq)
      | _, _, _, _ => (zeroF, 1)) = R) := hrs
    clear hw htm hwl hcell h6 hwz hrs
    simp only [List.length_cons, List.length_nil, Nat.zero_add, Nat.reduceAdd] at hnm hcap ⊢
    go_wp2_with fail
    refine hnm.mono ?_
    rintro e w3 ⟨hres, hb3⟩
    clear hnm
    have hB3 : Below w.heap.size w w3 := hB1.trans (hb3.mono hB1.size)
    have HF3 : Hid (FlAt w3 w.heap.size zeroF) := HF1.out.below hb3
    rcases hres with ⟨zs, kv, hzl, hzn, rfl, hka⟩ | ⟨j, t, ht, hno, rfl⟩
    · obtain ⟨n, lo, hi, seq, hz4⟩ : ∃ z0 z1 z2 z3, zs = [z0, z1, z2, z3] := by
        match zs, hzl with
        | [z0, z1, z2, z3], _ => exact ⟨z0, z1, z2, z3, rfl⟩
      subst hz4
      have HX : Hid (chkF (P, Q, n, lo, hi, seq) = R) := by
        show _ = _
        rw [← HRS.out]
        have q0 := hzn 0 A rfl
        have q1 := hzn 1 B rfl
        have q2 := hzn 2 C rfl
        have q3 := hzn 3 D rfl
        rw [q0, q1, q2, q3]
        rfl
      obtain ⟨g, o, kc, rfl, hzc⟩ : ∃ g o kc, kv = .slice (some ⟨g, o, none⟩) 4 kc ∧ ∀ j (h : j < [n, lo, hi, seq].length), w3.cell? ⟨g, o + j, none⟩ = some (.int .i64 [n, lo, hi, seq][j]) := by
        rcases hka with ⟨_, _, _, e⟩ | hka
        · cases e
        · exact hka
      have d0 := below_keep hb3 c0
      have d1 := below_keep hb3 c1
      have k0 := hzc 0 (by simp)
      have k1 := hzc 1 (by simp)
      have k2 := hzc 2 (by simp)
      have k3 := hzc 3 (by simp)
      simp only [List.getElem_cons_succ, List.getElem_cons_zero, Nat.add_zero] at k0 k1 k2 k3
      have hck := fun W => fileError_any (P, Q, n, lo, hi, seq) W hP hQ
      have hbd : Below w3.heap.size w3 w3.drew := (Below.refl _ _).drew
      have hbz : Below w3.heap.size w3 ((w3.alloc (.cells #[.string ⟨#[]⟩, .string ⟨#[]⟩, .int .i64 0, .int .i64 0, .int .i64 0, .int .i64 0] 24)).drew) := ((Below.refl _ _).alloc (Nat.le_refl _) _).drew
      have hbf : Below w3.heap.size w3 ((w3.alloc (.cells #[.string P, .string Q, .int .i64 n, .int .i64 lo, .int .i64 hi, .int .i64 seq] 24)).drew) := ((Below.refl _ _).alloc (Nat.le_refl _) _).drew
      have hEE : R = if fileE (P, Q, n, lo, hi, seq) = 0 then ((P, Q, n, lo, hi, seq), 0) else (zeroF, fileE (P, Q, n, lo, hi, seq)) := HX.out.symm
      have HEE : Hid (R = if fileE (P, Q, n, lo, hi, seq) = 0 then ((P, Q, n, lo, hi, seq), 0) else (zeroF, fileE (P, Q, n, lo, hi, seq))) := hEE
      clear hzn hzc hzl c0 c1 hb3 HRS hEE HX
      unfold flV at hck
      dsimp only at hck
      go_wp2_with fail
      go_region_held3 (fun w' => w'.cell? ⟨b, 0, none⟩ = some (.string P) ∧ w'.cell? ⟨b, 1, none⟩ = some (.string Q) ∧ w'.cell? ⟨g, o, none⟩ = some (.int .i64 n) ∧ w'.cell? ⟨g, o + 1, none⟩ = some (.int .i64 lo) ∧ w'.cell? ⟨g, o + 2, none⟩ = some (.int .i64 hi) ∧ w'.cell? ⟨g, o + 3, none⟩ = some (.int .i64 seq) ∧ Below w3.heap.size w3 w')
        (first
          | with_reducible exact ⟨below_keep hbd d0, below_keep hbd d1, below_keep hbd k0, below_keep hbd k1, below_keep hbd k2, below_keep hbd k3, hbd⟩
          | with_reducible exact ⟨below_keep hbz d0, below_keep hbz d1, below_keep hbz k0, below_keep hbz k1, below_keep hbz k2, below_keep hbz k3, hbz⟩
          | with_reducible exact ⟨below_keep hbf d0, below_keep hbf d1, below_keep hbf k0, below_keep hbf k1, below_keep hbf k2, below_keep hbf k3, hbf⟩)
        (fail)
      go_split_ands
      have hfB : FlAt ((w3.alloc (.cells #[.string P, .string Q, .int .i64 n, .int .i64 lo, .int .i64 hi, .int .i64 seq] 24)).drew) w3.heap.size (P, Q, n, lo, hi, seq) := (FlAt.new w3 (P, Q, n, lo, hi, seq)).below (Below.refl _ _).drew
      have hzF := HF3.out.below hbf
      have hBF : Below w.heap.size w ((w3.alloc (.cells #[.string P, .string Q, .int .i64 n, .int .i64 lo, .int .i64 hi, .int .i64 seq] 24)).drew) := hB3.trans (hbf.mono hB3.size)
      have hf4 := hck ((w3.alloc (.cells #[.string P, .string Q, .int .i64 n, .int .i64 lo, .int .i64 hi, .int .i64 seq] 24)).drew)
      clear hck hbd hbz hbf d0 d1 k0 k1 k2 k3
      go_wp2_with fail
      generalize (w3.alloc (.cells #[.string P, .string Q, .int .i64 n, .int .i64 lo, .int .i64 hi, .int .i64 seq] 24)).drew = WF at *
      generalize w3.heap.size = BF at *
      refine hf4.mono ?_
      rintro e w5 ⟨rfl, hb5⟩
      clear hf4
      have hB5 : Below w.heap.size w w5 := hBF.trans (hb5.mono hBF.size)
      have hz5 := hzF.below hb5
      have HZ5 : Hid (FlAt w5 w.heap.size zeroF) := hz5
      obtain ⟨x0, x1, x2, x3, x4, x5, _⟩ := (hfB.below hb5).cells
      dsimp only at x0 x1 x2 x3 x4 x5
      clear hfB hzF hb5 hz5
      have hX3 := HEE.out
      clear HEE
      generalize hfE : fileE (P, Q, n, lo, hi, seq) = Ef at hX3 ⊢
      clear hfE
      obtain ⟨y0, y1, y2, y3, y4, y5, yf⟩ := ZERO.out w5 HZ5.out
      by_cases he : Ef = 0
      · rw [if_pos he] at hX3
        subst hX3
        subst he
        obtain ⟨z0, z1, z2, z3, z4, z5, _⟩ := (HZ5.out.set (P, Q, n, lo, hi, seq)).cells
        have hB6 := flSet_below (f := (P, Q, n, lo, hi, seq)) hB5 (Nat.le_refl w.heap.size)
        unfold flSet at z0 z1 z2 z3 z4 z5 hB6
        dsimp only at z0 z1 z2 z3 z4 z5 hB6
        go_wp2
        exact bodyPost_ret (v := .tuple #[.agg #[.string P, .string Q, .int .i64 n, .int .i64 lo, .int .i64 hi, .int .i64 seq], .int .i64 0]) (by simp [results, Tryz.results56, go_sem, z0, z1, z2, z3, z4, z5]) rfl ⟨rfl, hB6⟩
      · rw [if_neg he] at hX3
        subst hX3
        have hEp : (0 : Int) < (Ef : Int) := by omega
        have s0 := setCell_self y0
        have s1 := setCell_self y1
        have s2 := setCell_self y2
        have s3 := setCell_self y3
        have s4 := setCell_self y4
        have s5 := setCell_self y5
        clear he x0 x1 x2 x3 x4 x5
        go_wp2
        exact bodyPost_ret (v := .tuple #[.agg #[.string ⟨#[]⟩, .string ⟨#[]⟩, .int .i64 0, .int .i64 0, .int .i64 0, .int .i64 0], .int .i64 Ef]) (by simp [results, Tryz.results56, go_sem, y0, y1, y2, y3, y4, y5]) rfl ⟨rfl, hB5⟩
    · have hbadR : R = (zeroF, 1) := by
        rw [← HRS.out]
        match j, ht with
        | 0, ht => rw [Option.some.inj ht, hno]
        | 1, ht => rw [Option.some.inj ht, hno]; split <;> simp_all
        | 2, ht => rw [Option.some.inj ht, hno]; split <;> simp_all
        | 3, ht => rw [Option.some.inj ht, hno]; split <;> simp_all
      subst hbadR
      clear HRS ht hno c0 c1
      obtain ⟨y0, y1, y2, y3, y4, y5, yf⟩ := ZERO.out w3 HF3.out
      have s0 := setCell_self y0
      have s1 := setCell_self y1
      have s2 := setCell_self y2
      have s3 := setCell_self y3
      have s4 := setCell_self y4
      have s5 := setCell_self y5
      go_wp2
      exact bodyPost_ret (v := .tuple #[.agg #[.string ⟨#[]⟩, .string ⟨#[]⟩, .int .i64 0, .int .i64 0, .int .i64 0, .int .i64 0], .int .i64 1]) (by simp [results, Tryz.results56, go_sem, y0, y1, y2, y3, y4, y5]) rfl ⟨rfl, hB3⟩
  · have hRR := HR.out.symm.trans (readF_other (l := s.data.toList) (fun e => h6 (by rw [← e, ← htm, List.length_map])))
    subst hRR
    generalize ts.length = L at h6 hcap ⊢
    have hne : ¬ (L : Int) = 6 := by omega
    clear htm hwl hcell h6 HR
    obtain ⟨y0, y1, y2, y3, y4, y5, yf⟩ := ZERO.out w1 HF1.out
    have s0 := setCell_self y0
    have s1 := setCell_self y1
    have s2 := setCell_self y2
    have s3 := setCell_self y3
    have s4 := setCell_self y4
    have s5 := setCell_self y5
    go_wp2
    exact bodyPost_ret (v := .tuple #[.agg #[.string ⟨#[]⟩, .string ⟨#[]⟩, .int .i64 0, .int .i64 0, .int .i64 0, .int .i64 0], .int .i64 1]) (by simp [results, Tryz.results56, go_sem, y0, y1, y2, y3, y4, y5]) rfl ⟨rfl, hB1⟩
end Go.Proofs.YtpiagofhgalklacGreatDoor
