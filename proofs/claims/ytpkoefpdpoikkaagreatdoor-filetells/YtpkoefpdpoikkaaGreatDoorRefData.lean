/-
  The contract of the document's own DataOf.
-/
import Derived.Test.YtpkoefpdpoikkaaGreatDoorFileRd
namespace Go.Proofs.YtpkoefpdpoikkaaGreatDoor
open Go.RowKit Go.Extern.Stop Go.Stop Go.Extern Go.Sort Go.Shelf Go.Lib

set_option maxRecDepth 100000 in
set_option maxHeartbeats 8000000 in
theorem readFile_any (s : ByteArray) (w : World) (hs : s.size ≤ 100000) :
    Calls Tryz.prog 23 #[.string s] w fun e w' => e = .returned (.tuple #[flV (readF s.data.toList).1, .int .i64 (readF s.data.toList).2]) ∧ Below w.heap.size w w' := by
  have hal : Below w.heap.size w (w.alloc (.cells #[.string ⟨#[]⟩, .string ⟨#[]⟩, .int .i64 0, .int .i64 0, .int .i64 0, .int .i64 0] 23)) := (Below.refl _ _).alloc (Nat.le_refl _) _
  have hfz : FlAt (w.alloc (.cells #[.string ⟨#[]⟩, .string ⟨#[]⟩, .int .i64 0, .int .i64 0, .int .i64 0, .int .i64 0] 23)) w.heap.size zeroF := FlAt.new w zeroF
  have hsp := cutText_any s (w.alloc (.cells #[.string ⟨#[]⟩, .string ⟨#[]⟩, .int .i64 0, .int .i64 0, .int .i64 0, .int .i64 0] 23)) (by omega)
  generalize hR : readF s.data.toList = R
  have HR : Hid (readF s.data.toList = R) := hR
  clear hR
  have hwl := words_len s.data.toList
  have ZERO : Hid (∀ W, FlAt W w.heap.size zeroF → (W.cell? ⟨w.heap.size, 0, none⟩ = some (.string ⟨#[]⟩) ∧ W.cell? ⟨w.heap.size, 1, none⟩ = some (.string ⟨#[]⟩) ∧ W.cell? ⟨w.heap.size, 2, none⟩ = some (.int .i64 0) ∧ W.cell? ⟨w.heap.size, 3, none⟩ = some (.int .i64 0) ∧ W.cell? ⟨w.heap.size, 4, none⟩ = some (.int .i64 0) ∧ W.cell? ⟨w.heap.size, 5, none⟩ = some (.int .i64 0) ∧ ∀ o, W.frozen? ⟨w.heap.size, o, none⟩ = false)) := fun W hW => hW.cells
  go_enter Tryz.func23, Tryz.ntmps23
  go_wp2_with fail
  generalize w.alloc (.cells #[.string ⟨#[]⟩, .string ⟨#[]⟩, .int .i64 0, .int .i64 0, .int .i64 0, .int .i64 0] 23) = WA at hal hfz hsp ⊢
  refine hsp.mono ?_
  rintro e w1 ⟨v1, ts, rfl, hts, htm, hb1⟩
  clear hsp
  have hB1 : Below w.heap.size w w1 := hal.trans (hb1.mono hal.size)
  have HF1 : Hid (FlAt w1 w.heap.size zeroF) := hfz.below hb1
  clear hfz hb1 hal
  obtain ⟨b, cap, rfl, hcap, hcell⟩ := hts
  by_cases h6 : ts.length = 6
  · obtain ⟨P, Q, A, B, C, D, rfl⟩ := six_of h6
    have hw : words s.data.toList = [P.data.toList, Q.data.toList, A.data.toList, B.data.toList, C.data.toList, D.data.toList] := by rw [← htm]; rfl
    have hrs := HR.out
    rw [readF_six hw, bytesOf_data, bytesOf_data] at hrs
    have hwz : ∀ t ∈ [P, Q, A, B, C, D], t.size ≤ 100000 := fun t ht => by
      have := hwl t.data.toList (by rw [← htm]; exact List.mem_map.2 ⟨t, ht, rfl⟩)
      rw [size_list, size_list] at this
      omega
    have hP := hwz P (by simp)
    have hQ := hwz Q (by simp)
    have c0 := hcell 0 (by simp)
    have c1 := hcell 1 (by simp)
    simp only [List.getElem_cons_succ, List.getElem_cons_zero] at c0 c1
    have hnm := numbersOf_list b 2 (cap - 2) [A, B, C, D] w1 (fun j hj => by
      have hj' : j + 2 < [P, Q, A, B, C, D].length := by simp at hj ⊢; omega
      have := hcell (j + 2) hj'
      rw [Nat.add_comm 2 j]
      simpa using this) (fun t ht => by
        have := hwz t (List.mem_cons_of_mem _ (List.mem_cons_of_mem _ ht))
        unfold maxLen; omega) (by simp)
    have HRS : Hid ((match numO A.data.toList, numO B.data.toList, numO C.data.toList, numO D.data.toList with
      | some n, some lo, some hi, some seq => chkF (P, Q, n, lo, hi, seq)
      | _, _, _, _ => (zeroF, 1)) = R) := hrs
    clear hw htm hwl hcell h6 hwz hrs
    simp only [List.length_cons, List.length_nil, Nat.zero_add, Nat.reduceAdd] at hnm hcap ⊢
    go_wp2_with fail
    refine hnm.mono ?_
    rintro e w3 ⟨hres, hb3⟩
    clear hnm
    have hB3 : Below w.heap.size w w3 := hB1.trans (hb3.mono hB1.size)
    have HF3 : Hid (FlAt w3 w.heap.size zeroF) := HF1.out.below hb3
    rcases hres with ⟨zs, kv, hzl, hzn, rfl, hka⟩ | ⟨j, t, ht, hno, rfl⟩
    · obtain ⟨n, lo, hi, seq, hz4⟩ : ∃ z0 z1 z2 z3, zs = [z0, z1, z2, z3] := by
        match zs, hzl with
        | [z0, z1, z2, z3], _ => exact ⟨z0, z1, z2, z3, rfl⟩
      subst hz4
      have HX : Hid (chkF (P, Q, n, lo, hi, seq) = R) := by
        show _ = _
        rw [← HRS.out]
        have q0 := hzn 0 A rfl
        have q1 := hzn 1 B rfl
        have q2 := hzn 2 C rfl
        have q3 := hzn 3 D rfl
        rw [q0, q1, q2, q3]
        rfl
      obtain ⟨g, o, kc, rfl, hzc⟩ : ∃ g o kc, kv = .slice (some ⟨g, o, none⟩) 4 kc ∧ ∀ j (h : j < [n, lo, hi, seq].length), w3.cell? ⟨g, o + j, none⟩ = some (.int .i64 [n, lo, hi, seq][j]) := by
        rcases hka with ⟨_, _, _, e⟩ | hka
        · cases e
        · exact hka
      have d0 := below_keep hb3 c0
      have d1 := below_keep hb3 c1
      have k0 := hzc 0 (by simp)
      have k1 := hzc 1 (by simp)
      have k2 := hzc 2 (by simp)
      have k3 := hzc 3 (by simp)
      simp only [List.getElem_cons_succ, List.getElem_cons_zero, Nat.add_zero] at k0 k1 k2 k3
      have hck := fun W => fileError_any (P, Q, n, lo, hi, seq) W hP hQ
      have hbd : Below w3.heap.size w3 w3.drew := (Below.refl _ _).drew
      have hbz : Below w3.heap.size w3 ((w3.alloc (.cells #[.string ⟨#[]⟩, .string ⟨#[]⟩, .int .i64 0, .int .i64 0, .int .i64 0, .int .i64 0] 23)).drew) := ((Below.refl _ _).alloc (Nat.le_refl _) _).drew
      have hbf : Below w3.heap.size w3 ((w3.alloc (.cells #[.string P, .string Q, .int .i64 n, .int .i64 lo, .int .i64 hi, .int .i64 seq] 23)).drew) := ((Below.refl _ _).alloc (Nat.le_refl _) _).drew
      have hEE : R = if fileE (P, Q, n, lo, hi, seq) = 0 then ((P, Q, n, lo, hi, seq), 0) else (zeroF, fileE (P, Q, n, lo, hi, seq)) := HX.out.symm
      have HEE : Hid (R = if fileE (P, Q, n, lo, hi, seq) = 0 then ((P, Q, n, lo, hi, seq), 0) else (zeroF, fileE (P, Q, n, lo, hi, seq))) := hEE
      clear hzn hzc hzl c0 c1 hb3 HRS hEE HX
      unfold flV at hck
      dsimp only at hck
      go_wp2_with fail
      go_region_held3 (fun w' => w'.cell? ⟨b, 0, none⟩ = some (.string P) ∧ w'.cell? ⟨b, 1, none⟩ = some (.string Q) ∧ w'.cell? ⟨g, o, none⟩ = some (.int .i64 n) ∧ w'.cell? ⟨g, o + 1, none⟩ = some (.int .i64 lo) ∧ w'.cell? ⟨g, o + 2, none⟩ = some (.int .i64 hi) ∧ w'.cell? ⟨g, o + 3, none⟩ = some (.int .i64 seq) ∧ Below w3.heap.size w3 w')
        (first
          | with_reducible exact ⟨below_keep hbd d0, below_keep hbd d1, below_keep hbd k0, below_keep hbd k1, below_keep hbd k2, below_keep hbd k3, hbd⟩
          | with_reducible exact ⟨below_keep hbz d0, below_keep hbz d1, below_keep hbz k0, below_keep hbz k1, below_keep hbz k2, below_keep hbz k3, hbz⟩
          | with_reducible exact ⟨below_keep hbf d0, below_keep hbf d1, below_keep hbf k0, below_keep hbf k1, below_keep hbf k2, below_keep hbf k3, hbf⟩)
        (fail)
      go_split_ands
      have hfB : FlAt ((w3.alloc (.cells #[.string P, .string Q, .int .i64 n, .int .i64 lo, .int .i64 hi, .int .i64 seq] 23)).drew) w3.heap.size (P, Q, n, lo, hi, seq) := (FlAt.new w3 (P, Q, n, lo, hi, seq)).below (Below.refl _ _).drew
      have hzF := HF3.out.below hbf
      have hBF : Below w.heap.size w ((w3.alloc (.cells #[.string P, .string Q, .int .i64 n, .int .i64 lo, .int .i64 hi, .int .i64 seq] 23)).drew) := hB3.trans (hbf.mono hB3.size)
      have hf4 := hck ((w3.alloc (.cells #[.string P, .string Q, .int .i64 n, .int .i64 lo, .int .i64 hi, .int .i64 seq] 23)).drew)
      clear hck hbd hbz hbf d0 d1 k0 k1 k2 k3
      go_wp2_with fail
      generalize (w3.alloc (.cells #[.string P, .string Q, .int .i64 n, .int .i64 lo, .int .i64 hi, .int .i64 seq] 23)).drew = WF at *
      generalize w3.heap.size = BF at *
      refine hf4.mono ?_
      rintro e w5 ⟨rfl, hb5⟩
      clear hf4
      have hB5 : Below w.heap.size w w5 := hBF.trans (hb5.mono hBF.size)
      have hz5 := hzF.below hb5
      have HZ5 : Hid (FlAt w5 w.heap.size zeroF) := hz5
      obtain ⟨x0, x1, x2, x3, x4, x5, _⟩ := (hfB.below hb5).cells
      dsimp only at x0 x1 x2 x3 x4 x5
      clear hfB hzF hb5 hz5
      have hX3 := HEE.out
      clear HEE
      generalize hfE : fileE (P, Q, n, lo, hi, seq) = Ef at hX3 ⊢
      clear hfE
      obtain ⟨y0, y1, y2, y3, y4, y5, yf⟩ := ZERO.out w5 HZ5.out
      by_cases he : Ef = 0
      · rw [if_pos he] at hX3
        subst hX3
        subst he
        obtain ⟨z0, z1, z2, z3, z4, z5, _⟩ := (HZ5.out.set (P, Q, n, lo, hi, seq)).cells
        have hB6 := flSet_below (f := (P, Q, n, lo, hi, seq)) hB5 (Nat.le_refl w.heap.size)
        unfold flSet at z0 z1 z2 z3 z4 z5 hB6
        dsimp only at z0 z1 z2 z3 z4 z5 hB6
        go_wp2
        exact bodyPost_ret (v := .tuple #[.agg #[.string P, .string Q, .int .i64 n, .int .i64 lo, .int .i64 hi, .int .i64 seq], .int .i64 0]) (by simp [results, Tryz.results23, go_sem, z0, z1, z2, z3, z4, z5]) rfl ⟨rfl, hB6⟩
      · rw [if_neg he] at hX3
        subst hX3
        have hEp : (0 : Int) < (Ef : Int) := by omega
        have s0 := setCell_self y0
        have s1 := setCell_self y1
        have s2 := setCell_self y2
        have s3 := setCell_self y3
        have s4 := setCell_self y4
        have s5 := setCell_self y5
        clear he x0 x1 x2 x3 x4 x5
        go_wp2
        exact bodyPost_ret (v := .tuple #[.agg #[.string ⟨#[]⟩, .string ⟨#[]⟩, .int .i64 0, .int .i64 0, .int .i64 0, .int .i64 0], .int .i64 Ef]) (by simp [results, Tryz.results23, go_sem, y0, y1, y2, y3, y4, y5]) rfl ⟨rfl, hB5⟩
    · have hbadR : R = (zeroF, 1) := by
        rw [← HRS.out]
        match j, ht with
        | 0, ht => rw [Option.some.inj ht, hno]
        | 1, ht => rw [Option.some.inj ht, hno]; split <;> simp_all
        | 2, ht => rw [Option.some.inj ht, hno]; split <;> simp_all
        | 3, ht => rw [Option.some.inj ht, hno]; split <;> simp_all
      subst hbadR
      clear HRS ht hno c0 c1
      obtain ⟨y0, y1, y2, y3, y4, y5, yf⟩ := ZERO.out w3 HF3.out
      have s0 := setCell_self y0
      have s1 := setCell_self y1
      have s2 := setCell_self y2
      have s3 := setCell_self y3
      have s4 := setCell_self y4
      have s5 := setCell_self y5
      go_wp2
      exact bodyPost_ret (v := .tuple #[.agg #[.string ⟨#[]⟩, .string ⟨#[]⟩, .int .i64 0, .int .i64 0, .int .i64 0, .int .i64 0], .int .i64 1]) (by simp [results, Tryz.results23, go_sem, y0, y1, y2, y3, y4, y5]) rfl ⟨rfl, hB3⟩
  · have hRR := HR.out.symm.trans (readF_other (l := s.data.toList) (fun e => h6 (by rw [← e, ← htm, List.length_map])))
    subst hRR
    generalize ts.length = L at h6 hcap ⊢
    have hne : ¬ (L : Int) = 6 := by omega
    clear htm hwl hcell h6 HR
    obtain ⟨y0, y1, y2, y3, y4, y5, yf⟩ := ZERO.out w1 HF1.out
    have s0 := setCell_self y0
    have s1 := setCell_self y1
    have s2 := setCell_self y2
    have s3 := setCell_self y3
    have s4 := setCell_self y4
    have s5 := setCell_self y5
    go_wp2
    exact bodyPost_ret (v := .tuple #[.agg #[.string ⟨#[]⟩, .string ⟨#[]⟩, .int .i64 0, .int .i64 0, .int .i64 0, .int .i64 0], .int .i64 1]) (by simp [results, Tryz.results23, go_sem, y0, y1, y2, y3, y4, y5]) rfl ⟨rfl, hB1⟩
end Go.Proofs.YtpkoefpdpoikkaaGreatDoor
namespace Go.Proofs.YtpkoefpdpoikkaaGreatDoor
open Go.RowKit Go.Extern.Stop Go.Stop Go.Extern Go.Sort Go.Shelf Go.Lib

set_option maxRecDepth 100000 in
set_option maxHeartbeats 2000000 in
theorem readRow_any (s : ByteArray) (w : World) (hs : s.size < 4294967281) :
    Calls Tryz.prog 133 #[.string s] w fun e w' => e = .returned (.tuple #[rowV (readO s.data.toList).1, .int .i64 (readO s.data.toList).2]) ∧ Below w.heap.size w w' := by
  generalize hR : readO s.data.toList = R
  have HR : Hid (readO s.data.toList = R) := hR
  clear hR
  have hb0 : Below w.heap.size w (w.alloc (.cells #[.string ⟨#[]⟩, .int .i64 0, .int .i64 0] 41)) := (Below.refl _ _).alloc (Nat.le_refl _) _
  go_enter Tryz.func133, Tryz.ntmps133
  go_wp2_with fail
  refine (cutText_any s _ hs).mono ?_
  rintro e w1 ⟨v, ts, rfl, hT, hmap, hb1⟩
  obtain ⟨b, cap, rfl, hcap, hcells⟩ := hT
  have z0 : w1.cell? ⟨w.heap.size, 0, none⟩ = some (.string ⟨#[]⟩) := below_keep hb1 (by simp)
  have z1 : w1.cell? ⟨w.heap.size, 1, none⟩ = some (.int .i64 0) := below_keep hb1 (by simp)
  have z2 : w1.cell? ⟨w.heap.size, 2, none⟩ = some (.int .i64 0) := below_keep hb1 (by simp)
  have fz : ∀ o, w1.frozen? ⟨w.heap.size, o, none⟩ = false := fun o => by rw [hb1.frozen (p := ⟨w.heap.size, o, none⟩) (by simp)]; simp
  have hB1 : Below w.heap.size w w1 := hb0.trans (hb1.mono hb0.size)
  have hlen : ts.length = (words s.data.toList).length := by rw [← hmap, List.length_map]
  have hlenW := words_len s.data.toList
  by_cases h3 : ts.length = 3
  · obtain ⟨P, K, V, rfl⟩ : ∃ P K V, ts = [P, K, V] := by
      match ts, h3 with
      | [P, K, V], _ => exact ⟨P, K, V, rfl⟩
    simp only [List.map_cons, List.map_nil] at hmap
    have c0 : w1.cell? ⟨b, 0, none⟩ = some (.string P) := hcells 0 (by simp)
    have c1 : w1.cell? ⟨b, 1, none⟩ = some (.string K) := hcells 1 (by simp)
    have c2 : w1.cell? ⟨b, 2, none⟩ = some (.string V) := hcells 2 (by simp)
    have hsK : K.size ≤ maxLen := by
      have := hlenW K.data.toList (by rw [← hmap]; simp)
      rw [size_list, size_list] at this
      unfold maxLen; omega
    have hsV : V.size ≤ maxLen := by
      have := hlenW V.data.toList (by rw [← hmap]; simp)
      rw [size_list, size_list] at this
      unfold maxLen; omega
    have hsP : P.size ≤ maxLen := by
      have := hlenW P.data.toList (by rw [← hmap]; simp)
      rw [size_list, size_list] at this
      unfold maxLen; omega
    have hr := readO_three hmap.symm
    rw [bytesOf_data] at hr
    have HRR := HR.out.symm.trans hr
    clear HR hr hmap hlen hlenW hcells h3
    simp only [List.length_cons, List.length_nil, Nat.zero_add, Nat.reduceAdd] at hcap ⊢
    have HE : Hid (R = match numO K.data.toList, numO V.data.toList with
      | some a, some b => if rowE (P, a, b) = 0 then ((P, a, b), 0) else ((bytesOf [], 0, 0), rowE (P, a, b))
      | _, _ => ((bytesOf [], 0, 0), 1)) := HRR
    clear HRR
    go_wp2_with fail
    refine (numbersOf_any b 1 _ K V w1 c1 c2 hsK hsV).mono ?_
    rintro e w2 ⟨hN, hb2⟩
    have hB2 : Below w.heap.size w w2 := hB1.trans (hb2.mono hB1.size)
    have y0 := below_keep hb2 z0
    have y1 := below_keep hb2 z1
    have y2 := below_keep hb2 z2
    have d0 := below_keep hb2 c0
    have hz1 : w.heap.size < w1.heap.size := cell_lt z0
    have fy : ∀ o, w2.frozen? ⟨w.heap.size, o, none⟩ = false := fun o => by rw [hb2.frozen (p := ⟨w.heap.size, o, none⟩) hz1]; exact fz o
    have hz2 : w.heap.size < w2.heap.size := cell_lt y0
    clear z0 z1 z2 fz c0 c1 c2 hz1
    have HE' := HE.out
    clear HE
    generalize numO K.data.toList = nk at hN HE'
    generalize numO V.data.toList = nv at hN HE'
    by_cases hgood : ∃ x y, nk = some x ∧ nv = some y
    · obtain ⟨x, y, rfl, rfl⟩ := hgood
      obtain ⟨g, c, rfl, k0, k1⟩ := hN
      dsimp only at HE'
      have hbR : Below w2.heap.size w2 (w2.alloc (.cells #[.string P, .int .i64 x, .int .i64 y] 41)).drew := ((Below.refl _ _).alloc (Nat.le_refl _) _).drew
      have hBR : Below w.heap.size w (w2.alloc (.cells #[.string P, .int .i64 x, .int .i64 y] 41)).drew := hB2.trans (hbR.mono hB2.size)
      have hck := rowError_any (P, x, y) ((w2.alloc (.cells #[.string P, .int .i64 x, .int .i64 y] 41)).drew) hsP
      dsimp only at hck
      have q0 := below_keep hbR y0
      have q1 := below_keep hbR y1
      have q2 := below_keep hbR y2
      have r0 : (w2.alloc (.cells #[.string P, .int .i64 x, .int .i64 y] 41)).drew.cell? ⟨w2.heap.size, 0, none⟩ = some (.string P) := by simp
      have r1 : (w2.alloc (.cells #[.string P, .int .i64 x, .int .i64 y] 41)).drew.cell? ⟨w2.heap.size, 1, none⟩ = some (.int .i64 x) := by simp
      have r2 : (w2.alloc (.cells #[.string P, .int .i64 x, .int .i64 y] 41)).drew.cell? ⟨w2.heap.size, 2, none⟩ = some (.int .i64 y) := by simp
      have hbZ : Below w2.heap.size w2 (w2.alloc (.cells #[.string ⟨#[]⟩, .int .i64 0, .int .i64 0] 41)) := (Below.refl _ _).alloc (Nat.le_refl _) _
      have j0 := below_keep hbZ k0
      have j1 := below_keep hbZ k1
      have j2 := below_keep hbZ d0
      have l0 := below_keep hbZ.drew k0
      have l1 := below_keep hbZ.drew k1
      have l2 := below_keep hbZ.drew d0
      have m0 := below_keep (Below.refl w2.heap.size w2).drew k0
      have m1 := below_keep (Below.refl w2.heap.size w2).drew k1
      have m2 := below_keep (Below.refl w2.heap.size w2).drew d0
      by_cases he : rowE (P, x, y) = 0
      · rw [if_pos he] at HE'
        subst HE'
        rw [he] at hck
        clear he
        go_wp2
        go_region
        all_goals go_wp2_with fail
        refine hck.mono ?_
        rintro e w5 ⟨rfl, hb5⟩
        have g0 := below_keep hb5 q0
        have g1 := below_keep hb5 q1
        have g2 := below_keep hb5 q2
        have u0 := below_keep hb5 r0
        have u1 := below_keep hb5 r1
        have u2 := below_keep hb5 r2
        have hB5 : Below w.heap.size w w5 := hBR.trans (hb5.mono hBR.size)
        have f5 : ∀ o, w5.frozen? ⟨w.heap.size, o, none⟩ = false := fun o => by
          rw [hb5.frozen (p := ⟨w.heap.size, o, none⟩) (by simp; omega), hbR.frozen (p := ⟨w.heap.size, o, none⟩) hz2]; exact fy o
        clear hck q0 q1 q2 r0 r1 r2 y0 y1 y2 fy
        go_wp2
        refine bodyPost_ret (v := .tuple #[.agg #[.string P, .int .i64 x, .int .i64 y], .int .i64 0]) (by simp [results, Tryz.results133, go_sem, g0, g1, g2]) rfl ⟨rfl, ?_⟩
        exact ((hB5.setCell (by simp) _).setCell (by simp) _).setCell (by simp) _
      · rw [if_neg he] at HE'
        generalize rowE (P, x, y) = E at he hck HE'
        subst HE'
        have hE : (0 : Int) < (E : Int) := by omega
        clear he
        go_wp2
        go_region
        all_goals go_wp2_with fail
        refine hck.mono ?_
        rintro e w5 ⟨rfl, hb5⟩
        have g0 := below_keep hb5 q0
        have g1 := below_keep hb5 q1
        have g2 := below_keep hb5 q2
        have hB5 : Below w.heap.size w w5 := hBR.trans (hb5.mono hBR.size)
        have f5 : ∀ o, w5.frozen? ⟨w.heap.size, o, none⟩ = false := fun o => by
          rw [hb5.frozen (p := ⟨w.heap.size, o, none⟩) (by simp; omega), hbR.frozen (p := ⟨w.heap.size, o, none⟩) hz2]; exact fy o
        have s0 := setCell_self g0
        have s1 := setCell_self g1
        have s2 := setCell_self g2
        clear hck q0 q1 q2 r0 r1 r2 y0 y1 y2 fy
        go_wp2
        exact bodyPost_ret (v := .tuple #[.agg #[.string ⟨#[]⟩, .int .i64 0, .int .i64 0], .int .i64 E]) (by simp [results, Tryz.results133, go_sem, g0, g1, g2]) rfl ⟨rfl, hB5⟩
    · have hbadE : e = .returned (.tuple #[.slice none 0 0, .bool false]) := by
        cases nk with
        | none => cases nv <;> exact hN
        | some x =>
          cases nv with
          | none => exact hN
          | some y => exact absurd ⟨x, y, rfl, rfl⟩ hgood
      have hbadR : R = ((bytesOf [], 0, 0), 1) := by
        cases nk with
        | none => cases nv <;> exact HE'
        | some x =>
          cases nv with
          | none => exact HE'
          | some y => exact absurd ⟨x, y, rfl, rfl⟩ hgood
      subst hbadE hbadR
      clear HE' hN hgood
      have s0 := setCell_self y0
      have s1 := setCell_self y1
      have s2 := setCell_self y2
      go_wp2
      exact bodyPost_ret (v := .tuple #[.agg #[.string ⟨#[]⟩, .int .i64 0, .int .i64 0], .int .i64 1]) (by simp [results, Tryz.results133, go_sem, y0, y1, y2]) rfl ⟨rfl, hB2⟩
  · have hr := readO_other (l := s.data.toList) (by omega)
    have hRR := HR.out.symm.trans hr
    subst hRR
    generalize ts.length = L at h3 hcap ⊢
    have hne : ¬ (L : Int) = 3 := by omega
    clear hr hmap hlen hlenW hcells HR h3
    have s0 := setCell_self z0
    have s1 := setCell_self z1
    have s2 := setCell_self z2
    go_wp2
    exact bodyPost_ret (v := .tuple #[.agg #[.string ⟨#[]⟩, .int .i64 0, .int .i64 0], .int .i64 1]) (by simp [results, Tryz.results133, go_sem, z0, z1, z2]) rfl ⟨rfl, hB1⟩
end Go.Proofs.YtpkoefpdpoikkaaGreatDoor
namespace Go.Proofs.YtpkoefpdpoikkaaGreatDoor
open Go.RowKit Go.Extern.Stop Go.Stop Go.Extern

def codedB (x y c : Int) : Bool := decide (x = c) && decide (y = -1)

theorem coded_of (v : Value) (x y c : Int) (w : World) (w1 : World → Prop)
    (hc : Calls Tryz.prog 78 #[v] w fun e w' => e = .returned (.tuple #[.int .i64 x, .int .i64 y]) ∧ w1 w') :
    Calls Tryz.prog 20 #[v, .int .i64 c] w fun e w' => e = .returned (.bool (codedB x y c)) ∧ w1 w' := by
  unfold codedB
  by_cases h1 : x = c
  · subst h1
    by_cases h2 : y = -1
    · subst h2
      go_enter Tryz.func20, Tryz.ntmps20
      go_wp2_with (go_at_call 78; refine hc.mono ?_; rintro e w' ⟨rfl, hw⟩)
      go_ret
      exact ⟨by simp, hw⟩
    · go_enter Tryz.func20, Tryz.ntmps20
      go_wp2_with (go_at_call 78; refine hc.mono ?_; rintro e w' ⟨rfl, hw⟩)
      go_ret
      exact ⟨by simp [h2], hw⟩
  · go_enter Tryz.func20, Tryz.ntmps20
    go_wp2_with (go_at_call 78; refine hc.mono ?_; rintro e w' ⟨rfl, hw⟩)
    go_ret
    exact ⟨by simp [h1], hw⟩

theorem coded_bare (w : World) (a : Nat → Addr) (h : Errs w a) (i : Nat) (hi : i < 12) (c : Int) :
    Calls Tryz.prog 20 #[.iface 289 (.pointer (some (a i))), .int .i64 c] w fun e w' => e = .returned (.bool (decide ((i : Int) + 1 = c))) ∧ Below w.heap.size w w' := by
  obtain ⟨cp, tp, hp⟩ := h.block i hi
  have hcn : codeNum i = (i : Int) + 1 := by unfold codeNum; rw [if_pos hi]
  have hc := code_bare w a h (a i) cp tp hp i (fun n hn => ⟨fun e => (h.inj i n hi hn e).symm, fun e => e ▸ rfl⟩)
  refine (coded_of _ _ _ c w _ hc).mono fun e w' ⟨he, hw⟩ => ⟨?_, hw⟩
  rw [he, hcn]
  simp [codedB]

theorem coded_nil (w : World) (c : Int) :
    Calls Tryz.prog 20 #[.nilIface, .int .i64 c] w fun e w' => e = .returned (.bool (decide (0 = c))) ∧ w' = w := by
  refine (coded_of .nilIface 0 (-1) c w (fun w' => w' = w) (code_nil w)).mono fun e w' ⟨he, hw⟩ => ⟨?_, hw⟩
  rw [he]
  simp [codedB]
end Go.Proofs.YtpkoefpdpoikkaaGreatDoor
namespace Go.Proofs.YtpkoefpdpoikkaaGreatDoor
open Go.RowKit Go.Extern.Stop Go.Stop Go.Extern Go.Sort Go.Shelf Go.Lib

theorem coded_same (n : Nat) (hn : n ≤ 12) (w : World) (a : Nat → Addr) (h : Errs w a) :
    Calls Tryz.prog 20 #[errV a n, .int .i64 n] w fun e w' => e = .returned (.bool true) ∧ Below w.heap.size w w' := by
  cases n with
  | zero =>
    refine (coded_nil w 0).mono fun e w' ⟨he, hw⟩ => ⟨he, ?_⟩
    subst hw; exact Below.refl _ _
  | succ n =>
    refine (coded_bare w a h n (by omega) ((n + 1 : Nat) : Int)).mono fun e w' ⟨he, hw⟩ => ⟨?_, hw⟩
    rw [he]
    simp

end Go.Proofs.YtpkoefpdpoikkaaGreatDoor
namespace Go.Proofs.YtpkoefpdpoikkaaGreatDoor
open Go.RowKit Go.Extern.Stop Go.Stop Go.Extern Go.Sort Go.Shelf Go.Lib

theorem fine_of (w : World) : Calls Tryz.prog 101 #[] w fun e w' => e = .returned (.agg #[.int .i64 0, .int .i64 (-1)]) ∧ Below w.heap.size w w' := by
  go_enter Tryz.func101, Tryz.ntmps101
  go_wp2
  refine bodyPost_ret (v := .agg #[.int .i64 0, .int .i64 (-1)]) (by simp [results, Tryz.results101, go_sem]) rfl ⟨rfl, ?_⟩
  exact (Below.refl _ _).alloc (Nat.le_refl _) _

theorem bare_of (n : Int) (w : World) : Calls Tryz.prog 99 #[.int .i64 n] w fun e w' => e = .returned (.agg #[.int .i64 n, .int .i64 (-1)]) ∧ Below w.heap.size w w' := by
  go_enter Tryz.func99, Tryz.ntmps99
  go_wp2
  refine bodyPost_ret (v := .agg #[.int .i64 n, .int .i64 (-1)]) (by simp [results, Tryz.results99, go_sem]) rfl ⟨rfl, ?_⟩
  exact (Below.refl _ _).alloc (Nat.le_refl _) _

def FC (W : World) (F : Nat) (x y : Int) : Prop := W.heap[F]? = some (.cells #[.int .i64 x, .int .i64 y] 64 (0, 0))
theorem FC.lt {W : World} {F : Nat} {x y : Int} (h : FC W F x y) : F < W.heap.size := lt_of_block h
theorem FC.below {W W' : World} {F : Nat} {x y : Int} (h : FC W F x y) (hb : Below W.heap.size W W') : FC W' F x y := (hb.block F h.lt).trans h
theorem FC.c0 {W : World} {F : Nat} {x y : Int} (h : FC W F x y) : W.cell? ⟨F, 0, none⟩ = some (.int .i64 x) := by rw [cell_of_row _ _ _ _ _ _ h]; rfl
theorem FC.c1 {W : World} {F : Nat} {x y : Int} (h : FC W F x y) : W.cell? ⟨F, 1, none⟩ = some (.int .i64 y) := by rw [cell_of_row _ _ _ _ _ _ h]; rfl
theorem FC.fz {W : World} {F : Nat} {x y : Int} (h : FC W F x y) (o : Nat) : W.frozen? ⟨F, o, none⟩ = false := frozen_of_row _ _ _ _ _ h
theorem FC.new (w : World) : FC (w.alloc (.cells #[.int .i64 0, .int .i64 0] 64)) w.heap.size 0 0 := heap_alloc_new _ _
theorem FC.set {W : World} {F : Nat} {x y : Int} (h : FC W F x y) (a b : Int) : FC ((W.setCell ⟨F, 0, none⟩ (.int .i64 a)).setCell ⟨F, 1, none⟩ (.int .i64 b)) F a b := by
  have h1 : (W.setCell ⟨F, 0, none⟩ (.int .i64 a)).heap[F]? = some (.cells #[.int .i64 a, .int .i64 y] 64 (0, 0)) := by
    rw [heap_setCell_same _ _ _ _ _ _ h]; rfl
  show _ = _
  rw [heap_setCell_same _ _ _ _ _ _ h1]; rfl

end Go.Proofs.YtpkoefpdpoikkaaGreatDoor
