/-
  The contract of the document's own ReadRow.
-/
import Derived.Test.YtgffkkijfmoooaaGreatDoorRefNums
import Derived.BigRegion
namespace Go.Proofs.YtgffkkijfmoooaaGreatDoor
open Go.RowKit Go.Extern.Stop Go.Stop Go.Extern Go.Sort Go.Shelf Go.Lib

set_option maxRecDepth 100000 in
set_option maxHeartbeats 2000000 in
theorem readRow_any (s : ByteArray) (w : World) (hs : s.size < 4294967281) :
    Calls Tryz.prog 20 #[.string s] w fun e w' => e = .returned (.tuple #[rowV (readO s.data.toList).1, .int .i64 (readO s.data.toList).2]) ∧ Below w.heap.size w w' := by
  generalize hR : readO s.data.toList = R
  have HR : Hid (readO s.data.toList = R) := hR
  clear hR
  have hb0 : Below w.heap.size w (w.alloc (.cells #[.string ⟨#[]⟩, .int .i64 0, .int .i64 0] 30)) := (Below.refl _ _).alloc (Nat.le_refl _) _
  go_enter Tryz.func20, Tryz.ntmps20
  go_wp2_with fail
  refine (cutText_any s _ hs).mono ?_
  rintro e w1 ⟨v, ts, rfl, hT, hmap, hb1⟩
  obtain ⟨b, cap, rfl, hcap, hcells⟩ := hT
  have z0 : w1.cell? ⟨w.heap.size, 0, none⟩ = some (.string ⟨#[]⟩) := below_keep hb1 (by simp)
  have z1 : w1.cell? ⟨w.heap.size, 1, none⟩ = some (.int .i64 0) := below_keep hb1 (by simp)
  have z2 : w1.cell? ⟨w.heap.size, 2, none⟩ = some (.int .i64 0) := below_keep hb1 (by simp)
  have fz : ∀ o, w1.frozen? ⟨w.heap.size, o, none⟩ = false := fun o => by rw [hb1.frozen (p := ⟨w.heap.size, o, none⟩) (by simp)]; simp
  have hB1 : Below w.heap.size w w1 := hb0.trans (hb1.mono hb0.size)
  have hlen : ts.length = (words s.data.toList).length := by rw [← hmap, List.length_map]
  have hlenW := words_len s.data.toList
  by_cases h3 : ts.length = 3
  · obtain ⟨P, K, V, rfl⟩ : ∃ P K V, ts = [P, K, V] := by
      match ts, h3 with
      | [P, K, V], _ => exact ⟨P, K, V, rfl⟩
    simp only [List.map_cons, List.map_nil] at hmap
    have c0 : w1.cell? ⟨b, 0, none⟩ = some (.string P) := hcells 0 (by simp)
    have c1 : w1.cell? ⟨b, 1, none⟩ = some (.string K) := hcells 1 (by simp)
    have c2 : w1.cell? ⟨b, 2, none⟩ = some (.string V) := hcells 2 (by simp)
    have hsK : K.size ≤ maxLen := by
      have := hlenW K.data.toList (by rw [← hmap]; simp)
      rw [size_list, size_list] at this
      unfold maxLen; omega
    have hsV : V.size ≤ maxLen := by
      have := hlenW V.data.toList (by rw [← hmap]; simp)
      rw [size_list, size_list] at this
      unfold maxLen; omega
    have hsP : P.size ≤ maxLen := by
      have := hlenW P.data.toList (by rw [← hmap]; simp)
      rw [size_list, size_list] at this
      unfold maxLen; omega
    have hr := readO_three hmap.symm
    rw [bytesOf_data] at hr
    have HRR := HR.out.symm.trans hr
    clear HR hr hmap hlen hlenW hcells h3
    simp only [List.length_cons, List.length_nil, Nat.zero_add, Nat.reduceAdd] at hcap ⊢
    have HE : Hid (R = match numO K.data.toList, numO V.data.toList with
      | some a, some b => if rowE (P, a, b) = 0 then ((P, a, b), 0) else ((bytesOf [], 0, 0), rowE (P, a, b))
      | _, _ => ((bytesOf [], 0, 0), 1)) := HRR
    clear HRR
    go_wp2_with fail
    refine (numbersOf_any b 1 _ K V w1 c1 c2 hsK hsV).mono ?_
    rintro e w2 ⟨hN, hb2⟩
    have hB2 : Below w.heap.size w w2 := hB1.trans (hb2.mono hB1.size)
    have y0 := below_keep hb2 z0
    have y1 := below_keep hb2 z1
    have y2 := below_keep hb2 z2
    have d0 := below_keep hb2 c0
    have hz1 : w.heap.size < w1.heap.size := cell_lt z0
    have fy : ∀ o, w2.frozen? ⟨w.heap.size, o, none⟩ = false := fun o => by rw [hb2.frozen (p := ⟨w.heap.size, o, none⟩) hz1]; exact fz o
    have hz2 : w.heap.size < w2.heap.size := cell_lt y0
    clear z0 z1 z2 fz c0 c1 c2 hz1
    have HE' := HE.out
    clear HE
    generalize numO K.data.toList = nk at hN HE'
    generalize numO V.data.toList = nv at hN HE'
    by_cases hgood : ∃ x y, nk = some x ∧ nv = some y
    · obtain ⟨x, y, rfl, rfl⟩ := hgood
      obtain ⟨g, c, rfl, k0, k1⟩ := hN
      dsimp only at HE'
      have hbR : Below w2.heap.size w2 (w2.alloc (.cells #[.string P, .int .i64 x, .int .i64 y] 30)).drew := ((Below.refl _ _).alloc (Nat.le_refl _) _).drew
      have hBR : Below w.heap.size w (w2.alloc (.cells #[.string P, .int .i64 x, .int .i64 y] 30)).drew := hB2.trans (hbR.mono hB2.size)
      have hck := rowError_any (P, x, y) ((w2.alloc (.cells #[.string P, .int .i64 x, .int .i64 y] 30)).drew) hsP
      dsimp only at hck
      have q0 := below_keep hbR y0
      have q1 := below_keep hbR y1
      have q2 := below_keep hbR y2
      have r0 : (w2.alloc (.cells #[.string P, .int .i64 x, .int .i64 y] 30)).drew.cell? ⟨w2.heap.size, 0, none⟩ = some (.string P) := by simp
      have r1 : (w2.alloc (.cells #[.string P, .int .i64 x, .int .i64 y] 30)).drew.cell? ⟨w2.heap.size, 1, none⟩ = some (.int .i64 x) := by simp
      have r2 : (w2.alloc (.cells #[.string P, .int .i64 x, .int .i64 y] 30)).drew.cell? ⟨w2.heap.size, 2, none⟩ = some (.int .i64 y) := by simp
      have hbZ : Below w2.heap.size w2 (w2.alloc (.cells #[.string ⟨#[]⟩, .int .i64 0, .int .i64 0] 30)) := (Below.refl _ _).alloc (Nat.le_refl _) _
      have j0 := below_keep hbZ k0
      have j1 := below_keep hbZ k1
      have j2 := below_keep hbZ d0
      have l0 := below_keep hbZ.drew k0
      have l1 := below_keep hbZ.drew k1
      have l2 := below_keep hbZ.drew d0
      have m0 := below_keep (Below.refl w2.heap.size w2).drew k0
      have m1 := below_keep (Below.refl w2.heap.size w2).drew k1
      have m2 := below_keep (Below.refl w2.heap.size w2).drew d0
      by_cases he : rowE (P, x, y) = 0
      · rw [if_pos he] at HE'
        subst HE'
        rw [he] at hck
        clear he
        go_wp2
        go_region
        all_goals go_wp2_with fail
        refine hck.mono ?_
        rintro e w5 ⟨rfl, hb5⟩
        have g0 := below_keep hb5 q0
        have g1 := below_keep hb5 q1
        have g2 := below_keep hb5 q2
        have u0 := below_keep hb5 r0
        have u1 := below_keep hb5 r1
        have u2 := below_keep hb5 r2
        have hB5 : Below w.heap.size w w5 := hBR.trans (hb5.mono hBR.size)
        have f5 : ∀ o, w5.frozen? ⟨w.heap.size, o, none⟩ = false := fun o => by
          rw [hb5.frozen (p := ⟨w.heap.size, o, none⟩) (by simp; omega), hbR.frozen (p := ⟨w.heap.size, o, none⟩) hz2]; exact fy o
        clear hck q0 q1 q2 r0 r1 r2 y0 y1 y2 fy
        go_wp2
        refine bodyPost_ret (v := .tuple #[.agg #[.string P, .int .i64 x, .int .i64 y], .int .i64 0]) (by simp [results, Tryz.results20, go_sem, g0, g1, g2]) rfl ⟨rfl, ?_⟩
        exact ((hB5.setCell (by simp) _).setCell (by simp) _).setCell (by simp) _
      · rw [if_neg he] at HE'
        generalize rowE (P, x, y) = E at he hck HE'
        subst HE'
        have hE : (0 : Int) < (E : Int) := by omega
        clear he
        go_wp2
        go_region
        all_goals go_wp2_with fail
        refine hck.mono ?_
        rintro e w5 ⟨rfl, hb5⟩
        have g0 := below_keep hb5 q0
        have g1 := below_keep hb5 q1
        have g2 := below_keep hb5 q2
        have hB5 : Below w.heap.size w w5 := hBR.trans (hb5.mono hBR.size)
        have f5 : ∀ o, w5.frozen? ⟨w.heap.size, o, none⟩ = false := fun o => by
          rw [hb5.frozen (p := ⟨w.heap.size, o, none⟩) (by simp; omega), hbR.frozen (p := ⟨w.heap.size, o, none⟩) hz2]; exact fy o
        have s0 := setCell_self g0
        have s1 := setCell_self g1
        have s2 := setCell_self g2
        clear hck q0 q1 q2 r0 r1 r2 y0 y1 y2 fy
        go_wp2
        exact bodyPost_ret (v := .tuple #[.agg #[.string ⟨#[]⟩, .int .i64 0, .int .i64 0], .int .i64 E]) (by simp [results, Tryz.results20, go_sem, g0, g1, g2]) rfl ⟨rfl, hB5⟩
    · have hbadE : e = .returned (.tuple #[.slice none 0 0, .bool false]) := by
        cases nk with
        | none => cases nv <;> exact hN
        | some x =>
          cases nv with
          | none => exact hN
          | some y => exact absurd ⟨x, y, rfl, rfl⟩ hgood
      have hbadR : R = ((bytesOf [], 0, 0), 1) := by
        cases nk with
        | none => cases nv <;> exact HE'
        | some x =>
          cases nv with
          | none => exact HE'
          | some y => exact absurd ⟨x, y, rfl, rfl⟩ hgood
      subst hbadE hbadR
      clear HE' hN hgood
      have s0 := setCell_self y0
      have s1 := setCell_self y1
      have s2 := setCell_self y2
      go_wp2
      exact bodyPost_ret (v := .tuple #[.agg #[.string ⟨#[]⟩, .int .i64 0, .int .i64 0], .int .i64 1]) (by simp [results, Tryz.results20, go_sem, y0, y1, y2]) rfl ⟨rfl, hB2⟩
  · have hr := readO_other (l := s.data.toList) (by omega)
    have hRR := HR.out.symm.trans hr
    subst hRR
    generalize ts.length = L at h3 hcap ⊢
    have hne : ¬ (L : Int) = 3 := by omega
    clear hr hmap hlen hlenW hcells HR h3
    have s0 := setCell_self z0
    have s1 := setCell_self z1
    have s2 := setCell_self z2
    go_wp2
    exact bodyPost_ret (v := .tuple #[.agg #[.string ⟨#[]⟩, .int .i64 0, .int .i64 0], .int .i64 1]) (by simp [results, Tryz.results20, go_sem, z0, z1, z2]) rfl ⟨rfl, hB1⟩
end Go.Proofs.YtgffkkijfmoooaaGreatDoor
