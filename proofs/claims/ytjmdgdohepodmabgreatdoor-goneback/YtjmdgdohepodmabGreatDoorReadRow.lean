/-
  The contract of row.Read.
-/
import Derived.Test.YtjmdgdohepodmabGreatDoorRowRead
namespace Go.Proofs.YtjmdgdohepodmabGreatDoor
open Go.RowKit Go.Extern.Stop Go.Stop Go.Extern Go.Sort Go.Shelf Go.Lib

theorem words_len : ∀ (l : List UInt8), ∀ x ∈ words l, x.length ≤ l.length
  | [], x, h => by simp [words] at h; simp [h]
  | c :: r, x, h => by
    have ih := words_len r
    unfold words at h
    split at h
    · rw [List.mem_cons] at h
      rcases h with rfl | h
      · simp
      · have := ih x h; simp; omega
    · split at h
      · simp at h; simp [h]
      · rename_i w ws hw
        rw [hw] at ih
        rw [List.mem_cons] at h
        rcases h with rfl | h
        · have := ih w List.mem_cons_self; simp; omega
        · have := ih x (List.mem_cons_of_mem _ h); simp; omega

/-- A store of what the cell holds turns nothing. -/
theorem setCell_self {w : World} {b o : Nat} {v : Value} (h : w.cell? ⟨b, o, none⟩ = some v) : w.setCell ⟨b, o, none⟩ v = w := by
  have hm : (w.setCell ⟨b, o, none⟩ v).heap = w.heap := by
    unfold World.setCell
    apply Array.ext_getElem?
    intro i
    dsimp only
    rw [Array.getElem?_modify]
    split
    · rename_i e
      subst e
      unfold World.cell? at h
      dsimp only at h
      cases hh : w.heap[b]? with
      | none => rfl
      | some ob =>
        rw [hh] at h
        cases ob with
        | cells c t f =>
          simp only [Option.isSome_none, Bool.false_eq_true, if_false] at h
          simp only [Option.map_some, Option.isSome_none, Bool.false_eq_true, if_false, Option.some.injEq, Obj.cells.injEq, and_true]
          apply Array.ext_getElem?
          intro k
          rw [Array.getElem?_setIfInBounds]
          split
          · rename_i e; subst e
            split
            · exact h.symm
            · rename_i hlt; rw [Array.getElem?_eq_none (by omega)]
          · rfl
        | _ => simp at h
    · rfl
  cases w
  simp only [World.setCell] at hm ⊢
  rw [hm]

/-- A row as one value. -/
def rowV (x : Rw) : Value := .agg #[.string x.1, .int .i64 x.2.1, .int .i64 x.2.2]

theorem readO_other {l : List UInt8} (h : (words l).length ≠ 3) : readO l = ((bytesOf [], 0, 0), 1) := by
  unfold readO
  split
  · rename_i p k v e; rw [e] at h; simp at h
  · rfl

theorem readO_three {l p k v : List UInt8} (h : words l = [p, k, v]) : readO l = (match numO k, numO v with
    | some a, some b => if rowE (bytesOf p, a, b) = 0 then ((bytesOf p, a, b), 0) else ((bytesOf [], 0, 0), rowE (bytesOf p, a, b))
    | _, _ => ((bytesOf [], 0, 0), 1)) := by
  unfold readO
  rw [h]
  rfl

set_option maxHeartbeats 2000000 in
theorem read_any (s : ByteArray) (w : World) (a : Nat → Addr) (h : Env w a) (hs : s.size < 4294967281) :
    Calls Tryz.prog 42 #[.string s] w fun e w' => e = .returned (.tuple #[rowV (readO s.data.toList).1, errV a (readO s.data.toList).2]) ∧ Below w.heap.size w w' := by
  have hb0 : Below w.heap.size w (w.alloc (.cells #[.string ⟨#[]⟩, .int .i64 0, .int .i64 0] 59)) := (Below.refl _ _).alloc (Nat.le_refl _) _
  obtain ⟨m, hm⟩ := (h.below hb0).maxl
  have hsp := Tryz.strings_Split s sp m _ hs hm (by decide)
  obtain ⟨hw1, hw2⟩ := split_words s.size s (Nat.le_refl _)
  have hlenW := words_len s.data.toList
  have hcl := countB_le sp (by decide) s.size s (Nat.le_refl _)
  generalize countB s sp = c at hsp hw1 hw2 hcl
  generalize splitB sp 0 c s = ps at hsp hw1
  have hbS : Below w.heap.size w ((w.alloc (.cells #[.string ⟨#[]⟩, .int .i64 0, .int .i64 0] 59)).alloc (.cells (ps.map Value.string).toArray 9)) := hb0.alloc hb0.size _
  have hES := h.below hbS
  unfold sp at hsp
  by_cases hc : c = 2
  · subst hc
    obtain ⟨P, K, V, rfl⟩ : ∃ P K V, ps = [P, K, V] := by
      have hl : ps.length = 3 := by rw [← List.length_map (f := fun x : ByteArray => x.data.toList), hw1, ← hw2]
      match ps, hl with
      | [P, K, V], _ => exact ⟨P, K, V, rfl⟩
    simp only [List.map_cons, List.map_nil] at hw1 hsp hbS hES
    have hsK : K.size ≤ maxLen := by
      have := hlenW K.data.toList (by rw [← hw1]; simp)
      rw [size_list, size_list] at this
      unfold maxLen; omega
    have hsV : V.size ≤ maxLen := by
      have := hlenW V.data.toList (by rw [← hw1]; simp)
      rw [size_list, size_list] at this
      unfold maxLen; omega
    have hsP : P.size ≤ maxLen := by
      have := hlenW P.data.toList (by rw [← hw1]; simp)
      rw [size_list, size_list] at this
      unfold maxLen; omega
    have hr := readO_three hw1.symm
    rw [bytesOf_data] at hr
    have hNK := number_any K _ a hES.weak hsK
    have cS0 : ((w.alloc (.cells #[.string ⟨#[]⟩, .int .i64 0, .int .i64 0] 59)).alloc (.cells [Value.string P, .string K, .string V].toArray 9)).cell? ⟨w.heap.size + 1, 0, none⟩ = some (.string P) := by simp
    have cS1 : ((w.alloc (.cells #[.string ⟨#[]⟩, .int .i64 0, .int .i64 0] 59)).alloc (.cells [Value.string P, .string K, .string V].toArray 9)).cell? ⟨w.heap.size + 1, 1, none⟩ = some (.string K) := by simp
    have cS2 : ((w.alloc (.cells #[.string ⟨#[]⟩, .int .i64 0, .int .i64 0] 59)).alloc (.cells [Value.string P, .string K, .string V].toArray 9)).cell? ⟨w.heap.size + 1, 2, none⟩ = some (.string V) := by simp
    have z0 : ((w.alloc (.cells #[.string ⟨#[]⟩, .int .i64 0, .int .i64 0] 59)).alloc (.cells [Value.string P, .string K, .string V].toArray 9)).cell? ⟨w.heap.size, 0, none⟩ = some (.string ⟨#[]⟩) := by simp
    have z1 : ((w.alloc (.cells #[.string ⟨#[]⟩, .int .i64 0, .int .i64 0] 59)).alloc (.cells [Value.string P, .string K, .string V].toArray 9)).cell? ⟨w.heap.size, 1, none⟩ = some (.int .i64 0) := by simp
    have z2 : ((w.alloc (.cells #[.string ⟨#[]⟩, .int .i64 0, .int .i64 0] 59)).alloc (.cells [Value.string P, .string K, .string V].toArray 9)).cell? ⟨w.heap.size, 2, none⟩ = some (.int .i64 0) := by simp
    have hzz : w.heap.size < ((w.alloc (.cells #[.string ⟨#[]⟩, .int .i64 0, .int .i64 0] 59)).alloc (.cells [Value.string P, .string K, .string V].toArray 9)).heap.size := by simp; omega
    have fz : ∀ o, ((w.alloc (.cells #[.string ⟨#[]⟩, .int .i64 0, .int .i64 0] 59)).alloc (.cells [Value.string P, .string K, .string V].toArray 9)).frozen? ⟨w.heap.size, o, none⟩ = false := by intro o; simp
    clear hw1 hw2 hlenW hm hcl
    generalize hWS : (w.alloc (.cells #[.string ⟨#[]⟩, .int .i64 0, .int .i64 0] 59)).alloc (.cells [Value.string P, .string K, .string V].toArray 9) = WS at hsp hbS hES hNK cS0 cS1 cS2 z0 z1 z2 hzz fz
    clear hWS
    unfold numR at hNK
    cases hk : numO K.data.toList with
    | none =>
      rw [hk] at hNK hr
      dsimp only at hNK hr
      rw [hr]
      simp only [errV, rowV, bytesOf]
      clear hr hk
      go_enter Tryz.func42, Tryz.ntmps42
      go_wp2_with fail
      refine hsp.mono ?_
      rintro e w1 ⟨rfl, rfl⟩
      clear hsp
      go_wp2_with fail
      refine hNK.mono ?_
      rintro e w3 ⟨rfl, hb3⟩
      clear hNK
      have t2 := below_keep hb3 cS2
      have hNV := number_any V w3 a (hES.below hb3).weak hsV
      generalize numR V.data.toList = nv at hNV
      obtain ⟨nv, bv⟩ := nv
      go_wp2_with fail
      refine hNV.mono ?_
      rintro e w4 ⟨rfl, hb4⟩
      clear hNV
      have hB3 : Below w.heap.size w w3 := hbS.trans (hb3.mono hbS.size)
      have hB4 : Below w.heap.size w w4 := hB3.trans (hb4.mono hB3.size)
      have y0 := below_keep hb4 (below_keep hb3 z0)
      have y1 := below_keep hb4 (below_keep hb3 z1)
      have y2 := below_keep hb4 (below_keep hb3 z2)
      have f4 : ∀ o, w4.frozen? ⟨w.heap.size, o, none⟩ = false := fun o => by
        rw [hb4.frozen (p := ⟨w.heap.size, o, none⟩) (Nat.lt_of_lt_of_le hzz hb3.size), hb3.frozen (p := ⟨w.heap.size, o, none⟩) hzz]; exact fz o
      have et := (h.below hB4).text
      have s0 := setCell_self y0
      have s1 := setCell_self y1
      have s2 := setCell_self y2
      clear z0 z1 z2 fz cS0 cS1 cS2 t2 hES
      go_wp2
      go_region
      all_goals go_wp2
      all_goals exact bodyPost_ret (v := .tuple #[.agg #[.string ⟨#[]⟩, .int .i64 0, .int .i64 0], .iface 228 (.pointer (some (a 0)))]) (by simp [results, Tryz.results42, go_sem, y0, y1, y2]) rfl ⟨rfl, hB4.drew⟩
    | some n =>
      have hNV0 := number_any V
      cases hv : numO V.data.toList with
      | none =>
        rw [hk, hv] at hr
        rw [hk] at hNK
        dsimp only at hNK hr
        rw [hr]
        simp only [errV, rowV, bytesOf]
        have hnr : numR V.data.toList = (.int .i64 0, false) := by unfold numR; rw [hv]
        rw [hnr] at hNV0
        clear hr hk hv hnr
        go_enter Tryz.func42, Tryz.ntmps42
        go_wp2_with fail
        refine hsp.mono ?_
        rintro e w1 ⟨rfl, rfl⟩
        clear hsp
        go_wp2_with fail
        refine hNK.mono ?_
        rintro e w3 ⟨rfl, hb3⟩
        clear hNK
        have t2 := below_keep hb3 cS2
        have hNV := hNV0 w3 a (hES.below hb3).weak hsV
        clear hNV0
        go_wp2_with fail
        refine hNV.mono ?_
        rintro e w4 ⟨rfl, hb4⟩
        clear hNV
        have hB3 : Below w.heap.size w w3 := hbS.trans (hb3.mono hbS.size)
        have hB4 : Below w.heap.size w w4 := hB3.trans (hb4.mono hB3.size)
        have y0 := below_keep hb4 (below_keep hb3 z0)
        have y1 := below_keep hb4 (below_keep hb3 z1)
        have y2 := below_keep hb4 (below_keep hb3 z2)
        have f4 : ∀ o, w4.frozen? ⟨w.heap.size, o, none⟩ = false := fun o => by
          rw [hb4.frozen (p := ⟨w.heap.size, o, none⟩) (Nat.lt_of_lt_of_le hzz hb3.size), hb3.frozen (p := ⟨w.heap.size, o, none⟩) hzz]; exact fz o
        have et := (h.below hB4).text
        have s0 := setCell_self y0
        have s1 := setCell_self y1
        have s2 := setCell_self y2
        clear z0 z1 z2 fz cS0 cS1 cS2 t2 hES
        go_wp2
        go_region
        all_goals go_wp2
        all_goals exact bodyPost_ret (v := .tuple #[.agg #[.string ⟨#[]⟩, .int .i64 0, .int .i64 0], .iface 228 (.pointer (some (a 0)))]) (by simp [results, Tryz.results42, go_sem, y0, y1, y2]) rfl ⟨rfl, hB4.drew⟩
      | some m2 =>
        rw [hk, hv] at hr
        rw [hk] at hNK
        dsimp only at hNK hr
        rw [hr]
        have hnr : numR V.data.toList = (.int .i64 m2, true) := by unfold numR; rw [hv]
        rw [hnr] at hNV0
        clear hr hk hv hnr
        generalize hX : (if rowE (P, n, m2) = 0 then (((P, n, m2) : Rw), 0) else ((bytesOf [], 0, 0), rowE (P, n, m2))) = X
        have HX : Hid ((if rowE (P, n, m2) = 0 then (((P, n, m2) : Rw), 0) else ((bytesOf [], 0, 0), rowE (P, n, m2))) = X) := hX
        clear hX
        go_enter Tryz.func42, Tryz.ntmps42
        go_wp2_with fail
        refine hsp.mono ?_
        rintro e w1 ⟨rfl, rfl⟩
        clear hsp
        go_wp2_with fail
        refine hNK.mono ?_
        rintro e w3 ⟨rfl, hb3⟩
        clear hNK
        have t2 := below_keep hb3 cS2
        have hNV := hNV0 w3 a (hES.below hb3).weak hsV
        clear hNV0
        go_wp2_with fail
        refine hNV.mono ?_
        rintro e w4 ⟨rfl, hb4⟩
        clear hNV
        have hB3 : Below w.heap.size w w3 := hbS.trans (hb3.mono hbS.size)
        have hB4 : Below w.heap.size w w4 := hB3.trans (hb4.mono hB3.size)
        have y0 := below_keep hb4 (below_keep hb3 z0)
        have y1 := below_keep hb4 (below_keep hb3 z1)
        have y2 := below_keep hb4 (below_keep hb3 z2)
        have f4 : ∀ o, w4.frozen? ⟨w.heap.size, o, none⟩ = false := fun o => by
          rw [hb4.frozen (p := ⟨w.heap.size, o, none⟩) (Nat.lt_of_lt_of_le hzz hb3.size), hb3.frozen (p := ⟨w.heap.size, o, none⟩) hzz]; exact fz o
        have t0 := below_keep hb4 (below_keep hb3 cS0)
        have hbR : Below w4.heap.size w4 (w4.alloc (.cells #[.string P, .int .i64 n, .int .i64 m2] 59)) := (Below.refl _ _).alloc (Nat.le_refl _) _
        have hBR : Below w.heap.size w (w4.alloc (.cells #[.string P, .int .i64 n, .int .i64 m2] 59)) := hB4.trans (hbR.mono hB4.size)
        have hck := check_any (P, n, m2) _ a (h.below hBR) hsP
        dsimp only at hck
        have hz4 : w.heap.size < w4.heap.size := Nat.lt_of_lt_of_le hzz (Nat.le_trans hb3.size hb4.size)
        have q0 := below_keep hbR y0
        have q1 := below_keep hbR y1
        have q2 := below_keep hbR y2
        have r0 : (w4.alloc (.cells #[.string P, .int .i64 n, .int .i64 m2] 59)).cell? ⟨w4.heap.size, 0, none⟩ = some (.string P) := by simp
        have r1 : (w4.alloc (.cells #[.string P, .int .i64 n, .int .i64 m2] 59)).cell? ⟨w4.heap.size, 1, none⟩ = some (.int .i64 n) := by simp
        have r2 : (w4.alloc (.cells #[.string P, .int .i64 n, .int .i64 m2] 59)).cell? ⟨w4.heap.size, 2, none⟩ = some (.int .i64 m2) := by simp
        clear z0 z1 z2 fz cS0 cS1 cS2 t2 hES
        by_cases he : rowE (P, n, m2) = 0
        · have hX : X = ((P, n, m2), 0) := by rw [← HX.out, if_pos he]
          subst hX
          rw [he] at hck
          simp only [errV] at hck
          clear he
          go_wp2_with fail
          refine hck.mono ?_
          rintro e w5 ⟨rfl, hb5⟩
          have g0 := below_keep hb5 q0
          have g1 := below_keep hb5 q1
          have g2 := below_keep hb5 q2
          have u0 := below_keep hb5 r0
          have u1 := below_keep hb5 r1
          have u2 := below_keep hb5 r2
          have hB5 : Below w.heap.size w w5 := hBR.trans (hb5.mono hBR.size)
          have f5 : ∀ o, w5.frozen? ⟨w.heap.size, o, none⟩ = false := fun o => by
            rw [hb5.frozen (p := ⟨w.heap.size, o, none⟩) (by simp; omega), hbR.frozen (p := ⟨w.heap.size, o, none⟩) hz4]; exact f4 o
          clear hck q0 q1 q2 r0 r1 r2 y0 y1 y2 f4
          go_wp2
          refine bodyPost_ret (v := .tuple #[.agg #[.string P, .int .i64 n, .int .i64 m2], .nilIface]) (by simp [results, Tryz.results42, go_sem, g0, g1, g2]) rfl ⟨rfl, ?_⟩
          exact ((hB5.setCell (by simp) _).setCell (by simp) _).setCell (by simp) _
        · obtain ⟨j, hj⟩ : ∃ j, rowE (P, n, m2) = j + 1 := ⟨rowE (P, n, m2) - 1, by omega⟩
          have hX : X = ((bytesOf [], 0, 0), j + 1) := by rw [← HX.out, if_neg he, hj]
          subst hX
          rw [hj] at hck
          simp only [errV] at hck
          clear he hj
          go_wp2_with fail
          refine hck.mono ?_
          rintro e w5 ⟨rfl, hb5⟩
          have g0 := below_keep hb5 q0
          have g1 := below_keep hb5 q1
          have g2 := below_keep hb5 q2
          have hB5 : Below w.heap.size w w5 := hBR.trans (hb5.mono hBR.size)
          have f5 : ∀ o, w5.frozen? ⟨w.heap.size, o, none⟩ = false := fun o => by
            rw [hb5.frozen (p := ⟨w.heap.size, o, none⟩) (by simp; omega), hbR.frozen (p := ⟨w.heap.size, o, none⟩) hz4]; exact f4 o
          have s0 := setCell_self g0
          have s1 := setCell_self g1
          have s2 := setCell_self g2
          clear hck q0 q1 q2 r0 r1 r2 y0 y1 y2 f4
          go_wp2
          exact bodyPost_ret (v := .tuple #[.agg #[.string ⟨#[]⟩, .int .i64 0, .int .i64 0], .iface 228 (.pointer (some (a j)))]) (by simp [results, Tryz.results42, go_sem, g0, g1, g2]) rfl ⟨rfl, hB5⟩
  · have hr := readO_other (l := s.data.toList) (by omega)
    rw [hr]
    have hne : ((c : Int) + 1 == 3) = false := by simp; omega
    have et := hES.text
    clear hr hw1 hw2 hlenW hES hm
    generalize (ps.map Value.string).toArray = cs at hsp et hbS
    simp only [errV, rowV, bytesOf]
    go_enter Tryz.func42, Tryz.ntmps42
    go_wp2_with (go_at_call 75; refine hsp.mono ?_; rintro e w1 ⟨rfl, rfl⟩)
    go_region
    all_goals go_wp2
    exact bodyPost_ret (v := .tuple #[.agg #[.string ⟨#[]⟩, .int .i64 0, .int .i64 0], .iface 228 (.pointer (some (a 0)))]) (by simp [results, Tryz.results42, go_sem]) rfl ⟨rfl, hbS.drew⟩
end Go.Proofs.YtjmdgdohepodmabGreatDoor
