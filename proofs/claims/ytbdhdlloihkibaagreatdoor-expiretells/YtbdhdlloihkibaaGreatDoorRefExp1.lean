/-
  The contract of the document's own With: a text more, of a rising list.
-/
import Derived.Test.YtbdhdlloihkibaaGreatDoorStrRun
import Derived.Deep.CutRange
import Derived.BigFrame
namespace Go.Proofs.YtbdhdlloihkibaaGreatDoor
open Go.RowKit Go.Extern.Stop Go.Stop Go.Extern Go.Sort Go.Shelf Go.Lib

set_option maxRecDepth 100000 in
set_option maxHeartbeats 8000000 in
theorem with_any (v : Value) (ts : List ByteArray) (s : ByteArray) (w : World) (h : TsAt w v ts) (hl : ts.length ≤ 900) :
    Calls Tryz.prog 32 #[v, .string s] w fun e w' => ∃ v', e = .returned v' ∧ TsAt w' v' (wthS s ts) ∧ Below w.heap.size w w' := by
  obtain ⟨si0, hsi, hsz, hss, hsb⟩ := Tryz.strInfo
  have HTS : Hid (TsAt w v ts) := h
  obtain ⟨K, hK⟩ : ∃ k, plcS s ts = k := ⟨_, rfl⟩
  have HK : Hid (plcS s ts = K) := hK
  have hKl : K ≤ ts.length := by rw [← hK]; exact plcS_le ts
  have HW : Hid (wthS s ts = if ts[K]? = some s then ts else ts.take K ++ [s] ++ ts.drop K) := by
    show _ = _
    unfold wthS
    rw [ispS_cut, hK]
  generalize wthS s ts = R at *
  obtain ⟨PN, hPN⟩ : ∃ k, ts.length = k := ⟨_, rfl⟩
  have HPT : Hid (ts.length = PN) := hPN
  obtain ⟨pq, pc, hpv⟩ := h.form
  rw [hPN] at hpv hl hKl
  have HCL : Hid (0 < PN → ∃ g, pq = some ⟨g, 0, none⟩ ∧ PN ≤ pc ∧ ∀ j (hj : j < ts.length), w.cell? ⟨g, j, none⟩ = some (.string ts[j])) := fun h0 => by
    rcases h with ⟨e1, e2⟩ | ⟨b, cap, e1, e2, hc⟩
    · rw [e2] at hPN
      simp at hPN
      omega
    · rw [hpv] at e1
      simp only [Value.slice.injEq] at e1
      exact ⟨b, e1.1, by rw [e1.2.2, ← hPN]; exact e2, hc⟩
  have HNL : Hid (PN = 0 → (pq = none ∧ pc = 0) ∨ ∃ g, pq = some ⟨g, 0, none⟩) := fun h0 => by
    rcases h with ⟨e1, e2⟩ | ⟨b, cap, e1, e2, hc⟩
    · rw [hpv] at e1
      simp only [Value.slice.injEq] at e1
      exact Or.inl ⟨e1.1, e1.2.2⟩
    · rw [hpv] at e1
      simp only [Value.slice.injEq] at e1
      exact Or.inr ⟨b, e1.1⟩
  subst hpv
  clear h hK hPN
  go_enter Tryz.func32, Tryz.ntmps32
  go_wp2_with fail
  go_loop [5] (fun a => ∃ k : Nat, k ≤ K ∧ a = .int .i64 k) (fun a => K - (intOf a).toNat)
  case atStart => exact ⟨0, by omega, rfl⟩
  case round =>
  obtain ⟨k, hk, rfl⟩ := hrel
  go_upto_region 2 with fail
  go_cut [18] from 7 to 17 (fun c wx => c = .bool (decide (k < K)) ∧ wx = w)
  case first =>
    by_cases hkP : k < PN
    case pos =>
      have hkx : k < ts.length := by rw [HPT.out]; exact hkP
      obtain ⟨pb, hpq, -, hpc⟩ := HCL.out (by omega)
      subst hpq
      have ck := hpc k hkx
      have g1 : (k : Int) < (PN : Int) := by omega
      have g0 : (0 : Int) ≤ (k : Int) := by omega
      have HD : Hid (ltS ts[k] s = decide (k < K)) := by
        show _ = _
        by_cases hkK : k < K
        · rw [decide_eq_true hkK]
          exact plcS_lt hkx (by rw [HK.out]; exact hkK)
        · obtain rfl : k = K := by omega
          rw [decide_eq_false (Nat.lt_irrefl _)]
          have h1 := plcS_ge (p := s) (l := ts) (by rw [HK.out]; exact hkx)
          simp only [HK.out] at h1
          exact h1
      generalize ts[k] = pk at *
      have hd := HD.out
      unfold ltS at hd
      clear HD hkx hpc
      generalize decide (k < K) = DD at *
      cases DD
      all_goals go_wp2
      all_goals go_meet
      all_goals exact ⟨rfl, rfl⟩
    case neg =>
      have g1 : ¬ (k : Int) < (PN : Int) := by omega
      have HD : Hid (decide (k < K) = false) := decide_eq_false (by omega)
      go_wp2
      go_meet
      exact ⟨by rw [HD.out], rfl⟩
  case rest =>
  obtain ⟨rfl, hwc⟩ := hcut
  subst hwc
  by_cases hkK : k < K
  case pos =>
    have hd : decide (k < K) = true := decide_eq_true hkK
    rw [hd]
    go_wp2
    go_round
    case rel => exact ⟨k + 1, by omega, by go_num⟩
    case measure => simp [intOf]; omega
  case neg =>
  obtain rfl : k = K := by omega
  rw [decide_eq_false (Nat.lt_irrefl k)]
  clear hkK hk
  have i1 : (0 : Int) ≤ (k : Int) := by omega
  by_cases hkP : k < PN
  case pos =>
    have hkx : k < ts.length := by rw [HPT.out]; exact hkP
    obtain ⟨g, hpq, hcap, hpc⟩ := HCL.out (by omega)
    subst hpq
    have ck := hpc k hkx
    have g1 : (k : Int) < (PN : Int) := by omega
    have HCC : Hid (∀ W, Below wc.heap.size wc W → ∀ j (hj : j < ts.length), W.cell? ⟨g, j, none⟩ = some (.string ts[j])) := fun W hW j hj => below_keep hW (hpc j hj)
    by_cases he : ts[k] = s
    case pos =>
      have HRR : Hid (R = ts) := by show _ = _; rw [HW.out, List.getElem?_eq_getElem hkx, he, if_pos rfl]
      rw [he] at ck
      have d1 : (s.toList == s.toList) = true := by simp
      clear HW he hkx hpc
      go_wp2
      go_ret
      exact ⟨_, rfl, by rw [HRR.out]; exact HTS.out, Below.refl _ _⟩
    case neg =>
      have HXX : Hid (R = ts.take k ++ [s] ++ ts.drop k) := by
        show _ = _
        rw [HW.out, List.getElem?_eq_getElem hkx, if_neg (fun e => he (Option.some.inj e))]
      have d1 : (ts[k].toList == s.toList) = false := neBB (fun e => he (part_ext e))
      generalize ts[k] = pk at ck d1
      have i2 : (k : Int) ≤ (PN : Int) := by omega
      have i3 : (k : Int) ≤ (pc : Int) := by omega
      have i4 : (PN : Int) ≤ (pc : Int) := by omega
      have hcn : ¬ pc = k := by omega
      clear HW he hkx hpc
      go_upto_region 8 with fail
      go_wp2_with (at_builtin; (refine wpList_append_src rfl _ _ 24 rfl wc.heap.size 9 si0 (.string ⟨#[]⟩) 1 16 Tryz.underlying24 hsi hsz hss hsb rfl (by decide) (.slice none 0 0) 0 [] rfl (by exact World.ownsRow_nil _ _ _ _) _ _ _ ((ts.take k).map Value.string) rfl (by have := HPT.out; rw [List.length_map, List.length_take]; omega) (by exact src_take (HCC.out wc (Below.refl _ _))) (by exact strs_one _) (by unfold maxLen; omega) (by omega) (by exact Nat.le_refl _) ?_))
      intro v1 y1 ho1 hg1 _
      have hb1 : Below wc.heap.size wc y1 := (Below.refl _ _).grown hg1 (Nat.le_refl _) (fun k hk => by simp [Value.ownBlock] at hk)
      have OW1 : y1.ownsRow wc.heap.size 9 1 v1 (ts.take k).length ((ts.take k).map Value.string) := own_cast ho1 (by have := HPT.out; rw [List.length_take]; omega) (by simp)
      obtain ⟨v2, y2, hr2, ho2, hbut2, -⟩ := str_run OW1 hb1.size s rfl (by rw [List.length_take]; omega)
      have hb2 : Below wc.heap.size wc y2 := hb1.trans (hbut2.below hb1.size (fun k hk => (own_blk OW1 hk).1))
      have hal1 : Below y1.heap.size y1 (y1.alloc (.cells #[.string s] 9)) := (Below.refl _ _).alloc (Nat.le_refl _) _
      have HOW2 : Hid (y2.ownsRow wc.heap.size 9 1 v2 (ts.take k ++ [s]).length ((ts.take k ++ [s]).map Value.string)) := ho2
      clear ho1 hg1 OW1 hbut2 ho2
      go_upto_region 10 with (at_builtin; refine wpList_append_run (by rfl) _ _ _ (by rfl) _ _ _ (by rfl) (by rfl) hr2 ?_)
      clear hr2 hal1
      go_wp2_with (at_builtin; (refine wpList_append_src rfl _ _ 24 rfl wc.heap.size 9 si0 (.string ⟨#[]⟩) 1 16 Tryz.underlying24 hsi hsz hss hsb rfl (by decide) v2 (ts.take k ++ [s]).length ((ts.take k ++ [s]).map Value.string) rfl (by exact HOW2.out) _ _ _ ((ts.drop k).map Value.string) rfl (by have := HPT.out; rw [List.length_map, List.length_drop]; omega) (by first | exact src_drop (HCC.out y2 hb2) | simpa using src_drop (HCC.out y2 hb2)) (by exact strs_one _) (by have := HPT.out; simp only [List.length_append, List.length_take, List.length_singleton]; unfold maxLen; omega) (by have := HPT.out; simp only [List.length_append, List.length_take, List.length_singleton]; omega) (by exact hb2.size) ?_))
      intro v3 y3 ho3 hg3 _
      have hb3 : Below wc.heap.size wc y3 := hb2.grown hg3 hb2.size (fun k hk => (own_blk HOW2.out hk).1)
      have HN : Hid (y3.ownsRow wc.heap.size 9 1 v3 R.length (R.map Value.string)) := by
        show World.ownsRow _ _ _ _ _ _ _
        rw [HXX.out]
        exact own_cast ho3 (by have := HPT.out; simp only [List.length_append, List.length_take, List.length_singleton, List.length_drop]; omega) (by simp)
      clear ho3 hg3 HOW2 hb2 hb1
      go_wp2
      go_ret
      exact ⟨_, rfl, tsAt_own HN.out, hb3⟩
  case neg =>
    obtain rfl : k = PN := by omega
    have g1 : ¬ (k : Int) < (k : Int) := by omega
    have HXX : Hid (R = ts.take k ++ [s] ++ ts.drop k) := by
      show _ = _
      rw [HW.out, List.getElem?_eq_none (by rw [HPT.out]; exact Nat.le_refl _), if_neg (by simp)]
    clear HW
    by_cases h0 : k = 0
    case pos =>
      subst h0
      rcases HNL.out rfl with ⟨rfl, rfl⟩ | ⟨g, rfl⟩
      case inl =>
        go_upto_region 8 with fail
        go_wp2_with (at_builtin; (refine wpList_append_src rfl _ _ 24 rfl wc.heap.size 9 si0 (.string ⟨#[]⟩) 1 16 Tryz.underlying24 hsi hsz hss hsb rfl (by decide) (.slice none 0 0) 0 [] rfl (by exact World.ownsRow_nil _ _ _ _) _ _ _ ((ts.take 0).map Value.string) rfl (by have := HPT.out; rw [List.length_map, List.length_take]; omega) (by exact Or.inl ⟨rfl, fun _ => rfl⟩) (by exact strs_one _) (by unfold maxLen; omega) (by omega) (by exact Nat.le_refl _) ?_))
        intro v1 y1 ho1 hg1 _
        have hb1 : Below wc.heap.size wc y1 := (Below.refl _ _).grown hg1 (Nat.le_refl _) (fun k hk => by simp [Value.ownBlock] at hk)
        have OW1 : y1.ownsRow wc.heap.size 9 1 v1 (ts.take 0).length ((ts.take 0).map Value.string) := own_cast ho1 (by have := HPT.out; rw [List.length_take]; omega) (by simp)
        obtain ⟨v2, y2, hr2, ho2, hbut2, -⟩ := str_run OW1 hb1.size s rfl (by rw [List.length_take]; omega)
        have hb2 : Below wc.heap.size wc y2 := hb1.trans (hbut2.below hb1.size (fun k hk => (own_blk OW1 hk).1))
        have hal1 : Below y1.heap.size y1 (y1.alloc (.cells #[.string s] 9)) := (Below.refl _ _).alloc (Nat.le_refl _) _
        have HOW2 : Hid (y2.ownsRow wc.heap.size 9 1 v2 (ts.take 0 ++ [s]).length ((ts.take 0 ++ [s]).map Value.string)) := ho2
        clear ho1 hg1 OW1 hbut2 ho2
        go_upto_region 10 with (at_builtin; refine wpList_append_run (by rfl) _ _ _ (by rfl) _ _ _ (by rfl) (by rfl) hr2 ?_)
        clear hr2 hal1
        go_wp2_with (at_builtin; (refine wpList_append_src rfl _ _ 24 rfl wc.heap.size 9 si0 (.string ⟨#[]⟩) 1 16 Tryz.underlying24 hsi hsz hss hsb rfl (by decide) v2 (ts.take 0 ++ [s]).length ((ts.take 0 ++ [s]).map Value.string) rfl (by exact HOW2.out) _ _ _ ((ts.drop 0).map Value.string) rfl (by have := HPT.out; rw [List.length_map, List.length_drop]; omega) (by exact Or.inl ⟨rfl, fun _ => rfl⟩) (by exact strs_one _) (by have := HPT.out; simp only [List.length_append, List.length_take, List.length_singleton]; unfold maxLen; omega) (by have := HPT.out; simp only [List.length_append, List.length_take, List.length_singleton]; omega) (by exact hb2.size) ?_))
        intro v3 y3 ho3 hg3 _
        have hb3 : Below wc.heap.size wc y3 := hb2.grown hg3 hb2.size (fun k hk => (own_blk HOW2.out hk).1)
        have HN : Hid (y3.ownsRow wc.heap.size 9 1 v3 R.length (R.map Value.string)) := by
          show World.ownsRow _ _ _ _ _ _ _
          rw [HXX.out]
          exact own_cast ho3 (by have := HPT.out; simp only [List.length_append, List.length_take, List.length_singleton, List.length_drop]; omega) (by simp)
        clear ho3 hg3 HOW2 hb2 hb1
        go_wp2
        go_ret
        exact ⟨_, rfl, tsAt_own HN.out, hb3⟩
      case inr =>
        go_upto_region 8 with fail
        go_wp2_with (at_builtin; (refine wpList_append_src rfl _ _ 24 rfl wc.heap.size 9 si0 (.string ⟨#[]⟩) 1 16 Tryz.underlying24 hsi hsz hss hsb rfl (by decide) (.slice none 0 0) 0 [] rfl (by exact World.ownsRow_nil _ _ _ _) _ _ _ ((ts.take 0).map Value.string) rfl (by have := HPT.out; rw [List.length_map, List.length_take]; omega) (by exact Or.inl ⟨rfl, fun h => nomatch h⟩) (by exact strs_one _) (by unfold maxLen; omega) (by omega) (by exact Nat.le_refl _) ?_))
        intro v1 y1 ho1 hg1 _
        have hb1 : Below wc.heap.size wc y1 := (Below.refl _ _).grown hg1 (Nat.le_refl _) (fun k hk => by simp [Value.ownBlock] at hk)
        have OW1 : y1.ownsRow wc.heap.size 9 1 v1 (ts.take 0).length ((ts.take 0).map Value.string) := own_cast ho1 (by have := HPT.out; rw [List.length_take]; omega) (by simp)
        obtain ⟨v2, y2, hr2, ho2, hbut2, -⟩ := str_run OW1 hb1.size s rfl (by rw [List.length_take]; omega)
        have hb2 : Below wc.heap.size wc y2 := hb1.trans (hbut2.below hb1.size (fun k hk => (own_blk OW1 hk).1))
        have hal1 : Below y1.heap.size y1 (y1.alloc (.cells #[.string s] 9)) := (Below.refl _ _).alloc (Nat.le_refl _) _
        have HOW2 : Hid (y2.ownsRow wc.heap.size 9 1 v2 (ts.take 0 ++ [s]).length ((ts.take 0 ++ [s]).map Value.string)) := ho2
        clear ho1 hg1 OW1 hbut2 ho2
        go_upto_region 10 with (at_builtin; refine wpList_append_run (by rfl) _ _ _ (by rfl) _ _ _ (by rfl) (by rfl) hr2 ?_)
        clear hr2 hal1
        go_wp2_with (at_builtin; (refine wpList_append_src rfl _ _ 24 rfl wc.heap.size 9 si0 (.string ⟨#[]⟩) 1 16 Tryz.underlying24 hsi hsz hss hsb rfl (by decide) v2 (ts.take 0 ++ [s]).length ((ts.take 0 ++ [s]).map Value.string) rfl (by exact HOW2.out) _ _ _ ((ts.drop 0).map Value.string) rfl (by have := HPT.out; rw [List.length_map, List.length_drop]; omega) (by exact Or.inl ⟨rfl, fun h => nomatch h⟩) (by exact strs_one _) (by have := HPT.out; simp only [List.length_append, List.length_take, List.length_singleton]; unfold maxLen; omega) (by have := HPT.out; simp only [List.length_append, List.length_take, List.length_singleton]; omega) (by exact hb2.size) ?_))
        intro v3 y3 ho3 hg3 _
        have hb3 : Below wc.heap.size wc y3 := hb2.grown hg3 hb2.size (fun k hk => (own_blk HOW2.out hk).1)
        have HN : Hid (y3.ownsRow wc.heap.size 9 1 v3 R.length (R.map Value.string)) := by
          show World.ownsRow _ _ _ _ _ _ _
          rw [HXX.out]
          exact own_cast ho3 (by have := HPT.out; simp only [List.length_append, List.length_take, List.length_singleton, List.length_drop]; omega) (by simp)
        clear ho3 hg3 HOW2 hb2 hb1
        go_wp2
        go_ret
        exact ⟨_, rfl, tsAt_own HN.out, hb3⟩
    case neg =>
    obtain ⟨g, hpq, hcap, hpc⟩ := HCL.out (by omega)
    subst hpq
    have HCC : Hid (∀ W, Below wc.heap.size wc W → ∀ j (hj : j < ts.length), W.cell? ⟨g, j, none⟩ = some (.string ts[j])) := fun W hW j hj => below_keep hW (hpc j hj)
    have i3 : (k : Int) ≤ (pc : Int) := by omega
    clear hpc
    by_cases hcn : pc = k
    case pos =>
      obtain rfl : k = pc := hcn.symm
      go_upto_region 8 with fail
      go_wp2_with (at_builtin; (refine wpList_append_src rfl _ _ 24 rfl wc.heap.size 9 si0 (.string ⟨#[]⟩) 1 16 Tryz.underlying24 hsi hsz hss hsb rfl (by decide) (.slice none 0 0) 0 [] rfl (by exact World.ownsRow_nil _ _ _ _) _ _ _ ((ts.take k).map Value.string) rfl (by have := HPT.out; rw [List.length_map, List.length_take]; omega) (by exact src_take (HCC.out wc (Below.refl _ _))) (by exact strs_one _) (by unfold maxLen; omega) (by omega) (by exact Nat.le_refl _) ?_))
      intro v1 y1 ho1 hg1 _
      have hb1 : Below wc.heap.size wc y1 := (Below.refl _ _).grown hg1 (Nat.le_refl _) (fun k hk => by simp [Value.ownBlock] at hk)
      have OW1 : y1.ownsRow wc.heap.size 9 1 v1 (ts.take k).length ((ts.take k).map Value.string) := own_cast ho1 (by have := HPT.out; rw [List.length_take]; omega) (by simp)
      obtain ⟨v2, y2, hr2, ho2, hbut2, -⟩ := str_run OW1 hb1.size s rfl (by rw [List.length_take]; omega)
      have hb2 : Below wc.heap.size wc y2 := hb1.trans (hbut2.below hb1.size (fun k hk => (own_blk OW1 hk).1))
      have hal1 : Below y1.heap.size y1 (y1.alloc (.cells #[.string s] 9)) := (Below.refl _ _).alloc (Nat.le_refl _) _
      have HOW2 : Hid (y2.ownsRow wc.heap.size 9 1 v2 (ts.take k ++ [s]).length ((ts.take k ++ [s]).map Value.string)) := ho2
      clear ho1 hg1 OW1 hbut2 ho2
      go_upto_region 10 with (at_builtin; refine wpList_append_run (by rfl) _ _ _ (by rfl) _ _ _ (by rfl) (by rfl) hr2 ?_)
      clear hr2 hal1
      go_wp2_with (at_builtin; (refine wpList_append_src rfl _ _ 24 rfl wc.heap.size 9 si0 (.string ⟨#[]⟩) 1 16 Tryz.underlying24 hsi hsz hss hsb rfl (by decide) v2 (ts.take k ++ [s]).length ((ts.take k ++ [s]).map Value.string) rfl (by exact HOW2.out) _ _ _ ((ts.drop k).map Value.string) rfl (by have := HPT.out; rw [List.length_map, List.length_drop]; omega) (by exact Or.inl ⟨by omega, fun h => nomatch h⟩) (by exact strs_one _) (by have := HPT.out; simp only [List.length_append, List.length_take, List.length_singleton]; unfold maxLen; omega) (by have := HPT.out; simp only [List.length_append, List.length_take, List.length_singleton]; omega) (by exact hb2.size) ?_))
      intro v3 y3 ho3 hg3 _
      have hb3 : Below wc.heap.size wc y3 := hb2.grown hg3 hb2.size (fun k hk => (own_blk HOW2.out hk).1)
      have HN : Hid (y3.ownsRow wc.heap.size 9 1 v3 R.length (R.map Value.string)) := by
        show World.ownsRow _ _ _ _ _ _ _
        rw [HXX.out]
        exact own_cast ho3 (by have := HPT.out; simp only [List.length_append, List.length_take, List.length_singleton, List.length_drop]; omega) (by simp)
      clear ho3 hg3 HOW2 hb2 hb1
      go_wp2
      go_ret
      exact ⟨_, rfl, tsAt_own HN.out, hb3⟩
    case neg =>
      go_upto_region 8 with fail
      go_wp2_with (at_builtin; (refine wpList_append_src rfl _ _ 24 rfl wc.heap.size 9 si0 (.string ⟨#[]⟩) 1 16 Tryz.underlying24 hsi hsz hss hsb rfl (by decide) (.slice none 0 0) 0 [] rfl (by exact World.ownsRow_nil _ _ _ _) _ _ _ ((ts.take k).map Value.string) rfl (by have := HPT.out; rw [List.length_map, List.length_take]; omega) (by exact src_take (HCC.out wc (Below.refl _ _))) (by exact strs_one _) (by unfold maxLen; omega) (by omega) (by exact Nat.le_refl _) ?_))
      intro v1 y1 ho1 hg1 _
      have hb1 : Below wc.heap.size wc y1 := (Below.refl _ _).grown hg1 (Nat.le_refl _) (fun k hk => by simp [Value.ownBlock] at hk)
      have OW1 : y1.ownsRow wc.heap.size 9 1 v1 (ts.take k).length ((ts.take k).map Value.string) := own_cast ho1 (by have := HPT.out; rw [List.length_take]; omega) (by simp)
      obtain ⟨v2, y2, hr2, ho2, hbut2, -⟩ := str_run OW1 hb1.size s rfl (by rw [List.length_take]; omega)
      have hb2 : Below wc.heap.size wc y2 := hb1.trans (hbut2.below hb1.size (fun k hk => (own_blk OW1 hk).1))
      have hal1 : Below y1.heap.size y1 (y1.alloc (.cells #[.string s] 9)) := (Below.refl _ _).alloc (Nat.le_refl _) _
      have HOW2 : Hid (y2.ownsRow wc.heap.size 9 1 v2 (ts.take k ++ [s]).length ((ts.take k ++ [s]).map Value.string)) := ho2
      clear ho1 hg1 OW1 hbut2 ho2
      go_upto_region 10 with (at_builtin; refine wpList_append_run (by rfl) _ _ _ (by rfl) _ _ _ (by rfl) (by rfl) hr2 ?_)
      clear hr2 hal1
      go_wp2_with (at_builtin; (refine wpList_append_src rfl _ _ 24 rfl wc.heap.size 9 si0 (.string ⟨#[]⟩) 1 16 Tryz.underlying24 hsi hsz hss hsb rfl (by decide) v2 (ts.take k ++ [s]).length ((ts.take k ++ [s]).map Value.string) rfl (by exact HOW2.out) _ _ _ ((ts.drop k).map Value.string) rfl (by have := HPT.out; rw [List.length_map, List.length_drop]; omega) (by first | exact src_drop (HCC.out y2 hb2) | simpa using src_drop (HCC.out y2 hb2)) (by exact strs_one _) (by have := HPT.out; simp only [List.length_append, List.length_take, List.length_singleton]; unfold maxLen; omega) (by have := HPT.out; simp only [List.length_append, List.length_take, List.length_singleton]; omega) (by exact hb2.size) ?_))
      intro v3 y3 ho3 hg3 _
      have hb3 : Below wc.heap.size wc y3 := hb2.grown hg3 hb2.size (fun k hk => (own_blk HOW2.out hk).1)
      have HN : Hid (y3.ownsRow wc.heap.size 9 1 v3 R.length (R.map Value.string)) := by
        show World.ownsRow _ _ _ _ _ _ _
        rw [HXX.out]
        exact own_cast ho3 (by have := HPT.out; simp only [List.length_append, List.length_take, List.length_singleton, List.length_drop]; omega) (by simp)
      clear ho3 hg3 HOW2 hb2 hb1
      go_wp2
      go_ret
      exact ⟨_, rfl, tsAt_own HN.out, hb3⟩
end Go.Proofs.YtbdhdlloihkibaaGreatDoor
