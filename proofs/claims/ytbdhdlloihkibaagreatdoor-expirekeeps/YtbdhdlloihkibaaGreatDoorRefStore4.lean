/-
  The contract of Drop of the document's own store.
-/
import Derived.Sort.Walk0
import Derived.Test.YtbdhdlloihkibaaGreatDoorExpSn
namespace Go.Proofs.YtbdhdlloihkibaaGreatDoor
open Go.RowKit Go.Extern.Stop Go.Stop Go.Extern Go.Sort Go.Shelf Go.Lib

def txL (b : ByteArray) : List UInt8 := b.data.toList
theorem txL_inj {a b : ByteArray} (h : txL a = txL b) : a = b := part_ext h
theorem ltS_lt (a b : ByteArray) : ltS a b = decide (txL a < txL b) := by
  unfold ltS txL
  rw [ByteArray.toList_eq, ByteArray.toList_eq, bytesLess_eq]
def sortT (zs : List (List UInt8)) : List (List UInt8) := zs.mergeSort fun x y => decide (x ≤ y)
theorem sortT_perm (zs : List (List UInt8)) : (sortT zs).Perm zs := List.mergeSort_perm _ _
theorem sortT_len (zs : List (List UInt8)) : (sortT zs).length = zs.length := (sortT_perm zs).length_eq
theorem sortT_sorted (zs : List (List UInt8)) : (sortT zs).Pairwise fun x y => x ≤ y := by
  have h2 := List.pairwise_mergeSort (le := fun x y : List UInt8 => decide (x ≤ y)) (fun a b c h1 h2 => by simp only [decide_eq_true_eq] at *; exact List.le_trans h1 h2) (fun a b => by simp only [Bool.or_eq_true, decide_eq_true_eq]; exact List.le_total a b) zs
  exact h2.imp fun h => by simpa using h
theorem tlt_of {a b : List UInt8} (h : a ≤ b) (hne : a ≠ b) : a < b := Classical.byContradiction fun hn => hne (List.le_antisymm h hn)
theorem compact_upT (d : Array (List UInt8)) (hs : ∀ i j, i ≤ j → j < d.size → d[i]! ≤ d[j]!) : ∀ m, m ≤ d.size → (compactUpTo d m).Pairwise (· < ·) ∧ (∀ x, x ∈ compactUpTo d m ↔ ∃ j, j < m ∧ d[j]! = x) ∧ ∀ x ∈ compactUpTo d m, ∀ j, m ≤ j + 1 → j < d.size → x ≤ d[j]! := by
  intro m
  induction m with
  | zero => intro _; exact ⟨by simp [compactUpTo], by simp [compactUpTo], by simp [compactUpTo]⟩
  | succ m ih =>
    intro hm
    obtain ⟨h1, h2, h3⟩ := ih (by omega)
    rw [compactUpTo_succ]
    cases hk : keeps d m with
    | true =>
      simp only [if_true]
      have hlt : ∀ x ∈ compactUpTo d m, x < d[m]! := by
        intro x hx
        have hm0 : m ≠ 0 := by
          intro e; subst e
          obtain ⟨j, hj, _⟩ := (h2 x).1 hx
          omega
        simp only [keeps, decide_eq_true_eq] at hk
        rcases hk with hk | hk
        · exact absurd hk hm0
        · have a1 := h3 x hx (m - 1) (by omega) (by omega)
          have a2 := hs (m - 1) m (by omega) (by omega)
          refine tlt_of (List.le_trans a1 a2) fun e => hk ?_
          rw [e] at a1
          exact List.le_antisymm a1 a2
      refine ⟨List.pairwise_append.2 ⟨h1, List.pairwise_singleton _ _, fun x hx y hy => by rw [List.mem_singleton.1 hy]; exact hlt x hx⟩, fun x => ?_, fun x hx j hj1 hj2 => ?_⟩
      · rw [List.mem_append, List.mem_singleton, h2]
        constructor
        · rintro (⟨j, hj, e⟩ | e)
          · exact ⟨j, by omega, e⟩
          · exact ⟨m, by omega, e.symm⟩
        · rintro ⟨j, hj, e⟩
          rcases Nat.lt_or_ge j m with h | h
          · exact Or.inl ⟨j, h, e⟩
          · have : j = m := by omega
            subst this; exact Or.inr e.symm
      · rw [List.mem_append, List.mem_singleton] at hx
        have hmj := hs m j (by omega) hj2
        rcases hx with hx | hx
        · exact List.le_trans (List.le_of_lt (hlt x hx)) hmj
        · rw [hx]; exact hmj
    | false =>
      simp only [Bool.false_eq_true, if_false, List.append_nil]
      simp only [keeps, decide_eq_false_iff_not, not_or, ne_eq, Classical.not_not] at hk
      refine ⟨h1, fun x => ?_, fun x hx j hj1 hj2 => h3 x hx j (by omega) hj2⟩
      rw [h2]
      constructor
      · rintro ⟨j, hj, e⟩; exact ⟨j, by omega, e⟩
      · rintro ⟨j, hj, e⟩
        rcases Nat.lt_or_ge j m with h | h
        · exact ⟨j, h, e⟩
        · have : j = m := by omega
          subst this
          exact ⟨j - 1, by omega, by rw [← e, hk.2]⟩
theorem sortT_get (zs : List (List UInt8)) (i j : Nat) (hij : i ≤ j) (hj : j < (sortT zs).toArray.size) : (sortT zs).toArray[i]! ≤ (sortT zs).toArray[j]! := by
  have hj' : j < (sortT zs).length := by simpa using hj
  rw [getElem!_pos _ i (by omega), getElem!_pos _ j hj]
  simp only [List.getElem_toArray]
  rcases Nat.lt_or_eq_of_le hij with h | h
  · exact List.pairwise_iff_getElem.1 (sortT_sorted zs) i j (by omega) hj' h
  · subst h; exact List.le_refl _
def uniT (zs : List (List UInt8)) : List (List UInt8) := Lib.compact (sortT zs)
theorem uniT_sorted (zs : List (List UInt8)) : (uniT zs).Pairwise (· < ·) := (compact_upT (sortT zs).toArray (sortT_get zs) (sortT zs).length (by simp)).1
theorem uniT_mem (zs : List (List UInt8)) (x : List UInt8) : x ∈ uniT zs ↔ x ∈ zs := by
  have h := (compact_upT (sortT zs).toArray (sortT_get zs) (sortT zs).length (by simp)).2.1 x
  show x ∈ compactUpTo (sortT zs).toArray (sortT zs).length ↔ _
  rw [h, ← (sortT_perm zs).mem_iff]
  constructor
  · rintro ⟨j, hj, e⟩
    rw [getElem!_pos _ j (by simpa using hj)] at e
    rw [← e]
    simp only [List.getElem_toArray]
    exact List.getElem_mem _
  · intro hx
    obtain ⟨j, hj, e⟩ := List.mem_iff_getElem.1 hx
    exact ⟨j, hj, by rw [getElem!_pos _ j (by simpa using hj)]; simpa using e⟩
theorem reach_uni (ss : List Sn) : uniT ((ss.flatMap needS).map txL) = (reachL ss).map txL := by
  refine List.Perm.eq_of_pairwise (le := fun a b : List UInt8 => a < b) (fun a b _ _ h1 h2 => absurd (List.lt_trans h1 h2) (List.lt_irrefl _)) (uniT_sorted _) ?_ ?_
  · rw [List.pairwise_map]
    exact (reach_rise ss).imp fun h => by rw [ltS_lt, decide_eq_true_eq] at h; exact h
  · refine (List.perm_ext_iff_of_nodup ((uniT_sorted _).imp fun h e => by subst e; exact List.lt_irrefl _ h) ?_).2 fun x => ?_
    · show List.Pairwise _ _
      rw [List.pairwise_map]
      exact (reach_rise ss).imp fun h e => ltS_ne h (txL_inj e)
    · rw [uniT_mem, List.mem_map, List.mem_map]
      constructor
      · rintro ⟨a, ha, rfl⟩
        exact ⟨a, reach_mem.2 (by simpa [List.mem_flatMap] using ha), rfl⟩
      · rintro ⟨a, ha, rfl⟩
        exact ⟨a, by simpa [List.mem_flatMap] using reach_mem.1 ha, rfl⟩
end Go.Proofs.YtbdhdlloihkibaaGreatDoor
namespace Go.Proofs.YtbdhdlloihkibaaGreatDoor
open Go.RowKit Go.Extern.Stop Go.Stop Go.Extern Go.Sort Go.Shelf Go.Lib

theorem obCells_take {w : World} {b o : Nat} {fs : List Ob} (h : ObCells w b o fs) (n : Nat) : ObCells w b o (fs.take n) := fun j hj => by
  rw [List.length_take] at hj
  have := h j (by omega)
  rw [List.getElem_take]
  exact this
theorem obCells_drop {w : World} {b o : Nat} {fs : List Ob} (h : ObCells w b o fs) (n : Nat) : ObCells w b (o + n * 3) (fs.drop n) := fun j hj => by
  rw [List.length_drop] at hj
  have := h (n + j) (by omega)
  rw [List.getElem_drop]
  have e : o + n * 3 + j * 3 = o + (n + j) * 3 := by omega
  rw [e]
  exact this

theorem drop_at {l : List Ob} {n : ByteArray} {j : Nat} (h : l.Pairwise fun a b => a.1.data.toList < b.1.data.toList) (hj : j < l.length) (e : l[j].1 = n) : (l.filter fun o => decide (o.1 ≠ n)) = l.take j ++ l.drop (j + 1) := by
  have hs : l = l.take j ++ l[j] :: l.drop (j + 1) := by rw [List.getElem_cons_drop, List.take_append_drop]
  have h' := h
  rw [hs] at h'
  obtain ⟨h1, h2, h3⟩ := List.pairwise_append.1 h'
  obtain ⟨h4, h5⟩ := List.pairwise_cons.1 h2
  have hx : ∀ p ∈ l.take j, p.1 ≠ n := fun p hp ep => by
    have := h3 p hp l[j] List.mem_cons_self
    rw [e, ep] at this
    exact lt_irr_l _ this
  have hy : ∀ p ∈ l.drop (j + 1), p.1 ≠ n := fun p hp ep => by
    have := h4 p hp
    rw [e, ep] at this
    exact lt_irr_l _ this
  conv => lhs; rw [hs]
  rw [List.filter_append, List.filter_cons, if_neg (by simpa using e), List.filter_eq_self.2 (fun p hp => by simpa using hx p hp), List.filter_eq_self.2 (fun p hp => by simpa using hy p hp)]

set_option maxRecDepth 100000 in
set_option maxHeartbeats 4000000 in
theorem mdrop_any (b : Nat) (s : St) (n : ByteArray) (w : World) (h : MAt w b s) (hl : s.obs.length ≤ 1000) (hr : s.obs.Pairwise fun a b => a.1.data.toList < b.1.data.toList) :
    Calls Tryz.prog 40 #[.pointer (some ⟨b, 0, none⟩), .string n] w fun e w' => e = .returned (.int .i64 (dropC s n)) ∧ MPost w b (dropS s n) w' := by
  obtain ⟨i0, hi0, hz0, hs0, hby0⟩ := Tryz.objInfo
  have HM : Hid (MAt w b s) := h
  have hf := mfind_any b s n w h hl
  obtain ⟨vL, hm, ho⟩ := h
  obtain ⟨c0, -, -, c3, -, cf⟩ := hm.cells
  cases h1 : s.off
  case true =>
    have e1 : dropC s n = 12 := by unfold dropC; rw [h1]; rfl
    have e2 : dropS s n = s := by unfold dropS; rw [e1]; rfl
    rw [e1, e2]
    rw [h1] at c3
    clear e1 e2 hm ho h1 hf
    go_enter Tryz.func40, Tryz.ntmps40
    go_wp2
    go_ret
    exact ⟨rfl, HM.out, But.refl _ _, MNew.refl _ _⟩
  case false =>
  rw [h1] at c3
  rcases findI_get s.obs n with ⟨g1, g2⟩ | ⟨j, hj, g1, g2, g3, -⟩
  · have e1 : dropC s n = 6 := by unfold dropC; rw [h1, g2]; rfl
    have e2 : dropS s n = s := by unfold dropS; rw [e1]; rfl
    rw [e1, e2]
    rw [g1] at hf
    clear e1 e2 hm ho h1 g1 g2
    go_enter Tryz.func40, Tryz.ntmps40
    go_wp2_with fail
    refine hf.mono ?_
    rintro e w1 ⟨rfl, rfl⟩
    go_wp2
    go_ret
    exact ⟨rfl, HM.out, But.refl _ _, MNew.refl _ _⟩
  · have e1 : dropC s n = 0 := by unfold dropC; rw [h1, g2]; rfl
    have HE : Hid (dropS s n = { s with obs := s.obs.take j ++ s.obs.drop (j + 1) }) := by
      show _ = _
      unfold dropS
      rw [e1, if_neg (by simp), drop_at hr hj g3]
    rw [e1, HE.out]
    rw [g1] at hf
    obtain ⟨q, cap, rfl⟩ := ho.form
    obtain ⟨g, o, hq, hc⟩ := ho.cells (fun e => by rw [e] at hj; simp at hj)
    subst hq
    have hcap := (ho.room).2 (fun e => by rw [e] at hj; simp at hj)
    have HC : Hid (ObCells w g o s.obs) := hc
    have HMC : Hid (MC w b (.slice (some ⟨g, o, none⟩) s.obs.length cap) s) := hm
    obtain ⟨L, hL⟩ : ∃ L, s.obs.length = L := ⟨_, rfl⟩
    have HX : Hid (s.obs.length = L) := hL
    rw [hL] at c0 hl hcap hj
    have hi1 : (j : Int) < (L : Int) := by omega
    have hi0' : (0 : Int) ≤ (j : Int) := by omega
    have hin : ¬ (j : Int) < 0 := by omega
    have hic : (j : Int) ≤ (cap : Int) := by omega
    have hw1 : IntKind.i64.wrap ((j : Int) + 1) = ((j + 1 : Nat) : Int) := by rw [IntWalk.i64_in _ (by omega)]; omega
    have hi2 : ((j + 1 : Nat) : Int) ≤ (L : Int) := by omega
    have hi3 : (0 : Int) ≤ ((j + 1 : Nat) : Int) := by omega
    have hi4 : (L : Int) ≤ (cap : Int) := by omega
    clear hL hm ho hc g1 g2 g3 h1 hr e1 HM
    go_enter Tryz.func40, Tryz.ntmps40
    go_wp2_with fail
    refine hf.mono ?_
    rintro e w1 ⟨rfl, rfl⟩
    clear hf
    generalize hJ : j + 1 = J at hw1 hi2 hi3
    have HJ : Hid (j + 1 = J) := hJ
    clear hJ
    go_wp2_with (at_builtin; (refine wpList_append_src rfl _ _ 69 rfl w1.heap.size 94 i0 (.agg #[.string ⟨#[]⟩, .string ⟨#[]⟩, .int .i64 0]) 3 40 Tryz.underlying69 hi0 hz0 hs0 hby0 rfl (by decide) (.slice none 0 0) 0 [] rfl ?a0 _ _ _ (flatO (s.obs.take j)) rfl ?a1 ?a2 ?a3 ?a4 ?a5 ?a6 ?_))
    case a0 => exact World.ownsRow_nil _ _ _ _
    case a1 => have h := HX.out; rw [flatO_len, List.length_take]; omega
    case a2 => exact Or.inr ⟨g, o, rfl, cellsO_flat (obCells_take HC.out j)⟩
    case a3 => exact flatO_one _
    case a4 => unfold maxLen; omega
    case a5 => omega
    case a6 => exact Nat.le_refl _
    intro v1 y1 ho1 hg1 hk1
    have hb1 : Below w1.heap.size w1 y1 := (Below.refl _ _).grown hg1 (Nat.le_refl _) (fun k hk => by simp [Value.ownBlock] at hk)
    have OW1 : Hid (y1.ownsRow w1.heap.size 94 3 v1 j (flatO (s.obs.take j))) := by
      show y1.ownsRow _ _ _ _ _ _
      simpa using ho1
    have HB1 : Hid (Below w1.heap.size w1 y1) := hb1
    have HK1 : Hid (v1.ownBlock = none ∨ v1.ownBlock = some w1.heap.size) := hk1
    have HCy : Hid (ObCells y1 g o s.obs) := HC.out.below hb1
    have HMCy : Hid (MC y1 b (.slice (some ⟨g, o, none⟩) s.obs.length cap) s) := HMC.out.below hb1
    obtain ⟨d0, -, -, d3, -, df⟩ := HMCy.out.cells
    rw [HX.out] at d0
    clear ho1 hg1 hk1 hb1 c0 c3 cf
    go_wp2_with (at_builtin; (refine wpList_append_src rfl _ _ 69 rfl w1.heap.size 94 i0 (.agg #[.string ⟨#[]⟩, .string ⟨#[]⟩, .int .i64 0]) 3 40 Tryz.underlying69 hi0 hz0 hs0 hby0 rfl (by decide) v1 j (flatO (s.obs.take j)) rfl ?b0 _ _ _ (flatO (s.obs.drop J)) rfl ?b1 ?b2 ?b3 ?b4 ?b5 ?b6 ?_))
    case b0 => exact OW1.out
    case b1 => have h := HX.out; rw [flatO_len, List.length_drop]; omega
    case b2.inl => exact Or.inl ⟨by omega, fun e => by simp at e⟩
    case b2.inr => exact Or.inr ⟨g, o + J * 3, rfl, cellsO_flat (obCells_drop HCy.out J)⟩
    case b3 => exact flatO_one _
    case b4 => unfold maxLen; omega
    case b5 => omega
    case b6 => exact HB1.out.size
    all_goals
      intro v2 y2 ho2 hg2 hk2
      have hb2 : Below w1.heap.size w1 y2 := HB1.out.grown hg2 HB1.out.size (fun k hk => by
        rcases HK1.out with e | e
        · rw [e] at hk; simp at hk
        · rw [e] at hk; simp at hk; omega)
      have HB2 : Hid (Below w1.heap.size w1 y2) := hb2
      have OW2 : Hid (y2.ownsRow w1.heap.size 94 3 v2 (j + (L - J)) (flatO (s.obs.take j ++ s.obs.drop (j + 1)))) := by
        show y2.ownsRow _ _ _ _ _ _
        rw [flatO_append, HJ.out]
        exact ho2
      have HM2 : Hid (MC y2 b (.slice (some ⟨g, o, none⟩) s.obs.length cap) s) := HMC.out.below hb2
      obtain ⟨m0, -, -, m3, -, mf⟩ := HM2.out.cells
      rw [HX.out] at m0
      obtain ⟨HO, hn2⟩ := obsAt_of_own OW2.out
      obtain ⟨q2, c2, rfl⟩ := HO.form
      have HP : Hid (MPost w1 b { s with obs := s.obs.take j ++ s.obs.drop (j + 1) } (y2.setCell ⟨b, 0, none⟩ (.slice q2 (s.obs.take j ++ s.obs.drop (j + 1)).length c2))) :=
        ⟨⟨_, HM2.out.set0 _ _, HO.set_off (off_store HM2.out HO) _ _⟩, But.setCell (P := fun k => k = b) (But.of_below HB2.out) (Or.inl rfl) _, MNew.fresh (HM2.out.set0 _ (s.obs.take j ++ s.obs.drop (j + 1))).cells.1 OW2.out (Nat.le_refl _)⟩
      generalize (s.obs.take j ++ s.obs.drop (j + 1)).length = n2 at *
      clear ho2 hg2 hk2 hb2 d0 d3 df HO hn2
      go_wp2
      go_ret
      exact ⟨rfl, HP.out⟩
end Go.Proofs.YtbdhdlloihkibaaGreatDoor
