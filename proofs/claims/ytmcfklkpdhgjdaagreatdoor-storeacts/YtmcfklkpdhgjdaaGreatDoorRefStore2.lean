/-
  The contracts of Get, SetCut, On, Next and Swap of the document's own store.
-/
import Derived.Test.YtmcfklkpdhgjdaaGreatDoorRefStore1
namespace Go.Proofs.YtmcfklkpdhgjdaaGreatDoor
open Go.RowKit Go.Extern.Stop Go.Stop Go.Extern Go.Sort Go.Shelf Go.Lib

/-- What Get hands back. -/
def getT (l : List Ob) (n : ByteArray) : ByteArray × Nat := match getO l n with
  | some o => (o.2.1, 0)
  | none => (⟨#[]⟩, 6)

set_option maxRecDepth 100000 in
set_option maxHeartbeats 2000000 in
theorem mget_any (b : Nat) (s : St) (n : ByteArray) (w : World) (h : MAt w b s) (hl : s.obs.length ≤ 1000) :
    Calls Tryz.prog 19 #[.pointer (some ⟨b, 0, none⟩), .string n] w fun e w' => e = .returned (.tuple #[.string (getT s.obs n).1, .int .i64 (getT s.obs n).2]) ∧ w' = w := by
  have hf := find_any b s n w h hl
  obtain ⟨vL, hm, ho⟩ := h
  have c0 := hm.cells.1
  rcases findI_get s.obs n with ⟨h1, h2⟩ | ⟨j, hj, h1, h2, -, -⟩
  · have e : getT s.obs n = (⟨#[]⟩, 6) := by unfold getT; rw [h2]
    rw [e]
    rw [h1] at hf
    clear h1 h2 e hm ho
    go_enter Tryz.func19, Tryz.ntmps19
    go_wp2_with fail
    refine hf.mono ?_
    rintro e w1 ⟨rfl, rfl⟩
    go_wp2
    go_ret2
    exact ⟨rfl, rfl⟩
  · have e : getT s.obs n = (s.obs[j].2.1, 0) := by unfold getT; rw [h2]
    rw [e]
    dsimp only
    rw [h1] at hf
    obtain ⟨q, cap, rfl⟩ := ho.form
    obtain ⟨g, o, hq, hc⟩ := ho.cells (fun e => by rw [e] at hj; simp at hj)
    subst hq
    have c1 := (hc j hj).2.1
    generalize s.obs[j].2.1 = t at c1
    have hi : (j : Int) < (s.obs.length : Int) := by omega
    have hi0 : (0 : Int) ≤ (j : Int) := by omega
    have hn : ¬ (j : Int) < 0 := by omega
    generalize s.obs.length = L at c0 hi
    clear h1 h2 e hm ho hc hj
    go_enter Tryz.func19, Tryz.ntmps19
    go_wp2_with fail
    refine hf.mono ?_
    rintro e w1 ⟨rfl, rfl⟩
    go_wp2
    go_ret2
    exact ⟨rfl, rfl⟩

/-- One store into the block. -/
theorem mpost_set {W : World} {b : Nat} {vL : Value} {s s' : St} {k : Nat} {z : Value} (h : MC W b vL s) (ho : ObsAt W vL s.obs) (h' : MC (W.setCell ⟨b, k, none⟩ z) b vL s') (e : s'.obs = s.obs) : MPost W b s' (W.setCell ⟨b, k, none⟩ z) := by
  obtain ⟨q, c, rfl⟩ := ho.form
  refine ⟨⟨_, h', ?_⟩, (But.refl (fun k => k = b) W).setCell (Or.inl rfl) _, MNew.same h.cells.1 h'.cells.1⟩
  rw [e]
  exact ho.set_off (off_store h ho) k z

set_option maxRecDepth 100000 in
theorem setCut_any (b : Nat) (s : St) (n : Int) (w : World) (h : MAt w b s) :
    Calls Tryz.prog 24 #[.pointer (some ⟨b, 0, none⟩), .int .i64 n] w fun e w' => e = .returned (.int .i64 (cutC s n)) ∧ MPost w b (cutS s n) w' := by
  have HM : Hid (MAt w b s) := h
  obtain ⟨vL, hm, ho⟩ := h
  obtain ⟨-, -, -, c3, c4, cf⟩ := hm.cells
  by_cases h1 : n < 0
  · have e1 : cutC s n = 2 := by unfold cutC; rw [if_pos h1]
    have e2 : cutS s n = s := by unfold cutS; rw [e1]; rfl
    rw [e1, e2]
    clear e1 e2 hm ho
    go_enter Tryz.func24, Tryz.ntmps24
    go_wp2
    go_ret
    exact ⟨rfl, HM.out, But.refl _ _, MNew.refl _ _⟩
  · cases h2 : s.off
    · have e1 : cutC s n = 0 := by unfold cutC; rw [if_neg h1, h2]; rfl
      have e2 : cutS s n = { s with cut := n } := by unfold cutS; rw [e1]; rfl
      rw [e1, e2]
      have HP : Hid (MPost w b { s with cut := n } (w.setCell ⟨b, 4, none⟩ (.int .i64 n))) := mpost_set hm ho (hm.set4 n) rfl
      rw [h2] at c3
      clear e1 e2 hm ho h2
      go_enter Tryz.func24, Tryz.ntmps24
      go_wp2
      go_ret
      exact ⟨rfl, HP.out⟩
    · have e1 : cutC s n = 12 := by unfold cutC; rw [if_neg h1, h2]; rfl
      have e2 : cutS s n = s := by unfold cutS; rw [e1]; rfl
      rw [e1, e2]
      rw [h2] at c3
      clear e1 e2 hm ho h2
      go_enter Tryz.func24, Tryz.ntmps24
      go_wp2
      go_ret
      exact ⟨rfl, HM.out, But.refl _ _, MNew.refl _ _⟩

set_option maxRecDepth 100000 in
theorem on_any (b : Nat) (s : St) (w : World) (h : MAt w b s) :
    Calls Tryz.prog 26 #[.pointer (some ⟨b, 0, none⟩)] w fun e w' => e = .returned (.tuple #[]) ∧ MPost w b (onS s) w' := by
  obtain ⟨vL, hm, ho⟩ := h
  obtain ⟨-, -, -, c3, c4, cf⟩ := hm.cells
  have hm1 := hm.set3 false
  have hm2 := hm1.set4 (-1)
  obtain ⟨-, -, -, d3, d4, df⟩ := hm1.cells
  dsimp only at d3 d4
  obtain ⟨q, c, rfl⟩ := ho.form
  have ho1 := ho.set_off (off_store hm ho) 3 (.bool false)
  have ho2 := ho1.set_off (off_store hm1 ho1) 4 (.int .i64 (-1))
  have HP : Hid (MPost w b (onS s) ((w.setCell ⟨b, 3, none⟩ (.bool false)).setCell ⟨b, 4, none⟩ (.int .i64 (-1)))) := ⟨⟨_, hm2, ho2⟩, ((But.refl (fun k => k = b) w).setCell (Or.inl rfl) _).setCell (Or.inl rfl) _, MNew.same hm.cells.1 hm2.cells.1⟩
  clear hm hm1 hm2 ho ho1 ho2
  go_enter Tryz.func26, Tryz.ntmps26
  go_wp2
  go_end0
  exact ⟨rfl, HP.out⟩

set_option maxRecDepth 100000 in
set_option maxHeartbeats 1000000 in
theorem next_any (b : Nat) (s : St) (n : Int) (w : World) (h : MAt w b s) (hd : 0 ≤ s.day ∧ s.day ≤ 100000) :
    Calls Tryz.prog 28 #[.pointer (some ⟨b, 0, none⟩), .int .i64 n] w fun e w' => e = .returned (.tuple #[.int .i64 (if nextC s n = 0 then s.day + n else 0), .int .i64 (nextC s n)]) ∧ MPost w b (nextS s n) w' := by
  have HM : Hid (MAt w b s) := h
  obtain ⟨vL, hm, ho⟩ := h
  obtain ⟨-, -, c2, -, -, cf⟩ := hm.cells
  have hw : IntKind.i64.wrap (100000 - s.day) = 100000 - s.day := IntWalk.i64_in _ (by omega)
  by_cases h1 : n < 0
  · have e1 : nextC s n = 2 := by unfold nextC; rw [if_pos (Or.inl h1)]
    have e2 : nextS s n = s := by unfold nextS; rw [e1]; rfl
    rw [e1, e2, if_neg (by decide)]
    clear e1 e2 hm ho
    go_enter Tryz.func28, Tryz.ntmps28
    go_wp2
    go_ret2
    exact ⟨rfl, HM.out, But.refl _ _, MNew.refl _ _⟩
  · by_cases h2 : 100000 - s.day < n
    · have e1 : nextC s n = 2 := by unfold nextC; rw [if_pos (Or.inr h2)]
      have e2 : nextS s n = s := by unfold nextS; rw [e1]; rfl
      rw [e1, e2, if_neg (by decide)]
      clear e1 e2 hm ho
      go_enter Tryz.func28, Tryz.ntmps28
      go_wp2
      go_ret2
      exact ⟨rfl, HM.out, But.refl _ _, MNew.refl _ _⟩
    · have e1 : nextC s n = 0 := by unfold nextC; rw [if_neg (by omega)]
      have e2 : nextS s n = { s with day := s.day + n } := by unfold nextS; rw [e1]; rfl
      rw [e1, e2, if_pos rfl]
      have hw2 : IntKind.i64.wrap (s.day + n) = s.day + n := IntWalk.i64_in _ (by omega)
      have hm2 := hm.set2 (s.day + n)
      have d2 := hm2.cells.2.2.1
      dsimp only at d2
      have HP : Hid (MPost w b { s with day := s.day + n } (w.setCell ⟨b, 2, none⟩ (.int .i64 (s.day + n)))) := mpost_set hm ho hm2 rfl
      clear e1 e2 hm hm2 ho
      go_enter Tryz.func28, Tryz.ntmps28
      go_wp2
      go_ret2
      exact ⟨rfl, HP.out⟩

set_option maxRecDepth 100000 in
set_option maxHeartbeats 2000000 in
theorem mswap_any (b : Nat) (s : St) (old t : ByteArray) (w : World) (h : MAt w b s) (hc : -1 ≤ s.cut ∧ s.cut ≤ 9223372036854775807) (hs : t.size ≤ maxLen) :
    Calls Tryz.prog 22 #[.pointer (some ⟨b, 0, none⟩), .string old, .string t] w fun e w' => e = .returned (.int .i64 (swapC s old t)) ∧ MPost w b (swapS s old t) w' := by
  unfold maxLen at hs
  have HM : Hid (MAt w b s) := h
  obtain ⟨vL, hm, ho⟩ := h
  obtain ⟨-, c1, -, c3, -, cf⟩ := hm.cells
  by_cases h1 : 20000 < t.size
  · have e0 : swapE s old t = 2 := by unfold swapE; rw [if_pos h1]
    have e1 : swapC s old t = 2 := by unfold swapC; rw [e0]; rfl
    have e2 : swapS s old t = s := by unfold swapS; rw [e0]; rfl
    rw [e1, e2]
    have hi : (20000 : Int) < (t.size : Int) := by omega
    clear e0 e1 e2 hm ho
    go_enter Tryz.func22, Tryz.ntmps22
    go_wp2
    go_ret
    exact ⟨rfl, HM.out, But.refl _ _, MNew.refl _ _⟩
  have hi : ¬ (20000 : Int) < (t.size : Int) := by omega
  cases h2 : s.off
  case true =>
    have e0 : swapE s old t = 12 := by unfold swapE; rw [if_neg h1, h2]; rfl
    have e1 : swapC s old t = 12 := by unfold swapC; rw [e0]; rfl
    have e2 : swapS s old t = s := by unfold swapS; rw [e0]; rfl
    rw [e1, e2]
    rw [h2] at c3
    clear e0 e1 e2 hm ho h2
    go_enter Tryz.func22, Tryz.ntmps22
    go_wp2
    go_ret
    exact ⟨rfl, HM.out, But.refl _ _, MNew.refl _ _⟩
  case false =>
  rw [h2] at c3
  by_cases h3 : s.head = old
  case neg =>
    have e0 : swapE s old t = 11 := by unfold swapE; rw [if_neg h1, h2, if_neg (by decide), if_pos h3]
    have e1 : swapC s old t = 11 := by unfold swapC; rw [e0]; rfl
    have e2 : swapS s old t = s := by unfold swapS; rw [e0]; rfl
    rw [e1, e2]
    have d1 := nm_ne h3
    clear e0 e1 e2 hm ho h2 h3
    go_enter Tryz.func22, Tryz.ntmps22
    go_wp2
    go_ret
    exact ⟨rfl, HM.out, But.refl _ _, MNew.refl _ _⟩
  case pos =>
  have e0 : swapE s old t = 0 := by unfold swapE; rw [if_neg h1, h2, if_neg (by decide), if_neg (by simpa using h3)]
  have d1 := nm_eq h3
  have hwr := written_any b vL s t.size w hm (by omega) hc
  have hle := wrtS_le s t.size
  have hob := (wrtS_obs s t.size).1
  have HC : Hid (swapC s old t = if (wrtS s t.size).1 < t.size then 12 else 0) := by show _ = _; unfold swapC; rw [e0]; rfl
  have HS : Hid (swapS s old t = if (wrtS s t.size).1 < t.size then (wrtS s t.size).2 else { (wrtS s t.size).2 with head := t }) := by show _ = _; unfold swapS; rw [e0]; rfl
  rw [HC.out, HS.out]
  generalize wrtS s t.size = R at hwr hle hob
  obtain ⟨k, s'⟩ := R
  dsimp only at hwr hle hob ⊢
  have HO : Hid (ObsAt w vL s'.obs) := by
    show ObsAt _ _ _
    rw [hob]; exact ho
  have HBD : Hid (∀ w', But (fun k => k = b) w w' → ObsAt w' vL s'.obs) := fun w' hb => by
    obtain ⟨q, c, rfl⟩ := HO.out.form
    rcases HO.out with h | ⟨g, o, cap, hv, hl, hcc⟩
    · exact Or.inl h
    · by_cases hne : s'.obs = []
      · exact Or.inl ⟨some ⟨g, o, none⟩, cap, by rw [hv, hne]; rfl, fun e => (nomatch e), hne⟩
      · have hg := off_store hm HO.out g o cap _ hv hne
        refine Or.inr ⟨g, o, cap, hv, hl, fun j hj => ?_⟩
        obtain ⟨x0, x1, x2⟩ := hcc j hj
        exact ⟨hb.keep hg x0, hb.keep hg x1, hb.keep hg x2⟩
  have HC0 : Hid (w.cell? ⟨b, 0, none⟩ = some vL) := hm.cells.1
  clear HC HS HO e0 hm ho h2 h3 hob
  by_cases h4 : k < t.size
  · rw [if_pos h4, if_pos h4]
    have h5 : (k : Int) < (t.size : Int) := by omega
    go_enter Tryz.func22, Tryz.ntmps22
    go_wp2_with fail
    refine hwr.mono ?_
    rintro e w1 ⟨rfl, hm1, hb1, hz1⟩
    clear hwr
    have HP : Hid (MPost w b s' w1) := ⟨⟨vL, hm1, HBD.out w1 hb1⟩, hb1, MNew.same HC0.out hm1.cells.1⟩
    clear hm1 hz1
    go_wp2
    go_ret
    exact ⟨rfl, HP.out⟩
  · rw [if_neg h4, if_neg h4]
    have h5 : ¬ (k : Int) < (t.size : Int) := by omega
    go_enter Tryz.func22, Tryz.ntmps22
    go_wp2_with fail
    refine hwr.mono ?_
    rintro e w1 ⟨rfl, hm1, hb1, hz1⟩
    clear hwr
    have hm2 := hm1.set1 t
    have hob1 := HBD.out w1 hb1
    have HP : Hid (MPost w b { s' with head := t } (w1.setCell ⟨b, 1, none⟩ (.string t))) := by
      obtain ⟨q, c, hq⟩ := hob1.form
      subst hq
      exact ⟨⟨_, hm2, hob1.set_off (off_store hm1 hob1) 1 _⟩, hb1.setCell (Or.inl rfl) _, MNew.same HC0.out hm2.cells.1⟩
    obtain ⟨-, x1, -, -, -, xf⟩ := hm1.cells
    clear hm1 hm2 hob1 hz1
    go_wp2
    go_ret
    exact ⟨rfl, HP.out⟩
end Go.Proofs.YtmcfklkpdhgjdaaGreatDoor
