/-
  Snaps that a call appends one by one.
-/
import Derived.Test.YtbdhdlloihkibaaGreatDoorRefStore1
namespace Go.Proofs.YtbdhdlloihkibaaGreatDoor
open Go.RowKit Go.Extern.Stop Go.Stop Go.Extern Go.Sort Go.Shelf Go.Lib

def getT (l : List Ob) (n : ByteArray) : ByteArray × Nat := match getO l n with
  | some o => (o.2.1, 0)
  | none => (⟨#[]⟩, 6)

set_option maxRecDepth 100000 in
set_option maxHeartbeats 2000000 in
theorem mget_any (b : Nat) (s : St) (n : ByteArray) (w : World) (h : MAt w b s) (hl : s.obs.length ≤ 1000) :
    Calls Tryz.prog 38 #[.pointer (some ⟨b, 0, none⟩), .string n] w fun e w' => e = .returned (.tuple #[.string (getT s.obs n).1, .int .i64 (getT s.obs n).2]) ∧ w' = w := by
  have hf := mfind_any b s n w h hl
  obtain ⟨vL, hm, ho⟩ := h
  have c0 := hm.cells.1
  rcases findI_get s.obs n with ⟨h1, h2⟩ | ⟨j, hj, h1, h2, -, -⟩
  · have e : getT s.obs n = (⟨#[]⟩, 6) := by unfold getT; rw [h2]
    rw [e]
    rw [h1] at hf
    clear h1 h2 e hm ho
    go_enter Tryz.func38, Tryz.ntmps38
    go_wp2_with fail
    refine hf.mono ?_
    rintro e w1 ⟨rfl, rfl⟩
    go_wp2
    go_ret2
    exact ⟨rfl, rfl⟩
  · have e : getT s.obs n = (s.obs[j].2.1, 0) := by unfold getT; rw [h2]
    rw [e]
    dsimp only
    rw [h1] at hf
    obtain ⟨q, cap, rfl⟩ := ho.form
    obtain ⟨g, o, hq, hc⟩ := ho.cells (fun e => by rw [e] at hj; simp at hj)
    subst hq
    have c1 := (hc j hj).2.1
    generalize s.obs[j].2.1 = t at c1
    have hi : (j : Int) < (s.obs.length : Int) := by omega
    have hi0 : (0 : Int) ≤ (j : Int) := by omega
    have hn : ¬ (j : Int) < 0 := by omega
    generalize s.obs.length = L at c0 hi
    clear h1 h2 e hm ho hc hj
    go_enter Tryz.func38, Tryz.ntmps38
    go_wp2_with fail
    refine hf.mono ?_
    rintro e w1 ⟨rfl, rfl⟩
    go_wp2
    go_ret2
    exact ⟨rfl, rfl⟩

theorem mpost_set {W : World} {b : Nat} {vL : Value} {s s' : St} {k : Nat} {z : Value} (h : MC W b vL s) (ho : ObsAt W vL s.obs) (h' : MC (W.setCell ⟨b, k, none⟩ z) b vL s') (e : s'.obs = s.obs) : MPost W b s' (W.setCell ⟨b, k, none⟩ z) := by
  obtain ⟨q, c, rfl⟩ := ho.form
  refine ⟨⟨_, h', ?_⟩, (But.refl (fun k => k = b) W).setCell (Or.inl rfl) _, MNew.same h.cells.1 h'.cells.1⟩
  rw [e]
  exact ho.set_off (off_store h ho) k z

set_option maxRecDepth 100000 in
theorem setCut_any (b : Nat) (s : St) (n : Int) (w : World) (h : MAt w b s) :
    Calls Tryz.prog 44 #[.pointer (some ⟨b, 0, none⟩), .int .i64 n] w fun e w' => e = .returned (.int .i64 (cutC s n)) ∧ MPost w b (cutS s n) w' := by
  have HM : Hid (MAt w b s) := h
  obtain ⟨vL, hm, ho⟩ := h
  obtain ⟨-, -, -, c3, c4, cf⟩ := hm.cells
  by_cases h1 : n < 0
  · have e1 : cutC s n = 2 := by unfold cutC; rw [if_pos h1]
    have e2 : cutS s n = s := by unfold cutS; rw [e1]; rfl
    rw [e1, e2]
    clear e1 e2 hm ho
    go_enter Tryz.func44, Tryz.ntmps44
    go_wp2
    go_ret
    exact ⟨rfl, HM.out, But.refl _ _, MNew.refl _ _⟩
  · cases h2 : s.off
    · have e1 : cutC s n = 0 := by unfold cutC; rw [if_neg h1, h2]; rfl
      have e2 : cutS s n = { s with cut := n } := by unfold cutS; rw [e1]; rfl
      rw [e1, e2]
      have HP : Hid (MPost w b { s with cut := n } (w.setCell ⟨b, 4, none⟩ (.int .i64 n))) := mpost_set hm ho (hm.set4 n) rfl
      rw [h2] at c3
      clear e1 e2 hm ho h2
      go_enter Tryz.func44, Tryz.ntmps44
      go_wp2
      go_ret
      exact ⟨rfl, HP.out⟩
    · have e1 : cutC s n = 12 := by unfold cutC; rw [if_neg h1, h2]; rfl
      have e2 : cutS s n = s := by unfold cutS; rw [e1]; rfl
      rw [e1, e2]
      rw [h2] at c3
      clear e1 e2 hm ho h2
      go_enter Tryz.func44, Tryz.ntmps44
      go_wp2
      go_ret
      exact ⟨rfl, HM.out, But.refl _ _, MNew.refl _ _⟩

set_option maxRecDepth 100000 in
theorem on_any (b : Nat) (s : St) (w : World) (h : MAt w b s) :
    Calls Tryz.prog 46 #[.pointer (some ⟨b, 0, none⟩)] w fun e w' => e = .returned (.tuple #[]) ∧ MPost w b (onS s) w' := by
  obtain ⟨vL, hm, ho⟩ := h
  obtain ⟨-, -, -, c3, c4, cf⟩ := hm.cells
  have hm1 := hm.set3 false
  have hm2 := hm1.set4 (-1)
  obtain ⟨-, -, -, d3, d4, df⟩ := hm1.cells
  dsimp only at d3 d4
  obtain ⟨q, c, rfl⟩ := ho.form
  have ho1 := ho.set_off (off_store hm ho) 3 (.bool false)
  have ho2 := ho1.set_off (off_store hm1 ho1) 4 (.int .i64 (-1))
  have HP : Hid (MPost w b (onS s) ((w.setCell ⟨b, 3, none⟩ (.bool false)).setCell ⟨b, 4, none⟩ (.int .i64 (-1)))) := ⟨⟨_, hm2, ho2⟩, ((But.refl (fun k => k = b) w).setCell (Or.inl rfl) _).setCell (Or.inl rfl) _, MNew.same hm.cells.1 hm2.cells.1⟩
  clear hm hm1 hm2 ho ho1 ho2
  go_enter Tryz.func46, Tryz.ntmps46
  go_wp2
  go_end0
  exact ⟨rfl, HP.out⟩

set_option maxRecDepth 100000 in
set_option maxHeartbeats 1000000 in
theorem next_any (b : Nat) (s : St) (n : Int) (w : World) (h : MAt w b s) (hd : 0 ≤ s.day ∧ s.day ≤ 100000) :
    Calls Tryz.prog 48 #[.pointer (some ⟨b, 0, none⟩), .int .i64 n] w fun e w' => e = .returned (.tuple #[.int .i64 (if nextC s n = 0 then s.day + n else 0), .int .i64 (nextC s n)]) ∧ MPost w b (nextS s n) w' := by
  have HM : Hid (MAt w b s) := h
  obtain ⟨vL, hm, ho⟩ := h
  obtain ⟨-, -, c2, -, -, cf⟩ := hm.cells
  have hw : IntKind.i64.wrap (100000 - s.day) = 100000 - s.day := IntWalk.i64_in _ (by omega)
  by_cases h1 : n < 0
  · have e1 : nextC s n = 2 := by unfold nextC; rw [if_pos (Or.inl h1)]
    have e2 : nextS s n = s := by unfold nextS; rw [e1]; rfl
    rw [e1, e2, if_neg (by decide)]
    clear e1 e2 hm ho
    go_enter Tryz.func48, Tryz.ntmps48
    go_wp2
    go_ret2
    exact ⟨rfl, HM.out, But.refl _ _, MNew.refl _ _⟩
  · by_cases h2 : 100000 - s.day < n
    · have e1 : nextC s n = 2 := by unfold nextC; rw [if_pos (Or.inr h2)]
      have e2 : nextS s n = s := by unfold nextS; rw [e1]; rfl
      rw [e1, e2, if_neg (by decide)]
      clear e1 e2 hm ho
      go_enter Tryz.func48, Tryz.ntmps48
      go_wp2
      go_ret2
      exact ⟨rfl, HM.out, But.refl _ _, MNew.refl _ _⟩
    · have e1 : nextC s n = 0 := by unfold nextC; rw [if_neg (by omega)]
      have e2 : nextS s n = { s with day := s.day + n } := by unfold nextS; rw [e1]; rfl
      rw [e1, e2, if_pos rfl]
      have hw2 : IntKind.i64.wrap (s.day + n) = s.day + n := IntWalk.i64_in _ (by omega)
      have hm2 := hm.set2 (s.day + n)
      have d2 := hm2.cells.2.2.1
      dsimp only at d2
      have HP : Hid (MPost w b { s with day := s.day + n } (w.setCell ⟨b, 2, none⟩ (.int .i64 (s.day + n)))) := mpost_set hm ho hm2 rfl
      clear e1 e2 hm hm2 ho
      go_enter Tryz.func48, Tryz.ntmps48
      go_wp2
      go_ret2
      exact ⟨rfl, HP.out⟩

set_option maxRecDepth 100000 in
set_option maxHeartbeats 2000000 in
theorem mswap_any (b : Nat) (s : St) (old t : ByteArray) (w : World) (h : MAt w b s) (hc : -1 ≤ s.cut ∧ s.cut ≤ 9223372036854775807) (hs : t.size ≤ maxLen) :
    Calls Tryz.prog 42 #[.pointer (some ⟨b, 0, none⟩), .string old, .string t] w fun e w' => e = .returned (.int .i64 (swapC s old t)) ∧ MPost w b (swapS s old t) w' := by
  unfold maxLen at hs
  have HM : Hid (MAt w b s) := h
  obtain ⟨vL, hm, ho⟩ := h
  obtain ⟨-, c1, -, c3, -, cf⟩ := hm.cells
  by_cases h1 : 20000 < t.size
  · have e0 : swapE s old t = 2 := by unfold swapE; rw [if_pos h1]
    have e1 : swapC s old t = 2 := by unfold swapC; rw [e0]; rfl
    have e2 : swapS s old t = s := by unfold swapS; rw [e0]; rfl
    rw [e1, e2]
    have hi : (20000 : Int) < (t.size : Int) := by omega
    clear e0 e1 e2 hm ho
    go_enter Tryz.func42, Tryz.ntmps42
    go_wp2
    go_ret
    exact ⟨rfl, HM.out, But.refl _ _, MNew.refl _ _⟩
  have hi : ¬ (20000 : Int) < (t.size : Int) := by omega
  cases h2 : s.off
  case true =>
    have e0 : swapE s old t = 12 := by unfold swapE; rw [if_neg h1, h2]; rfl
    have e1 : swapC s old t = 12 := by unfold swapC; rw [e0]; rfl
    have e2 : swapS s old t = s := by unfold swapS; rw [e0]; rfl
    rw [e1, e2]
    rw [h2] at c3
    clear e0 e1 e2 hm ho h2
    go_enter Tryz.func42, Tryz.ntmps42
    go_wp2
    go_ret
    exact ⟨rfl, HM.out, But.refl _ _, MNew.refl _ _⟩
  case false =>
  rw [h2] at c3
  by_cases h3 : s.head = old
  case neg =>
    have e0 : swapE s old t = 11 := by unfold swapE; rw [if_neg h1, h2, if_neg (by decide), if_pos h3]
    have e1 : swapC s old t = 11 := by unfold swapC; rw [e0]; rfl
    have e2 : swapS s old t = s := by unfold swapS; rw [e0]; rfl
    rw [e1, e2]
    have d1 := nm_ne h3
    clear e0 e1 e2 hm ho h2 h3
    go_enter Tryz.func42, Tryz.ntmps42
    go_wp2
    go_ret
    exact ⟨rfl, HM.out, But.refl _ _, MNew.refl _ _⟩
  case pos =>
  have e0 : swapE s old t = 0 := by unfold swapE; rw [if_neg h1, h2, if_neg (by decide), if_neg (by simpa using h3)]
  have d1 := nm_eq h3
  have hwr := written_any b vL s t.size w hm (by omega) hc
  have hle := wrtS_le s t.size
  have hob := (wrtS_obs s t.size).1
  have HC : Hid (swapC s old t = if (wrtS s t.size).1 < t.size then 12 else 0) := by show _ = _; unfold swapC; rw [e0]; rfl
  have HS : Hid (swapS s old t = if (wrtS s t.size).1 < t.size then (wrtS s t.size).2 else { (wrtS s t.size).2 with head := t }) := by show _ = _; unfold swapS; rw [e0]; rfl
  rw [HC.out, HS.out]
  generalize wrtS s t.size = R at hwr hle hob
  obtain ⟨k, s'⟩ := R
  dsimp only at hwr hle hob ⊢
  have HO : Hid (ObsAt w vL s'.obs) := by
    show ObsAt _ _ _
    rw [hob]; exact ho
  have HBD : Hid (∀ w', But (fun k => k = b) w w' → ObsAt w' vL s'.obs) := fun w' hb => by
    obtain ⟨q, c, rfl⟩ := HO.out.form
    rcases HO.out with h | ⟨g, o, cap, hv, hl, hcc⟩
    · exact Or.inl h
    · by_cases hne : s'.obs = []
      · exact Or.inl ⟨some ⟨g, o, none⟩, cap, by rw [hv, hne]; rfl, fun e => (nomatch e), hne⟩
      · have hg := off_store hm HO.out g o cap _ hv hne
        refine Or.inr ⟨g, o, cap, hv, hl, fun j hj => ?_⟩
        obtain ⟨x0, x1, x2⟩ := hcc j hj
        exact ⟨hb.keep hg x0, hb.keep hg x1, hb.keep hg x2⟩
  have HC0 : Hid (w.cell? ⟨b, 0, none⟩ = some vL) := hm.cells.1
  clear HC HS HO e0 hm ho h2 h3 hob
  by_cases h4 : k < t.size
  · rw [if_pos h4, if_pos h4]
    have h5 : (k : Int) < (t.size : Int) := by omega
    go_enter Tryz.func42, Tryz.ntmps42
    go_wp2_with fail
    refine hwr.mono ?_
    rintro e w1 ⟨rfl, hm1, hb1, hz1⟩
    clear hwr
    have HP : Hid (MPost w b s' w1) := ⟨⟨vL, hm1, HBD.out w1 hb1⟩, hb1, MNew.same HC0.out hm1.cells.1⟩
    clear hm1 hz1
    go_wp2
    go_ret
    exact ⟨rfl, HP.out⟩
  · rw [if_neg h4, if_neg h4]
    have h5 : ¬ (k : Int) < (t.size : Int) := by omega
    go_enter Tryz.func42, Tryz.ntmps42
    go_wp2_with fail
    refine hwr.mono ?_
    rintro e w1 ⟨rfl, hm1, hb1, hz1⟩
    clear hwr
    have hm2 := hm1.set1 t
    have hob1 := HBD.out w1 hb1
    have HP : Hid (MPost w b { s' with head := t } (w1.setCell ⟨b, 1, none⟩ (.string t))) := by
      obtain ⟨q, c, hq⟩ := hob1.form
      subst hq
      exact ⟨⟨_, hm2, hob1.set_off (off_store hm1 hob1) 1 _⟩, hb1.setCell (Or.inl rfl) _, MNew.same HC0.out hm2.cells.1⟩
    obtain ⟨-, x1, -, -, -, xf⟩ := hm1.cells
    clear hm1 hm2 hob1 hz1
    go_wp2
    go_ret
    exact ⟨rfl, HP.out⟩
end Go.Proofs.YtbdhdlloihkibaaGreatDoor
namespace Go.Proofs.YtbdhdlloihkibaaGreatDoor
open Go.RowKit Go.Extern.Stop Go.Stop Go.Extern Go.Sort Go.Shelf Go.Lib

def TxsAt (w : World) (v : Value) (ts : List ByteArray) : Prop :=
  (∃ p c, v = .slice p 0 c ∧ ts = []) ∨ ∃ b o cap, v = .slice (some ⟨b, o, none⟩) ts.length cap ∧ ∀ j (h : j < ts.length), w.cell? ⟨b, o + j, none⟩ = some (.string ts[j])
theorem TxsAt.below {w w' : World} {v : Value} {ts : List ByteArray} (h : TxsAt w v ts) (hb : Below w.heap.size w w') : TxsAt w' v ts := by
  rcases h with h | ⟨b, o, cap, hv, hc⟩
  · exact Or.inl h
  · exact Or.inr ⟨b, o, cap, hv, fun j hj => below_keep hb (hc j hj)⟩
theorem TxsAt.form {w : World} {v : Value} {ts : List ByteArray} (h : TxsAt w v ts) : ∃ q c, v = .slice q ts.length c := by
  rcases h with ⟨p, c, rfl, rfl⟩ | ⟨b, o, cap, rfl, _⟩
  · exact ⟨p, c, rfl⟩
  · exact ⟨_, cap, rfl⟩
theorem TxsAt.at {w : World} {q : Option Addr} {n c : Nat} {ts : List ByteArray} (h : TxsAt w (.slice q n c) ts) (hne : ts ≠ []) : ∃ b o, q = some ⟨b, o, none⟩ ∧ ∀ j (h : j < ts.length), w.cell? ⟨b, o + j, none⟩ = some (.string ts[j]) := by
  rcases h with ⟨p, c', _, e⟩ | ⟨b, o, cap, e, hc⟩
  · exact absurd e hne
  · injection e with e1
    exact ⟨b, o, e1, hc⟩
theorem txs_of_own {w : World} {base : Nat} {v : Value} {ts : List ByteArray} (h : w.ownsRow base 9 1 v ts.length (ts.map Value.string)) : TxsAt w v ts := by
  obtain ⟨hl, h⟩ := h
  rcases h with ⟨hv, hn⟩ | ⟨g, cap, cur, rfl, _, hg, hcp, _, _, ht⟩
  · exact Or.inl ⟨none, 0, by rw [hv], List.length_eq_zero_iff.1 hn⟩
  · refine Or.inr ⟨g, 0, cap, rfl, fun j hj => ?_⟩
    have hu : (ts.map Value.string)[j]? = some (.string ts[j]) := by simp [hj]
    rw [← ht, List.getElem?_take, if_pos (by simpa using hj)] at hu
    simp only [World.cell?, hg, Nat.zero_add]
    simpa using hu

set_option maxRecDepth 100000 in
set_option maxHeartbeats 1000000 in
theorem sameTexts_yes (v v' : Value) (ts : List ByteArray) (w : World) (h : TxsAt w v ts) (h' : TxsAt w v' ts) (hl : ts.length ≤ 1000) :
    Calls Tryz.prog 12 #[v, v'] w fun e w' => e = .returned (.bool true) ∧ Below w.heap.size w w' := by
  obtain ⟨q, c, rfl⟩ := h.form
  obtain ⟨q', c', rfl⟩ := h'.form
  have HA : Hid (TxsAt w (.slice q ts.length c) ts) := h
  have HB : Hid (TxsAt w (.slice q' ts.length c') ts) := h'
  obtain ⟨L, hL⟩ : ∃ L, ts.length = L := ⟨_, rfl⟩
  have HX : Hid (ts.length = L) := hL
  rw [hL] at hl ⊢
  clear hL h h'
  go_enter Tryz.func12, Tryz.ntmps12
  go_wp2
  go_loopw [5] (fun k wr => ∃ n : Nat, n ≤ L ∧ k = .int .i64 n ∧ Below w.heap.size w wr) (fun k _ => L - (intOf k).toNat)
  case atStart => exact ⟨0, by omega, rfl, Below.refl _ _⟩
  case round =>
    obtain ⟨n, hn, rfl, hb⟩ := hrel
    by_cases hlt : n < L
    · have hltx : n < ts.length := by rw [HX.out]; exact hlt
      have hne : ts ≠ [] := fun e => by rw [e] at hltx; simp at hltx
      obtain ⟨g, o, hq, hc⟩ := (HA.out.below hb).at hne
      obtain ⟨g', o', hq', hc'⟩ := (HB.out.below hb).at hne
      subst hq
      subst hq'
      have c1 := hc n hltx
      have c2 := hc' n hltx
      generalize ts[n] = t at c1 c2
      have d1 : (t.toList == t.toList) = true := by simp
      have hi : (n : Int) < (L : Int) := by omega
      have hi0' : (0 : Int) ≤ (n : Int) := by omega
      clear hc hc' hltx hne
      go_wp2_with fail
      go_quiet (fail)
      have hbd : Below w.heap.size w (wr.drewN nq) := below_drewN hb nq
      clear c1 c2
      generalize wr.drewN nq = W5 at hbd ⊢
      go_wp2
      go_roundw
      case rel => exact ⟨n + 1, by omega, by go_num, hbd⟩
      case measure => simp [intOf]; omega
    · obtain rfl : n = L := by omega
      go_wp2
      go_ret
      exact ⟨rfl, hb⟩
end Go.Proofs.YtbdhdlloihkibaaGreatDoor
namespace Go.Proofs.YtbdhdlloihkibaaGreatDoor
open Go.RowKit Go.Extern.Stop Go.Stop Go.Extern

theorem take_upto {fx fy : Nat → Int} {n : Nat} (h : ∀ i, i < n → fx i = fy i) (e : fx n = fy n) : ∀ i, i < n + 1 → fx i = fy i := fun i hi => by
  rcases Nat.lt_or_ge i n with h' | h'
  · exact h i h'
  · obtain rfl : i = n := by omega
    exact e

theorem sameInts_eq (w : World) (b o b' o' cap cap' L : Nat) (fx fy : Nat → Int) (hL : L ≤ maxLen)
    (hcx : ∀ i, i < L → w.cell? ⟨b, o + i, none⟩ = some (.int .i64 (fx i))) (hcy : ∀ i, i < L → w.cell? ⟨b', o' + i, none⟩ = some (.int .i64 (fy i))) :
    Calls Tryz.prog 9 #[.slice (some ⟨b, o, none⟩) L cap, .slice (some ⟨b', o', none⟩) L cap'] w fun e w' => (∃ r : Bool, e = .returned (.bool r) ∧ (r = true ↔ ∀ i, i < L → fx i = fy i)) ∧ ∃ n, w' = w.drewN n := by
  unfold maxLen at hL
  go_enter Tryz.func9, Tryz.ntmps9
  go_wp2
  go_loopw [5] (fun k wr => ∃ n : Nat, n ≤ L ∧ (∀ i, i < n → fx i = fy i) ∧ k = .int .i64 n ∧ ∃ m, wr = w.drewN m) (fun k _ => L - (intOf k).toNat)
  case atStart => exact ⟨0, by omega, by omega, rfl, 0, rfl⟩
  case round =>
    obtain ⟨n, hn, ht, rfl, m, rfl⟩ := hrel
    have HT : Hid (∀ i, i < n → fx i = fy i) := ht
    clear ht
    by_cases hlt : n < L
    · have h1 := hcx n hlt
      have h2 := hcy n hlt
      have hi : (n : Int) < (L : Int) := by omega
      generalize hfx : fx n = p at h1
      generalize hfy : fy n = q at h2
      have HX : Hid (fx n = p) := hfx
      have HY : Hid (fy n = q) := hfy
      clear hfx hfy hcx hcy
      by_cases e : p = q
      · subst e
        go_wp2
        go_quiet (fail)
        go_wp2
        go_roundw
        case rel => exact ⟨n + 1, by omega, take_upto HT.out (HX.out.trans HY.out.symm), by go_num, _, rfl⟩
        case measure => simp [intOf]; omega
      · go_wp2
        go_quiet (fail)
        go_wp2
        go_ret
        exact ⟨⟨false, rfl, by simp; exact ⟨n, hlt, by rw [HX.out, HY.out]; exact e⟩⟩, _, World.drewN_drewN _ _ _⟩
    · have hn' : n = L := by omega
      subst hn'
      go_wp2
      go_ret
      exact ⟨⟨true, rfl, by simpa using HT.out⟩, m, rfl⟩
end Go.Proofs.YtbdhdlloihkibaaGreatDoor
namespace Go.Proofs.YtbdhdlloihkibaaGreatDoor
open Go.RowKit Go.Extern.Stop Go.Stop Go.Extern Go.Sort Go.Shelf Go.Lib

set_option maxRecDepth 100000 in
set_option maxHeartbeats 1000000 in
theorem sameInts_yes (v v' : Value) (zs : List Int) (w : World) (h : KeysAt w v zs) (h' : KeysAt w v' zs) (hl : zs.length ≤ 20000) :
    Calls Tryz.prog 9 #[v, v'] w fun e w' => e = .returned (.bool true) ∧ Below w.heap.size w w' := by
  by_cases hz : zs = []
  · subst hz
    obtain ⟨q, c, rfl⟩ := h.form
    obtain ⟨q', c', rfl⟩ := h'.form
    simp only [List.length_nil]
    clear h h' hl
    go_enter Tryz.func9, Tryz.ntmps9
    go_wp2
    refine wp_loop_rounds 1 ?_
    rw [rounds_succ]
    go_wp2
    go_ret
    exact ⟨rfl, Below.refl _ _⟩
  · rcases h with ⟨_, _, _, e⟩ | ⟨b, o, cap, rfl, hc⟩
    · exact absurd e hz
    rcases h' with ⟨_, _, _, e⟩ | ⟨b', o', cap', rfl, hc'⟩
    · exact absurd e hz
    have hs := sameInts_eq w b o b' o' cap cap' zs.length (fun i => zs.getD i 0) (fun i => zs.getD i 0) (by unfold maxLen; omega) (fun i hi => by rw [getD_of hi]; exact hc i hi) (fun i hi => by rw [getD_of hi]; exact hc' i hi)
    refine hs.mono fun e w' ⟨⟨r, he, hr⟩, n, hw⟩ => ⟨?_, ?_⟩
    · rw [he, hr.2 (fun _ _ => rfl)]
    · rw [hw]; exact below_drewN (Below.refl _ _) n
end Go.Proofs.YtbdhdlloihkibaaGreatDoor
namespace Go.Proofs.YtbdhdlloihkibaaGreatDoor
open Go.RowKit Go.Extern.Stop Go.Stop Go.Extern Go.Sort Go.Shelf Go.Lib

def SnOk (s : Sn) : Prop := (-9223372036854775808 ≤ s.1 ∧ s.1 ≤ 9223372036854775807) ∧ (-9223372036854775808 ≤ s.2.2.2.1 ∧ s.2.2.2.1 ≤ 9223372036854775807)
structure ExpK (E : World → Prop) : Prop where
  stay : ∀ {W W' : World}, E W → Below W.heap.size W W' → E W'
  keep : ∀ (v : Value) (ss : List Sn) (day age count : Int) (W : World), E W → SnsAt W v ss → ss.length ≤ 10 → (∀ s ∈ ss, SnOk s) → Calls Tryz.prog 10 #[v, .int .i64 day, .int .i64 age, .int .i64 count] W fun e W' => ∃ v', e = .returned v' ∧ KeysAt W' v' (keepL day age count ss) ∧ Below W.heap.size W W'
  reach : ∀ (v : Value) (ss : List Sn) (W : World), E W → SnsAt W v ss → ss.length ≤ 10 → (∀ s ∈ ss, SnOk s) → (∀ s ∈ ss, s.2.2.2.2.2.2.length ≤ 61) → Calls Tryz.prog 13 #[v] W fun e W' => ∃ v', e = .returned v' ∧ TxsAt W' v' (reachL ss) ∧ Below W.heap.size W W'

def exS : List Sn := [(1, 0, 0, 0, 0, ⟨#[]⟩, []), (2, 0, 0, 3, 0, ⟨#[]⟩, []), (4, 0, 0, 4, 0, ⟨#[]⟩, [])]
theorem ex_keep : keepL 9 6 0 exS = [2, 4] := by decide
theorem ex_reach : reachL (exS.take 1) = [⟨#[115, 110, 97, 112, 47, 49]⟩] := by
  have e : snpB 1 = ⟨#[115, 110, 97, 112, 47, 49]⟩ := by
    have h : itoa 1 = [49] := by
      have h : decDigits 1 = [49] := by rw [decDigits]; rfl
      simp [itoa, h]
    unfold snpB
    rw [h]
    rfl
  show [snpB 1] = _
  rw [e]
theorem ex_ok : ∀ s ∈ exS, SnOk s := by
  intro s hs
  simp only [exS, List.mem_cons, List.not_mem_nil, or_false] at hs
  unfold SnOk
  rcases hs with rfl | rfl | rfl <;> (dsimp only; omega)
theorem ex_at {W : World} {b : Nat} (h : W.heap[b]? = some (.cells #[.int .i64 1, .int .i64 0, .int .i64 0, .int .i64 0, .int .i64 0, .string ⟨#[]⟩, .slice none 0 0, .int .i64 2, .int .i64 0, .int .i64 0, .int .i64 3, .int .i64 0, .string ⟨#[]⟩, .slice none 0 0, .int .i64 4, .int .i64 0, .int .i64 0, .int .i64 4, .int .i64 0, .string ⟨#[]⟩, .slice none 0 0] 30 (0, 0))) :
    SnCells W b 0 exS := by
  have hc : ∀ o v, (#[Value.int .i64 1, .int .i64 0, .int .i64 0, .int .i64 0, .int .i64 0, .string ⟨#[]⟩, .slice none 0 0, .int .i64 2, .int .i64 0, .int .i64 0, .int .i64 3, .int .i64 0, .string ⟨#[]⟩, .slice none 0 0, .int .i64 4, .int .i64 0, .int .i64 0, .int .i64 4, .int .i64 0, .string ⟨#[]⟩, .slice none 0 0])[o]? = some v → W.cell? ⟨b, o, none⟩ = some v := fun o v e => by
    rw [cell_of_row _ _ _ _ _ _ h]
    exact e
  intro j hj
  match j, hj with
  | 0, _ => exact ⟨hc 0 _ rfl, hc 3 _ rfl, _, hc 6 _ rfl, Or.inl ⟨_, _, rfl, fun _ => rfl, rfl⟩, hc 1 _ rfl, hc 2 _ rfl, hc 4 _ rfl, hc 5 _ rfl⟩
  | 1, _ => exact ⟨hc 7 _ rfl, hc 10 _ rfl, _, hc 13 _ rfl, Or.inl ⟨_, _, rfl, fun _ => rfl, rfl⟩, hc 8 _ rfl, hc 9 _ rfl, hc 11 _ rfl, hc 12 _ rfl⟩
  | 2, _ => exact ⟨hc 14 _ rfl, hc 17 _ rfl, _, hc 20 _ rfl, Or.inl ⟨_, _, rfl, fun _ => rfl, rfl⟩, hc 15 _ rfl, hc 16 _ rfl, hc 18 _ rfl, hc 19 _ rfl⟩

set_option maxRecDepth 100000 in
set_option maxHeartbeats 8000000 in
theorem expired_any {E : World → Prop} (K : ExpK E) (w : World) (h : E w) :
    Calls Tryz.prog 5 #[] w fun e w' => e = .returned (.bool true) ∧ Below w.heap.size w w' := by
  have hal : Below w.heap.size w (w.alloc (.cells #[.int .i64 1, .int .i64 0, .int .i64 0, .int .i64 0, .int .i64 0, .string ⟨#[]⟩, .slice none 0 0, .int .i64 2, .int .i64 0, .int .i64 0, .int .i64 3, .int .i64 0, .string ⟨#[]⟩, .slice none 0 0, .int .i64 4, .int .i64 0, .int .i64 0, .int .i64 4, .int .i64 0, .string ⟨#[]⟩, .slice none 0 0] 30)) := (Below.refl _ _).alloc (Nat.le_refl _) _
  have hsn := ex_at (W := w.alloc (.cells #[.int .i64 1, .int .i64 0, .int .i64 0, .int .i64 0, .int .i64 0, .string ⟨#[]⟩, .slice none 0 0, .int .i64 2, .int .i64 0, .int .i64 0, .int .i64 3, .int .i64 0, .string ⟨#[]⟩, .slice none 0 0, .int .i64 4, .int .i64 0, .int .i64 0, .int .i64 4, .int .i64 0, .string ⟨#[]⟩, .slice none 0 0] 30)) (b := w.heap.size) (heap_alloc_new _ _)
  go_enter Tryz.func5, Tryz.ntmps5
  go_wp2_with fail
  generalize hW1 : w.alloc (.cells #[.int .i64 1, .int .i64 0, .int .i64 0, .int .i64 0, .int .i64 0, .string ⟨#[]⟩, .slice none 0 0, .int .i64 2, .int .i64 0, .int .i64 0, .int .i64 3, .int .i64 0, .string ⟨#[]⟩, .slice none 0 0, .int .i64 4, .int .i64 0, .int .i64 0, .int .i64 4, .int .i64 0, .string ⟨#[]⟩, .slice none 0 0] 30) = W1 at hal hsn ⊢
  clear hW1
  refine (K.keep _ exS 9 6 0 W1 (K.stay h hal) (Or.inr ⟨_, _, _, rfl, by decide, hsn⟩) (by decide) ex_ok).mono ?_
  rintro e w2 ⟨v2, rfl, hk2, hb2⟩
  rw [ex_keep] at hk2
  have hB2 : Below w.heap.size w w2 := hal.trans (hb2.mono hal.size)
  have hal3 : Below w2.heap.size w2 (w2.alloc (.cells #[.int .i64 2, .int .i64 4] 3)) := (Below.refl _ _).alloc (Nat.le_refl _) _
  have hks : KeysAt (w2.alloc (.cells #[.int .i64 2, .int .i64 4] 3)) (.slice (some ⟨w2.heap.size, 0, none⟩) 2 2) [2, 4] := by
    refine .inr ⟨w2.heap.size, 0, 2, rfl, fun j hj => ?_⟩
    match j, hj with
    | 0, _ => simp
    | 1, _ => simp
  have hsi := sameInts_yes v2 _ [2, 4] _ (hk2.below hal3) hks (by decide)
  have HSN : Hid (∀ W, Below W1.heap.size W1 W → SnsAt W (.slice (some ⟨w.heap.size, 0, none⟩) 1 3) (exS.take 1)) := fun W hb => by
    refine Or.inr ⟨_, _, _, rfl, by decide, fun j hj => ?_⟩
    have hj0 : j = 0 := by simp [exS] at hj; omega
    subst hj0
    exact hsn.below hb 0 (by decide)
  clear hsn
  go_wp2_with fail
  refine hsi.mono ?_
  rintro e w3 ⟨rfl, hb3⟩
  have hB3 : Below w.heap.size w w3 := hB2.trans ((hal3.trans (hb3.mono hal3.size)).mono hB2.size)
  have hB13 : Below W1.heap.size W1 w3 := hb2.trans ((hal3.trans (hb3.mono hal3.size)).mono hb2.size)
  clear hsi hks hk2 hal3 hb3 hb2
  go_wp2_with fail
  refine (K.reach _ (exS.take 1) w3 (K.stay h hB3) (HSN.out w3 hB13) (by decide) (fun s hs => ex_ok s (List.mem_of_mem_take hs)) (by decide)).mono ?_
  rintro e w4 ⟨v4, rfl, ht4, hb4⟩
  rw [ex_reach] at ht4
  have hB4 : Below w.heap.size w w4 := hB3.trans (hb4.mono hB3.size)
  have hal5 : Below w4.heap.size w4 (w4.alloc (.cells #[.string ⟨#[115, 110, 97, 112, 47, 49]⟩] 9)) := (Below.refl _ _).alloc (Nat.le_refl _) _
  have hts : TxsAt (w4.alloc (.cells #[.string ⟨#[115, 110, 97, 112, 47, 49]⟩] 9)) (.slice (some ⟨w4.heap.size, 0, none⟩) 1 1) [⟨#[115, 110, 97, 112, 47, 49]⟩] := by
    refine .inr ⟨w4.heap.size, 0, 1, rfl, fun j hj => ?_⟩
    match j, hj with
    | 0, _ => simp
  have hst := sameTexts_yes v4 _ [⟨#[115, 110, 97, 112, 47, 49]⟩] _ (ht4.below hal5) hts (by decide)
  clear HSN
  go_wp2_with fail
  refine hst.mono ?_
  rintro e w5 ⟨rfl, hb5⟩
  have hB5 : Below w.heap.size w w5 := hB4.trans ((hal5.trans (hb5.mono hal5.size)).mono hB4.size)
  clear hst hts ht4 hal5 hb5
  go_wp2
  go_ret
  exact ⟨rfl, hB5⟩
end Go.Proofs.YtbdhdlloihkibaaGreatDoor
namespace Go.Proofs.YtbdhdlloihkibaaGreatDoor
open Go.RowKit Go.Extern.Stop Go.Stop Go.Extern Go.Sort Go.Shelf Go.Lib

def encS (p : Sn × Value) : List Value := [.int .i64 p.1.1, .int .i64 p.1.2.1, .int .i64 p.1.2.2.1, .int .i64 p.1.2.2.2.1, .int .i64 p.1.2.2.2.2.1, .string p.1.2.2.2.2.2.1, p.2]
end Go.Proofs.YtbdhdlloihkibaaGreatDoor
