/-
  A store of the program's beside the document's own: what each method leaves of both.
-/
import Derived.Test.YtmcfklkpdhgjdaaGreatDoorStoreActs1
namespace Go.Proofs.YtmcfklkpdhgjdaaGreatDoor
open Go.RowKit Go.Extern.Stop Go.Stop Go.Extern Go.Sort Go.Shelf Go.Lib

/-- The program's store has s, the document's (at block b) has r; neither lies in the other's blocks. -/
structure Both (EM : World → Prop) (SAt : World → Value → (Nat → Prop) → St → Prop) (B : Nat) (w0 W : World) (v : Value) (FP : Nat → Prop) (s : St) (b : Nat) (r : St) : Prop where
  ok : SOk EM SAt B w0 W v FP s
  mat : MAt W b r
  off : ¬ FP b
  le : B ≤ b
  objs : ∀ vL, W.cell? ⟨b, 0, none⟩ = some vL → r.obs ≠ [] → ∀ a n c, vL = .slice (some a) n c → ¬ FP a.block

theorem MAt.cell {W : World} {b : Nat} {r : St} (h : MAt W b r) : ∃ vL, W.cell? ⟨b, 0, none⟩ = some vL ∧ MC W b vL r ∧ ObsAt W vL r.obs := by
  obtain ⟨vL, h1, h2⟩ := h
  exact ⟨vL, h1.cells.1, h1, h2⟩
theorem MAt.lt {W : World} {b : Nat} {r : St} (h : MAt W b r) : b < W.heap.size := by
  obtain ⟨vL, h1, _⟩ := h
  exact h1.lt
theorem obs_but2 {W W' : World} {P : Nat → Prop} {v : Value} {l : List Ob} (h : ObsAt W v l) (ho : l ≠ [] → ∀ a n c, v = .slice (some a) n c → ¬ P a.block) (hb : But P W W') : ObsAt W' v l := by
  rcases h with h | ⟨b, o, c, hv, hl, hc⟩
  · exact Or.inl h
  · by_cases hne : l = []
    · exact Or.inl ⟨some ⟨b, o, none⟩, c, by rw [hv, hne]; rfl, fun e => (nomatch e), hne⟩
    · have hn := ho hne _ _ _ hv
      exact Or.inr ⟨b, o, c, hv, hl, fun j hj => ⟨hb.keep hn (hc j hj).1, hb.keep hn (hc j hj).2.1, hb.keep hn (hc j hj).2.2⟩⟩
theorem obs_lt {W : World} {v : Value} {l : List Ob} (h : ObsAt W v l) (hne : l ≠ []) {a : Addr} {n c : Nat} (e : v = .slice (some a) n c) : a.block < W.heap.size := by
  rcases h with ⟨_, _, _, _, e'⟩ | ⟨b, o, c', hv, hl, hc⟩
  · exact absurd e' hne
  · rw [hv] at e
    simp only [Value.slice.injEq, Option.some.injEq] at e
    rw [← e.1]
    exact cell_lt (hc 0 (List.length_pos_iff.2 hne)).1

section
variable {a : Nat → Addr} {B : Nat} {EM : World → Prop} {SAt : World → Value → (Nat → Prop) → St → Prop}

theorem Both.quiet (K : StoreK a B EM SAt) {w0 W w' : World} {v : Value} {FP : Nat → Prop} {s r : St} {b : Nat} (h : Both EM SAt B w0 W v FP s b r) (hb : Below W.heap.size W w') : Both EM SAt B w0 w' v FP s b r := by
  refine ⟨h.ok.quiet K hb, h.mat.below hb, h.off, h.le, fun vL hv hne => ?_⟩
  obtain ⟨vL', h1, _, _⟩ := h.mat.cell
  rw [below_keep hb h1] at hv
  cases hv
  exact h.objs _ h1 hne

theorem Both.prog (K : StoreK a B EM SAt) {w0 W w' : World} {v : Value} {FP : Nat → Prop} {s s' r : St} {b : Nat} (h : Both EM SAt B w0 W v FP s b r) (hp : SPost SAt W v FP s' w') : ∃ FP', Both EM SAt B w0 w' v FP' s' b r ∧ But FP W w' ∧ ∀ k, FP' k → FP k ∨ W.heap.size ≤ k := by
  obtain ⟨FP', h1, h2, h3⟩ := h.ok.post K hp
  obtain ⟨vL, c1, c2, c3⟩ := h.mat.cell
  have hc : w'.cell? ⟨b, 0, none⟩ = some vL := h2.keep h.off c1
  refine ⟨FP', ⟨h1, ⟨vL, c2.but h2 h.off, obs_but2 c3 (fun hne a n c e => h.objs _ c1 hne a n c e) h2⟩, fun hF => ?_, h.le, fun vL' hv hne a n c e hF => ?_⟩, h2, h3⟩
  · rcases h3 b hF with h4 | h4
    · exact h.off h4
    · have := h.mat.lt; omega
  · rw [hc] at hv
    cases hv
    rcases h3 _ hF with h4 | h4
    · exact h.objs _ c1 hne a n c e h4
    · have := obs_lt c3 hne e; omega

theorem Both.doc (K : StoreK a B EM SAt) {w0 W w' : World} {v : Value} {FP : Nat → Prop} {s r r' : St} {b : Nat} (h : Both EM SAt B w0 W v FP s b r) (hp : MPost W b r' w') : Both EM SAt B w0 w' v FP s b r' := by
  obtain ⟨h1, h2, h3⟩ := hp
  have hB := K.size _ h.ok.env
  have hb : Below B W w' := h2.below hB (fun k e => by rw [e]; exact h.le)
  refine ⟨⟨K.below _ _ h.ok.env hb, h.ok.frame.trans hb, h.ok.le, K.keep _ _ _ _ _ _ h.ok.at_ h2 (fun k hk e => h.off (e ▸ hk)), h.ok.new⟩, h1, h.off, h.le, fun vL' hv hne a n c e hF => ?_⟩
  obtain ⟨vL, c1, c2, c3⟩ := h.mat.cell
  obtain ⟨vL2, d1, d2⟩ := h3 vL c1
  rw [d1] at hv
  cases hv
  rcases d2 with d2 | d2
  · subst d2
    obtain ⟨u, u1, _, u3⟩ := h1.cell
    rw [d1] at u1
    cases u1
    obtain ⟨p1, q1, e1⟩ := c3.form
    obtain ⟨p2, q2, e2⟩ := u3.form
    rw [e1] at e2
    simp only [Value.slice.injEq] at e2
    refine h.objs _ c1 (fun e0 => hne ?_) a n c e hF
    rw [e0] at e2
    exact List.length_eq_zero_iff.1 e2.2.1.symm
  · have := d2 a n c e
    have := K.lt _ _ _ _ _ h.ok.at_ hF
    omega
end
end Go.Proofs.YtmcfklkpdhgjdaaGreatDoor
