/-
  An act in memory beside both stores.
-/
import Derived.Test.YtmcfklkpdhgjdaaGreatDoorStoreActs2
import Derived.Deep.RegionHeld3
namespace Go.Proofs.YtmcfklkpdhgjdaaGreatDoor
open Go.RowKit Go.Extern.Stop Go.Stop Go.Extern Go.Sort Go.Shelf Go.Lib

/-- The cells of an act at a block. -/
def ActC (W : World) (A : Nat) (x : Ac) : Prop := W.cell? ⟨A, 0, none⟩ = some (.string x.1) ∧ W.cell? ⟨A, 1, none⟩ = some (.string x.2.1) ∧ W.cell? ⟨A, 2, none⟩ = some (.string x.2.2.1) ∧ W.cell? ⟨A, 3, none⟩ = some (.int .i64 x.2.2.2)

/-- Both stores, and an act that lies in neither's blocks. -/
def Trip (EM : World → Prop) (SAt : World → Value → (Nat → Prop) → St → Prop) (B : Nat) (w0 W : World) (v : Value) (s : St) (b : Nat) (r : St) (A : Nat) (x : Ac) : Prop :=
  ∃ FP, Both EM SAt B w0 W v FP s b r ∧ ¬ FP A ∧ A ≠ b ∧ ActC W A x

section
variable {a : Nat → Addr} {B : Nat} {EM : World → Prop} {SAt : World → Value → (Nat → Prop) → St → Prop} {w0 W w' : World} {v : Value} {s s' r r' : St} {b A : Nat} {x : Ac}

theorem Trip.quiet (K : StoreK a B EM SAt) (h : Trip EM SAt B w0 W v s b r A x) (hb : Below W.heap.size W w') : Trip EM SAt B w0 w' v s b r A x := by
  obtain ⟨FP, h1, h2, h3, c0, c1, c2, c3⟩ := h
  exact ⟨FP, h1.quiet K hb, h2, h3, below_keep hb c0, below_keep hb c1, below_keep hb c2, below_keep hb c3⟩
/-- A call on the program's store, in the midst of the three. -/
theorem Trip.call (K : StoreK a B EM SAt) {f : Nat} {vs : Array Value} {R : Value} (h : Trip EM SAt B w0 W v s b r A x) (hc : ∀ FP, SAt W v FP s → Calls Tryz.prog f vs W fun e w' => e = .returned R ∧ SPost SAt W v FP s' w') :
    Calls Tryz.prog f vs W fun e w' => e = .returned R ∧ Trip EM SAt B w0 w' v s' b r A x := by
  obtain ⟨FP, h1, h2, h3, c0, c1, c2, c3⟩ := h
  refine (hc FP h1.ok.at_).mono fun e w' ⟨he, hp⟩ => ⟨he, ?_⟩
  obtain ⟨FP2, g1, g2, g3⟩ := h1.prog K hp
  refine ⟨FP2, g1, fun hF => ?_, h3, g2.keep h2 c0, g2.keep h2 c1, g2.keep h2 c2, g2.keep h2 c3⟩
  rcases g3 A hF with h4 | h4
  · exact h2 h4
  · have h5 : A < W.heap.size := cell_lt c0
    omega
theorem Trip.doc (K : StoreK a B EM SAt) (h : Trip EM SAt B w0 W v s b r A x) (hp : MPost W b r' w') : Trip EM SAt B w0 w' v s b r' A x := by
  obtain ⟨FP, h1, h2, h3, c0, c1, c2, c3⟩ := h
  exact ⟨FP, h1.doc K hp, h2, h3, hp.2.1.keep h3 c0, hp.2.1.keep h3 c1, hp.2.1.keep h3 c2, hp.2.1.keep h3 c3⟩
theorem Trip.cells (h : Trip EM SAt B w0 W v s b r A x) : ActC W A x := by
  obtain ⟨_, _, _, _, h⟩ := h
  exact h
theorem Trip.env (h : Trip EM SAt B w0 W v s b r A x) : EM W := by
  obtain ⟨_, h, _⟩ := h
  exact h.ok.env
theorem Trip.mat (h : Trip EM SAt B w0 W v s b r A x) : MAt W b r := by
  obtain ⟨_, h, _⟩ := h
  exact h.mat
theorem Trip.at_ (h : Trip EM SAt B w0 W v s b r A x) : ∃ FP, SAt W v FP s := by
  obtain ⟨FP, h, _⟩ := h
  exact ⟨FP, h.ok.at_⟩
end
end Go.Proofs.YtmcfklkpdhgjdaaGreatDoor
