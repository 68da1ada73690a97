/-
  Errors that tell a fault, and where; short files; a file in a block of its own.
-/
import Derived.Test.YtniipgaacdpncaaGreatDoorRefList6
import Derived.Test.YtniipgaacdpncaaGreatDoorFileNum
namespace Go.Proofs.YtniipgaacdpncaaGreatDoor
open Go.RowKit Go.Extern.Stop Go.Stop Go.Extern Go.Sort Go.Shelf Go.Lib

/-- An error's value tells a fault: its number, and where. -/
def ToldE (W : World) (a : Nat → Addr) (ev : Value) (c : Nat × Option Nat) : Prop := match c.2 with
  | none => ev = errV a c.1
  | some j => c.1 ≠ 0 ∧ ∃ fb, ev = .iface 58 (.pointer (some ⟨fb, 0, none⟩)) ∧ W.cell? ⟨fb, 0, none⟩ = some (.int .i64 j) ∧ W.cell? ⟨fb, 1, none⟩ = some (errV a c.1)

theorem ToldE.ok {W : World} {a : Nat → Addr} {ev : Value} {c : Nat × Option Nat} (h : ToldE W a ev c) (h0 : c.1 = 0) : ev = .nilIface := by
  obtain ⟨n, o⟩ := c
  dsimp only at h0
  subst h0
  cases o with
  | none => exact h
  | some j => exact absurd rfl h.1

theorem ToldE.bad {W : World} {a : Nat → Addr} {ev : Value} {c : Nat × Option Nat} (h : ToldE W a ev c) (h0 : c.1 ≠ 0) : ∃ t u, ev = .iface t u := by
  obtain ⟨n, o⟩ := c
  cases o with
  | none =>
    cases n with
    | zero => exact absurd rfl h0
    | succ n => exact ⟨_, _, h⟩
  | some j =>
    obtain ⟨_, fb, h, _⟩ := h
    exact ⟨_, _, h⟩

/-- A cell that is no number, and the one ahead of it, are as they were. -/
def KeepsC (W W' : World) : Prop := ∀ (fb : Nat) (x : Value), W.cell? ⟨fb, 1, none⟩ = some x → (∀ n : Int, x ≠ .int .i64 n) → W'.cell? ⟨fb, 0, none⟩ = W.cell? ⟨fb, 0, none⟩ ∧ W'.cell? ⟨fb, 1, none⟩ = W.cell? ⟨fb, 1, none⟩

theorem keepsC_below {W W' : World} (hb : Below W.heap.size W W') : KeepsC W W' := by
  intro fb x h _
  have e := hb.block fb (cell_lt h)
  unfold World.cell?
  rw [e]
  exact ⟨rfl, rfl⟩

theorem keepsC_set {W W1 : World} (h : KeepsC W W1) {F : Nat} {x y : Int} (hF : FC W1 F x y) (z z2 : Value) : KeepsC W ((W1.setCell ⟨F, 0, none⟩ z).setCell ⟨F, 1, none⟩ z2) := by
  intro fb u hu hn
  obtain ⟨h0, h1⟩ := h fb u hu hn
  have hne : F ≠ fb := by
    intro e
    subst e
    rw [hF.c1, hu] at h1
    exact hn y (Option.some.inj h1).symm
  rw [← h0, ← h1]
  have hk : ∀ p, ((W1.setCell ⟨F, 0, none⟩ z).setCell ⟨F, 1, none⟩ z2).cell? ⟨fb, p, none⟩ = W1.cell? ⟨fb, p, none⟩ := fun p => by
    rw [World.cell?_setCell_other _ _ _ _ (by intro e; injection e with e; exact hne e), World.cell?_setCell_other _ _ _ _ (by intro e; injection e with e; exact hne e)]
  exact ⟨hk 0, hk 1⟩

theorem ToldE.keep {W W' : World} {a : Nat → Addr} {ev : Value} {c : Nat × Option Nat} (h : ToldE W a ev c) (hk : KeepsC W W') : ToldE W' a ev c := by
  obtain ⟨n, o⟩ := c
  cases o with
  | none => exact h
  | some j =>
    obtain ⟨h0, fb, h1, c0, c1⟩ := h
    obtain ⟨k0, k1⟩ := hk fb _ c1 (fun z e => by
      cases n with
      | zero => exact h0 rfl
      | succ n => simp [errV] at e)
    exact ⟨h0, fb, h1, k0.trans c0, k1.trans c1⟩

def Short (fs : List Fl) : Prop := ∀ g ∈ fs, g.1.size ≤ 30 ∧ g.2.1.size ≤ 30

theorem flsAt_take {w : World} {b o cap : Nat} {fs : List Fl} (h : FlCells w b o fs) {n : Nat} (hn : n ≤ fs.length) (hc : fs.length ≤ cap) : FlsAt w (.slice (some ⟨b, o, none⟩) n cap) (fs.take n) := by
  refine Or.inr ⟨b, o, cap, ?_, ?_, flCells_take h n⟩
  · rw [List.length_take, Nat.min_eq_left hn]
  · rw [List.length_take]; omega

theorem flsAt_drop {w : World} {b o cap L : Nat} {fs : List Fl} (h : FlCells w b o fs) {n : Nat} (hn : n ≤ fs.length) (hc : fs.length ≤ cap) (hL : fs.length = L) : FlsAt w (.slice (some ⟨b, o + n * 6, none⟩) (L - n) (cap - n)) (fs.drop n) := by
  refine Or.inr ⟨b, o + n * 6, cap - n, ?_, ?_, flCells_drop h n⟩
  · rw [List.length_drop, hL]
  · rw [List.length_drop]; omega
end Go.Proofs.YtniipgaacdpncaaGreatDoor
