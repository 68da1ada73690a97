/-
  A snap's block, stored over; what is read of a snap's text.
-/
import Derived.Test.YtpiagofhgalklacGreatDoorRefSnap2
import Derived.Test.YtpiagofhgalklacGreatDoorListRd
import Derived.Test.YtpiagofhgalklacGreatDoorRefList1
namespace Go.Proofs.YtpiagofhgalklacGreatDoor
open Go.RowKit Go.Extern.Stop Go.Stop Go.Extern Go.Sort Go.Shelf Go.Lib

theorem SnAt.fz {W : World} {b : Nat} {s : Sn} {vf : Value} (h : SnAt W b s vf) (o : Nat) : W.frozen? ⟨b, o, none⟩ = false := frozen_of_row _ _ _ _ _ h

/-- A store over a snap's block. -/
def snSet (W : World) (b : Nat) (s : Sn) (vf : Value) : World := ((((((W.setCell ⟨b, 0, none⟩ (.int .i64 s.1)).setCell ⟨b, 1, none⟩ (.int .i64 s.2.1)).setCell ⟨b, 2, none⟩ (.int .i64 s.2.2.1)).setCell ⟨b, 3, none⟩ (.int .i64 s.2.2.2.1)).setCell ⟨b, 4, none⟩ (.int .i64 s.2.2.2.2.1)).setCell ⟨b, 5, none⟩ (.string s.2.2.2.2.2.1)).setCell ⟨b, 6, none⟩ vf
theorem SnAt.set {W : World} {b : Nat} {s : Sn} {vf : Value} (h : SnAt W b s vf) (s' : Sn) (vf' : Value) : SnAt (snSet W b s' vf') b s' vf' := by
  unfold SnAt snSet at *
  rw [heap_setCell_same _ _ _ _ _ _ (heap_setCell_same _ _ _ _ _ _ (heap_setCell_same _ _ _ _ _ _ (heap_setCell_same _ _ _ _ _ _ (heap_setCell_same _ _ _ _ _ _ (heap_setCell_same _ _ _ _ _ _ (heap_setCell_same _ _ _ _ _ _ h))))))]
  rfl
theorem snSet_below {W W0 : World} {B b : Nat} {s : Sn} {vf : Value} (h : Below B W0 W) (hb : B ≤ b) : Below B W0 (snSet W b s vf) := ((((((h.setCell hb _).setCell hb _).setCell hb _).setCell hb _).setCell hb _).setCell hb _).setCell hb _

theorem sn_other {W : World} {F G : Nat} {s : Sn} {vf : Value} (h : SnAt W F s vf) (hne : G ≠ F) (o : Nat) (z : Value) : SnAt (W.setCell ⟨G, o, none⟩ z) F s vf := (heap_setCell_other _ _ _ _ (fun e => hne e.symm)).trans h

/-- Files lie in no snap's block. -/
def OffF (v : Value) (fs : List Fl) (R : Nat) : Prop := ∀ b o c n, v = .slice (some ⟨b, o, none⟩) n c → fs ≠ [] → b ≠ R

theorem off_of {W : World} {R : Nat} {s : Sn} {q : Option Addr} {n c : Nat} {v : Value} {fs : List Fl} (h : SnAt W R s (.slice q n c)) (hr : FlsAt W v fs) : OffF v fs R := by
  intro b o c' n' hv hne e
  subst e
  rcases hr with ⟨_, _, _, _, e⟩ | ⟨b2, o2, c2, e2, _, hc⟩
  · exact hne e
  · rw [e2] at hv
    injection hv with e3
    injection e3 with e3
    injection e3 with e3 e4
    subst e3
    subst e4
    obtain ⟨h0, h1, _⟩ := hc 0 (List.length_pos_iff.2 hne)
    rw [cell_of_row _ _ _ _ _ _ h] at h0 h1
    simp only [Nat.zero_mul, Nat.add_zero] at h0 h1
    match o2, h0, h1 with
    | 0, h0, _ => simp at h0
    | 1, h0, _ => simp at h0
    | 2, h0, _ => simp at h0
    | 3, h0, _ => simp at h0
    | 4, h0, _ => simp at h0
    | 5, _, h1 => simp at h1
    | 6, h0, _ => simp at h0
    | k + 7, h0, _ => simp at h0

theorem FlsAt.set_off {W : World} {R : Nat} {v : Value} {fs : List Fl} (h : FlsAt W v fs) (ho : OffF v fs R) (k : Nat) (z : Value) : FlsAt (W.setCell ⟨R, k, none⟩ z) v fs := by
  rcases h with h | ⟨b, o, c, hv, hl, hc⟩
  · exact Or.inl h
  · by_cases hne : fs = []
    · exact Or.inl ⟨some ⟨b, o, none⟩, c, by rw [hv, hne]; rfl, fun e => (nomatch e), hne⟩
    · have hb := ho b o c _ hv hne
      have hk : ∀ p, (W.setCell ⟨R, k, none⟩ z).cell? ⟨b, p, none⟩ = W.cell? ⟨b, p, none⟩ := fun p => World.cell?_setCell_other _ _ _ _ (by intro e; injection e with e; exact hb e.symm)
      refine Or.inr ⟨b, o, c, hv, hl, fun j hj => ?_⟩
      obtain ⟨h0, h1, h2, h3, h4, h5⟩ := hc j hj
      exact ⟨(hk _).trans h0, (hk _).trans h1, (hk _).trans h2, (hk _).trans h3, (hk _).trans h4, (hk _).trans h5⟩

/-- What ReadSnap hands back. -/
def ReadSP (w : World) (R : Sn × Nat × Option Nat) (e : Ending) (w' : World) : Prop := ∃ vf, e = .returned (.tuple #[snV R.1 vf, .agg #[.int .i64 R.2.1, .int .i64 (atZ R.2.2)]]) ∧ FlsAt w' vf R.1.2.2.2.2.2.2 ∧ Below w.heap.size w w'

theorem readS_big {l : List UInt8} (h : 20000 < l.length) : readS l = (zeroS, 2, none) := by unfold readS; rw [if_pos h]
theorem readS_none {l : List UInt8} (h : ¬ 20000 < l.length) (hc : Lib.cut l [10] = (l, [], false)) : readS l = (zeroS, 1, none) := by unfold readS; rw [if_neg h, hc, if_pos rfl]
theorem readS_cut {l a b : List UInt8} (h : ¬ 20000 < l.length) (hc : Lib.cut l [10] = (a, b, true)) : readS l = match snapO a with
  | none => (zeroS, 1, none)
  | some (x1, x2, x3, x4, x5, op, g) => if g ≠ sumL b then (zeroS, 10, none) else
    if (readL b).2.1 ≠ 0 then (zeroS, (readL b).2) else
    if (snapE (x1, x2, x3, x4, x5, bytesOf op, (readL b).1)).1 ≠ 0 then (zeroS, snapE (x1, x2, x3, x4, x5, bytesOf op, (readL b).1)) else
    ((x1, x2, x3, x4, x5, bytesOf op, (readL b).1), 0, none) := by
  unfold readS
  rw [if_neg h, hc, if_neg (by simp)]
  rfl

theorem snapO_len {a : List UInt8} (h : (words a).length ≠ 8) : snapO a = none := by
  unfold snapO
  split
  · rename_i e; rw [e] at h; simp at h
  · rfl

theorem eight {α : Type} {l : List α} (h : l.length = 8) : ∃ a b c d e f g i, l = [a, b, c, d, e, f, g, i] := by
  match l, h with
  | [a, b, c, d, e, f, g, i], _ => exact ⟨a, b, c, d, e, f, g, i, rfl⟩
theorem five {α : Type} {l : List α} (h : l.length = 5) : ∃ a b c d e, l = [a, b, c, d, e] := by
  match l, h with
  | [a, b, c, d, e], _ => exact ⟨a, b, c, d, e, rfl⟩

theorem snapO_eight {a : List UInt8} {k w1 w2 w3 w4 w5 op w7 : List UInt8} (h : words a = [k, w1, w2, w3, w4, w5, op, w7]) : snapO a = match sixO w1 w2 w3 w4 w5 w7 with
    | some (x1, x2, x3, x4, x5, g) => if k = kSnap then some (x1, x2, x3, x4, x5, op, g) else none
    | none => none := by
  unfold snapO
  rw [h]
  rfl

theorem six_bad {w1 w2 w3 w4 w5 w7 : List UInt8} (h : numO w1 = none ∨ numO w2 = none ∨ numO w3 = none ∨ numO w4 = none ∨ numO w5 = none ∨ numO w7 = none) : sixO w1 w2 w3 w4 w5 w7 = none := by
  unfold sixO
  split
  · rename_i e1 e2 e3 e4 e5 e6
    rw [e1, e2, e3, e4, e5, e6] at h
    simp at h
  · rfl

theorem six_good {w1 w2 w3 w4 w5 w7 : List UInt8} {x1 x2 x3 x4 x5 g : Int} (h1 : numO w1 = some x1) (h2 : numO w2 = some x2) (h3 : numO w3 = some x3) (h4 : numO w4 = some x4) (h5 : numO w5 = some x5) (h7 : numO w7 = some g) : sixO w1 w2 w3 w4 w5 w7 = some (x1, x2, x3, x4, x5, g) := by
  unfold sixO
  rw [h1, h2, h3, h4, h5, h7]

theorem rowsF_good : ∀ (ps : List (List UInt8)) (n : Nat) (acc : List Fl), (∀ g ∈ acc, fileE g = 0) → ∀ g ∈ (rowsG fileK ps n acc).1, fileE g = 0
  | [], n, acc, h => by
    intro g hg
    unfold rowsG at hg
    first | exact h g hg | simp at hg
  | [l], n, acc, h => by
    intro g hg
    rw [rowsF_one] at hg
    split at hg
    · exact h g hg
    · simp at hg
  | l :: l2 :: r, n, acc, h => by
    intro g hg
    rw [rowsF_cons] at hg
    split at hg
    · simp at hg
    · rename_i hr
      split at hg
      · simp at hg
      · refine rowsF_good (l2 :: r) (n + 1) (acc ++ [(readF l).1]) (fun x hx => ?_) g hg
        rw [List.mem_append, List.mem_singleton] at hx
        rcases hx with hx | rfl
        · exact h x hx
        · exact readF_ok l (by simpa using hr)

theorem readL_good (b : List UInt8) : ∀ f ∈ (readL b).1, fileE f = 0 := by
  intro f hf
  rw [readL_def] at hf
  split at hf
  · simp at hf
  · split at hf
    · simp at hf
    · exact rowsF_good (pieces 10 b) 0 [] (by simp) f hf

theorem readL_sizes (b : List UInt8) : ∀ f ∈ (readL b).1, f.1.size ≤ 100000 ∧ f.2.1.size ≤ 100000 := fun f hf => by
  have := ok_sizes (readL_good b f hf)
  omega

theorem readL_len2 (s : List UInt8) : (readL s).1.length ≤ s.length := by
  rw [readL_def]
  split
  · exact Nat.zero_le _
  · split
    · exact Nat.zero_le _
    · rename_i h
      have hp := pieces_count 10 s
      have hne : pieces 10 s ≠ [] := by intro e; rw [e] at hp; simp at hp
      have := rowsG_len fileK (pieces 10 s) 0 [] hne (by simpa using h)
      have hc := List.count_le_length (a := (10 : UInt8)) (l := s)
      simp only [List.length_nil] at this
      show (rowsG fileK (pieces 10 s) 0 []).1.length ≤ _
      omega
end Go.Proofs.YtpiagofhgalklacGreatDoor
