/-
  The contracts of the document's own AddOf and RemoveOf.
-/
import Derived.Test.YtniipgaacdpncaaGreatDoorRefList4
import Derived.Deep.CutBlock
namespace Go.Proofs.YtniipgaacdpncaaGreatDoor
open Go.RowKit Go.Extern.Stop Go.Stop Go.Extern Go.Sort Go.Shelf Go.Lib

/-- What adding a file to a list answers: an error's number (0: none), and where. -/
def addE (fs : List Fl) (f : Fl) : Nat × Option Nat := if (listE fs).1 ≠ 0 then listE fs else if fileE f ≠ 0 then (fileE f, none) else if 0 ≤ findF fs f.1 then (7, none) else if 60 ≤ fs.length then (8, none) else (0, none)
def addL (fs : List Fl) (f : Fl) : List Fl := if (addE fs f).1 = 0 then placeL fs f else []
/-- What removing a path answers. -/
def remE (fs : List Fl) (p : ByteArray) : Nat × Option Nat := if (listE fs).1 ≠ 0 then listE fs else if findF fs p < 0 then (6, none) else (0, none)
def remL (fs : List Fl) (p : ByteArray) : List Fl := if (remE fs p).1 = 0 then fs.filter (offP p) else []

theorem addE_le (fs : List Fl) (f : Fl) : (addE fs f).1 ≤ 12 := by
  unfold addE
  have h1 : (listE fs).1 ≤ 12 := by
    unfold listE
    split
    · exact (by decide : (8 : Nat) ≤ 12)
    · exact lstG_le _ _ _
  have h2 := fileE_le f
  repeat' split
  all_goals first | exact h1 | (dsimp only; omega)
theorem remE_le (fs : List Fl) (p : ByteArray) : (remE fs p).1 ≤ 12 := by
  unfold remE
  have h1 : (listE fs).1 ≤ 12 := by
    unfold listE
    split
    · exact (by decide : (8 : Nat) ≤ 12)
    · exact lstG_le _ _ _
  repeat' split
  all_goals first | exact h1 | (dsimp only; omega)

theorem FC.ne_fls {W : World} {F : Nat} {x y : Int} {v : Value} {fs : List Fl} (h : FC W F x y) (hr : FlsAt W v fs) (o : Nat) (z : Value) (o2 : Nat) (z2 : Value) : FlsAt ((W.setCell ⟨F, o, none⟩ z).setCell ⟨F, o2, none⟩ z2) v fs := by
  rcases hr with hr | ⟨b, ob, cap, hv, hl, hc⟩
  · exact Or.inl hr
  · refine Or.inr ⟨b, ob, cap, hv, hl, fun j hj => ?_⟩
    have hbF : b ≠ F := by
      rintro rfl
      have h0 := (hc j hj).1
      rw [cell_of_row _ _ _ _ _ _ h] at h0
      have hm := Array.mem_of_getElem? h0
      simp at hm
    obtain ⟨c0, c1, c2, c3, c4, c5⟩ := hc j hj
    have key : ∀ t u, W.cell? ⟨b, t, none⟩ = some u → ((W.setCell ⟨F, o, none⟩ z).setCell ⟨F, o2, none⟩ z2).cell? ⟨b, t, none⟩ = some u := fun t u hu => by
      rw [World.cell?_setCell_other _ _ _ _ (by intro e; injection e with e; exact hbF e.symm), World.cell?_setCell_other _ _ _ _ (by intro e; injection e with e; exact hbF e.symm)]
      exact hu
    exact ⟨key _ _ c0, key _ _ c1, key _ _ c2, key _ _ c3, key _ _ c4, key _ _ c5⟩
theorem fc_other {W : World} {F G : Nat} {x y : Int} (h : FC W F x y) (hne : G ≠ F) (o : Nat) (z : Value) : FC (W.setCell ⟨G, o, none⟩ z) F x y := (heap_setCell_other _ _ _ _ (fun e => hne e.symm)).trans h
end Go.Proofs.YtniipgaacdpncaaGreatDoor
