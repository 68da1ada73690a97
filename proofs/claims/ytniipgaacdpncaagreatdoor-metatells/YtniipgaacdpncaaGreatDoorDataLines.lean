/-
  The contract of data.WriteLines for rows: a file's text.
-/
import Derived.Test.YtniipgaacdpncaaGreatDoorDataHead
namespace Go.Proofs.YtniipgaacdpncaaGreatDoor
open Go.RowKit Go.Extern.Stop Go.Stop Go.Extern Go.Sort Go.Shelf Go.Lib

theorem writeString_any (B b : Nat) (bs : List Value) (s : ByteArray) (w : World) (h : Lib.IsBuilder 50 5 B b bs w) (hlen : bs.length + s.size ≤ 140737488355328) (hBw : B ≤ w.heap.size) :
    Calls Tryz.prog 20 #[.pointer (some ⟨b, 0, none⟩), .string s] w fun e w' => e = .returned (.tuple #[.int .i64 s.size, .nilIface]) ∧ (Lib.BuilderAt 50 5 B b (.pointer (some ⟨b, 0, none⟩)) (bs ++ Lib.strCells s) w' ∧ Below B w w') := by
  first
  | exact Any.Builder_WriteString { Tryz.lays156 with } Tryz.Builder_Extra_156 B b bs s w h hlen hBw
  | exact Tryz.Builder_WriteString B b bs s w h hlen hBw

theorem isBuilder_below {T e : TypeId} {B b : Nat} {bs : List Value} {w w' : World} (h : Lib.IsBuilder T e B b bs w) (hb : Below w.heap.size w w') : Lib.IsBuilder T e B b bs w' := by
  rcases h with h | h
  · have hlt := h.lt
    obtain ⟨hB, v, hbk, hown, hne⟩ := h
    exact Or.inl ⟨hB, v, (hb.block b hlt).trans hbk, own_below hown hb, hne⟩
  · have hlt := h.lt
    obtain ⟨hB, v, hbk, hown, hne⟩ := h
    exact Or.inr ⟨hB, v, (hb.block b hlt).trans hbk, own_below hown hb, hne⟩

theorem isBuilder_set {T e : TypeId} {B b : Nat} {bs : List Value} {w : World} (h : Lib.IsBuilder T e B b bs w) (g o : Nat) (u : Value) (hg : g < B) : Lib.IsBuilder T e B b bs (w.setCell ⟨g, o, none⟩ u) := by
  rcases h with h | h
  · obtain ⟨hB, v, hbk, hown, hne⟩ := h
    exact Or.inl ⟨hB, v, (heap_setCell_other _ _ _ _ (by show b ≠ g; omega)).trans hbk, ownsRow_setCell_other hown (fun e => by have := (hown.lt g e).1; omega) u, hne⟩
  · obtain ⟨hB, v, hbk, hown, hne⟩ := h
    exact Or.inr ⟨hB, v, (heap_setCell_other _ _ _ _ (by show b ≠ g; omega)).trans hbk, ownsRow_setCell_other hown (fun e => by have := (hown.lt g e).1; omega) u, hne⟩

theorem isBuilder_head {T e : TypeId} {B b : Nat} {bs : List Value} {w : World} (h : Lib.IsBuilder T e B b bs w) (g m : Nat) (E : Int × Int) (hg : g < B) : Lib.IsBuilder T e B b bs (headW w g m E) :=
  isBuilder_set (isBuilder_set (isBuilder_set h g 1 _ hg) g 2 _ hg) g 0 _ hg

end Go.Proofs.YtniipgaacdpncaaGreatDoor
