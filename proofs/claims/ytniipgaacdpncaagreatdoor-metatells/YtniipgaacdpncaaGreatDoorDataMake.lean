/-
  The contracts of head.count and head.text: one line more, and a file's first line.
  The contract of data.WriteLines for rows: a file's text.
  The contract of data.Make: too many rows; a row that is none; a file.
-/
import Derived.Test.YtniipgaacdpncaaGreatDoorDataPure
import Derived.Test.YtniipgaacdpncaaGreatDoorDataShelf
import Derived.Test.YtniipgaacdpncaaGreatDoorCrcPure
import Derived.Test.YtniipgaacdpncaaGreatDoorRowRead
import Derived.Laws.BitsAll
import Derived.Laws.BitsAllLaws
import Derived.Laws.Rows
import Derived.Laws.CopyRow
import Derived.Laws.Tables
import Derived.Test.YtniipgaacdpncaaGreatDoorSortsWalk
import Derived.Test.YtniipgaacdpncaaGreatDoorRowNums
import Derived.BigRegion
import Derived.Test.YtniipgaacdpncaaGreatDoorPartRead
import Derived.Lib.ItoaMem
import Derived.Lib.QuietBelow
import Derived.BigQuiet
import Derived.OneCell
import Derived.Deep.RegionHeld3
import Derived.Lib.JoinLaws
namespace Go.Proofs.YtniipgaacdpncaaGreatDoor
open Go.RowKit Go.Extern.Stop Go.Stop Go.Extern Go.Sort Go.Shelf Go.Lib

theorem bytes_len (l : List UInt8) : (bytesOf l).size = l.length := by rw [← size_list]; simp [bytesOf]

theorem ends_snoc (zs : List Int) (k : Int) (h : zs ≠ []) : endsZ (zs ++ [k]) = (if k < (endsZ zs).1 then k else (endsZ zs).1, if (endsZ zs).2 < k then k else (endsZ zs).2) := by
  cases zs with
  | nil => exact absurd rfl h
  | cons z r =>
    show ((r ++ [k]).foldl _ z, (r ++ [k]).foldl _ z) = _
    rw [List.foldl_append, List.foldl_append]
    rfl
theorem ends_one (k : Int) : endsZ [k] = (k, k) := rfl

/-- A head's block with other numbers. -/
def headW (W : World) (g : Nat) (n : Nat) (E : Int × Int) : World := ((W.setCell ⟨g, 1, none⟩ (.int .i64 E.1)).setCell ⟨g, 2, none⟩ (.int .i64 E.2)).setCell ⟨g, 0, none⟩ (.int .i64 n)

/-- One key more. -/
def endsP (n : Nat) (E : Int × Int) (key : Int) : Int × Int := if n = 0 then (key, key) else (if key < E.1 then key else E.1, if E.2 < key then key else E.2)

theorem ends_more (zs : List Int) (key : Int) : endsZ (zs ++ [key]) = endsP zs.length (endsZ zs) key := by
  unfold endsP
  by_cases h : zs = []
  · subst h; rfl
  · rw [ends_snoc _ _ h, if_neg (fun e => h (List.length_eq_zero_iff.1 e))]

theorem headW_other (W : World) (g m j : Nat) (E' : Int × Int) (hj : j ≠ g) : (headW W g m E').heap[j]? = W.heap[j]? := by
  unfold headW
  rw [heap_setCell_other _ _ _ _ hj, heap_setCell_other _ _ _ _ hj, heap_setCell_other _ _ _ _ hj]
theorem headW_size (W : World) (g m : Nat) (E' : Int × Int) : (headW W g m E').heap.size = W.heap.size := by
  unfold headW; simp [World.setCell]
theorem headW_below {W W0 : World} {B g m : Nat} {E' : Int × Int} (h : Below B W0 W) (hg : B ≤ g) : Below B W0 (headW W g m E') := ((h.setCell hg _).setCell hg _).setCell hg _

end Go.Proofs.YtniipgaacdpncaaGreatDoor
namespace Go.Proofs.YtniipgaacdpncaaGreatDoor
open Go.RowKit Go.Extern.Stop Go.Stop Go.Extern Go.Sort Go.Shelf Go.Lib

theorem writeString_any (B b : Nat) (bs : List Value) (s : ByteArray) (w : World) (h : Lib.IsBuilder 50 5 B b bs w) (hlen : bs.length + s.size ≤ 140737488355328) (hBw : B ≤ w.heap.size) :
    Calls Tryz.prog 20 #[.pointer (some ⟨b, 0, none⟩), .string s] w fun e w' => e = .returned (.tuple #[.int .i64 s.size, .nilIface]) ∧ (Lib.BuilderAt 50 5 B b (.pointer (some ⟨b, 0, none⟩)) (bs ++ Lib.strCells s) w' ∧ Below B w w') := by
  first
  | exact Any.Builder_WriteString { Tryz.lays156 with } Tryz.Builder_Extra_156 B b bs s w h hlen hBw
  | exact Tryz.Builder_WriteString B b bs s w h hlen hBw

theorem isBuilder_below {T e : TypeId} {B b : Nat} {bs : List Value} {w w' : World} (h : Lib.IsBuilder T e B b bs w) (hb : Below w.heap.size w w') : Lib.IsBuilder T e B b bs w' := by
  rcases h with h | h
  · have hlt := h.lt
    obtain ⟨hB, v, hbk, hown, hne⟩ := h
    exact Or.inl ⟨hB, v, (hb.block b hlt).trans hbk, own_below hown hb, hne⟩
  · have hlt := h.lt
    obtain ⟨hB, v, hbk, hown, hne⟩ := h
    exact Or.inr ⟨hB, v, (hb.block b hlt).trans hbk, own_below hown hb, hne⟩

theorem isBuilder_set {T e : TypeId} {B b : Nat} {bs : List Value} {w : World} (h : Lib.IsBuilder T e B b bs w) (g o : Nat) (u : Value) (hg : g < B) : Lib.IsBuilder T e B b bs (w.setCell ⟨g, o, none⟩ u) := by
  rcases h with h | h
  · obtain ⟨hB, v, hbk, hown, hne⟩ := h
    exact Or.inl ⟨hB, v, (heap_setCell_other _ _ _ _ (by show b ≠ g; omega)).trans hbk, ownsRow_setCell_other hown (fun e => by have := (hown.lt g e).1; omega) u, hne⟩
  · obtain ⟨hB, v, hbk, hown, hne⟩ := h
    exact Or.inr ⟨hB, v, (heap_setCell_other _ _ _ _ (by show b ≠ g; omega)).trans hbk, ownsRow_setCell_other hown (fun e => by have := (hown.lt g e).1; omega) u, hne⟩

theorem isBuilder_head {T e : TypeId} {B b : Nat} {bs : List Value} {w : World} (h : Lib.IsBuilder T e B b bs w) (g m : Nat) (E : Int × Int) (hg : g < B) : Lib.IsBuilder T e B b bs (headW w g m E) :=
  isBuilder_set (isBuilder_set (isBuilder_set h g 1 _ hg) g 2 _ hg) g 0 _ hg

end Go.Proofs.YtniipgaacdpncaaGreatDoor
namespace Go.Proofs.YtniipgaacdpncaaGreatDoor
open Go.RowKit Go.Extern.Stop Go.Stop Go.Extern Go.Sort Go.Shelf Go.Lib

/-- What the package-level variables hold that files' functions read: a 2, a 7, a 8, a 9: the errors for shape, full, order and sum. -/
structure EnvD (w : World) (a : Nat → Addr) : Prop where
  env : Env w a
  shape : w.cell? ⟨4, 0, none⟩ = some (.iface 159 (.pointer (some (a 2))))
  full : w.cell? ⟨1, 0, none⟩ = some (.iface 159 (.pointer (some (a 7))))
  order : w.cell? ⟨8, 0, none⟩ = some (.iface 159 (.pointer (some (a 8))))
  sum : w.cell? ⟨9, 0, none⟩ = some (.iface 159 (.pointer (some (a 9))))

theorem EnvD.below {w w' : World} {a : Nat → Addr} (h : EnvD w a) (hb : Below w.heap.size w w') : EnvD w' a :=
  ⟨h.env.below hb, below_keep hb h.shape, below_keep hb h.full, below_keep hb h.order, below_keep hb h.sum⟩

/-- The same without the error for a name. -/
structure EnvD0 (w : World) (a : Nat → Addr) : Prop where
  env : Env0 w a
  shape : w.cell? ⟨4, 0, none⟩ = some (.iface 159 (.pointer (some (a 2))))
  full : w.cell? ⟨1, 0, none⟩ = some (.iface 159 (.pointer (some (a 7))))
  order : w.cell? ⟨8, 0, none⟩ = some (.iface 159 (.pointer (some (a 8))))
  sum : w.cell? ⟨9, 0, none⟩ = some (.iface 159 (.pointer (some (a 9))))

theorem EnvD0.below {w w' : World} {a : Nat → Addr} (h : EnvD0 w a) (hb : Below w.heap.size w w') : EnvD0 w' a :=
  ⟨h.env.below hb, below_keep hb h.shape, below_keep hb h.full, below_keep hb h.order, below_keep hb h.sum⟩

theorem EnvD.weak {w : World} {a : Nat → Addr} (h : EnvD w a) : EnvD0 w a := ⟨h.env.weak, h.shape, h.full, h.order, h.sum⟩

theorem keys_perm {xs ys : List Rw} (h : xs.Perm ys) : endsZ (keysR xs) = endsZ (keysR ys) := ends_perm (h.map _)

theorem sort_ok {xs : List Rw} (h : ∀ x ∈ xs, rowE x = 0) : ∀ x ∈ sortR xs, rowE x = 0 := fun x hx => h x ((sortR_perm xs).mem_iff.1 hx)

theorem sort_rise (xs : List Rw) : (sortR xs).Pairwise (fun x y => ltOf cfR y x = false) := (sortR_sorted xs).imp fun {a b} h => by simpa using h

end Go.Proofs.YtniipgaacdpncaaGreatDoor
