/-
  The contract of the document's own ListFault.
-/
import Derived.Test.YtniipgaacdpncaaGreatDoorRefList1
import Derived.Test.YtniipgaacdpncaaGreatDoorRefData
import Derived.Deep.RegionHeld3
namespace Go.Proofs.YtniipgaacdpncaaGreatDoor
open Go.RowKit Go.Extern.Stop Go.Stop Go.Extern Go.Sort Go.Shelf Go.Lib

/-- A place as a number (-1: nowhere). -/
def atZ : Option Nat → Int
  | some i => i
  | none => -1

/-- The place of the file ahead. -/
def ahead (fs : List Fl) : Nat → Int
  | 0 => 0
  | n + 1 => match fs[n]? with
    | some f => fk f
    | none => 0

theorem ahead_succ {fs : List Fl} {n : Nat} (h : n < fs.length) : ahead fs (n + 1) = fk fs[n] := by
  show (match fs[n]? with
    | some f => fk f
    | none => 0) = _
  rw [List.getElem?_eq_getElem h]

/-- The files from the n-th on are as good as all. -/
def LeftG (fs : List Fl) (n : Nat) : Prop := lstG 0 fs 0 = lstG (ahead fs n) (fs.drop n) n

theorem left_zero (fs : List Fl) : LeftG fs 0 := rfl
theorem left_bad {fs : List Fl} {n : Nat} (h : LeftG fs n) (hn : n < fs.length) (he : fileE fs[n] ≠ 0) : lstG 0 fs 0 = (fileE fs[n], some n) := by
  unfold LeftG at h
  rw [h, List.drop_eq_getElem_cons hn]
  unfold lstG
  rw [if_pos he]
theorem left_order {fs : List Fl} {n : Nat} (h : LeftG fs n) (hn : n < fs.length) (he : fileE fs[n] = 0) (ho : fk fs[n] ≤ ahead fs n) : lstG 0 fs 0 = (9, some n) := by
  unfold LeftG at h
  rw [h, List.drop_eq_getElem_cons hn]
  unfold lstG
  rw [if_neg (by simp [he]), if_pos ho]
theorem left_succ {fs : List Fl} {n : Nat} (h : LeftG fs n) (hn : n < fs.length) (he : fileE fs[n] = 0) (ho : ahead fs n < fk fs[n]) : LeftG fs (n + 1) := by
  unfold LeftG at h ⊢
  rw [h, ahead_succ hn]
  conv => lhs; rw [List.drop_eq_getElem_cons hn]
  conv => lhs; unfold lstG
  rw [if_neg (by simp [he]), if_neg (by omega)]
theorem left_all {fs : List Fl} (h : LeftG fs fs.length) : lstG 0 fs 0 = (0, none) := by
  unfold LeftG at h
  rw [h, List.drop_length]
  rfl

end Go.Proofs.YtniipgaacdpncaaGreatDoor
