/-
  The contracts of the document's own IsBehind, FindOf, SameFiles, Without, PruneOf and ListText.
-/
import Derived.Test.YtniipgaacdpncaaGreatDoorListMem
import Derived.Test.YtniipgaacdpncaaGreatDoorFileNum
import Derived.Test.YtniipgaacdpncaaGreatDoorRefLines
import Derived.Test.YtniipgaacdpncaaGreatDoorRefNums
import Derived.Test.YtniipgaacdpncaaGreatDoorFileLaw
import Derived.BigQuiet
namespace Go.Proofs.YtniipgaacdpncaaGreatDoor
open Go.RowKit Go.Extern.Stop Go.Stop Go.Extern Go.Sort Go.Shelf Go.Lib

/-- Where a path is among files (-1: nowhere). -/
def findF (fs : List Fl) (p : ByteArray) : Int := match fs.findIdx? (fun f => decide (f.1 = p)) with
  | some i => i
  | none => -1

theorem findF_at {fs : List Fl} {p : ByteArray} {n : Nat} (hn : n < fs.length) (h : ∀ j (h : j < fs.length), j < n → fs[j].1 ≠ p) (e : fs[n].1 = p) : findF fs p = n := by
  unfold findF
  have : fs.findIdx? (fun f => decide (f.1 = p)) = some n := by
    rw [List.findIdx?_eq_some_iff_getElem]
    exact ⟨hn, by simpa using e, fun j hj => by simpa using h j (by omega) hj⟩
  rw [this]
theorem findF_no {fs : List Fl} {p : ByteArray} (h : ∀ j (h : j < fs.length), fs[j].1 ≠ p) : findF fs p = -1 := by
  unfold findF
  have : fs.findIdx? (fun f => decide (f.1 = p)) = none := by
    rw [List.findIdx?_eq_none_iff]
    intro f hf
    obtain ⟨j, hj, rfl⟩ := List.mem_iff_getElem.1 hf
    simpa using h j hj
  rw [this]

theorem nopath_succ {fs : List Fl} {n : Nat} {p : ByteArray} (h : ∀ j (h : j < fs.length), j < n → fs[j].1 ≠ p) (hn : n < fs.length) (e : fs[n].1 ≠ p) : ∀ j (h : j < fs.length), j < n + 1 → fs[j].1 ≠ p := fun j hj hjn => by
  rcases Nat.lt_or_ge j n with h' | h'
  · exact h j hj h'
  · obtain rfl : j = n := by omega
    exact e

/-- Those of the first n files that are kept. -/
def kept (P : Fl → Bool) (fs : List Fl) (n : Nat) : List Fl := (fs.take n).filter P
theorem kept_zero (P : Fl → Bool) (fs : List Fl) : kept P fs 0 = [] := by simp [kept]
theorem kept_len (P : Fl → Bool) (fs : List Fl) (n : Nat) : (kept P fs n).length ≤ n := by
  have := List.length_filter_le P (fs.take n)
  rw [List.length_take] at this
  unfold kept
  omega
theorem kept_succ (P : Fl → Bool) (fs : List Fl) (n : Nat) (h : n < fs.length) : kept P fs (n + 1) = if P fs[n] = true then kept P fs n ++ [fs[n]] else kept P fs n := by
  unfold kept
  rw [← List.take_append_getElem h, List.filter_append]
  split
  · rename_i hp; rw [List.filter_cons_of_pos hp]; rfl
  · rename_i hp; rw [List.filter_cons_of_neg hp]; simp
theorem kept_all (P : Fl → Bool) (fs : List Fl) : kept P fs fs.length = fs.filter P := by unfold kept; rw [List.take_length]

/-- Not that path. -/
def offP (p : ByteArray) (f : Fl) : Bool := decide (f.1 ≠ p)
/-- May it have a key from lo to hi? -/
def inP (lo hi : Int) (f : Fl) : Bool := decide ((if f.2.2.2.1 < lo then lo else f.2.2.2.1) ≤ (if hi < f.2.2.2.2.1 then hi else f.2.2.2.2.1))

end Go.Proofs.YtniipgaacdpncaaGreatDoor
