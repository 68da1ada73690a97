/-
  The first snap; the rows and the keys of a snap's files; what reading one hands back.
-/
import Derived.Test.YtpiagofhgalklacGreatDoorSnapMem
import Derived.Test.YtpiagofhgalklacGreatDoorRefList1
namespace Go.Proofs.YtpiagofhgalklacGreatDoor
open Go.RowKit Go.Extern.Stop Go.Stop Go.Extern Go.Sort Go.Shelf Go.Lib

/-- The first snap. -/
def firstS : Sn := (1, 0, 0, 0, 0, ⟨#[115, 116, 97, 114, 116]⟩, [])

/-- What Read hands back. -/
def SReadP (w : World) (a : Nat → Addr) (R : Sn × Nat × Option Nat) (e : Ending) (w' : World) : Prop := ∃ vf ev, e = .returned (.tuple #[snV R.1 vf, ev]) ∧ FlsAt w' vf R.1.2.2.2.2.2.2 ∧ ToldE w' a ev R.2 ∧ Below w.heap.size w w'

/-- The sums of the rows, and of the keys. -/
def rk : List Fl → Int → Int → Int × Int
  | [], x, y => (x, y)
  | f :: r, x, y => if f.2.1.data.toList = [45] then rk r x (y + f.2.2.1) else rk r (x + f.2.2.1) y

/-- Of a snap that is right; else none. -/
def rkS (s : Sn) : Int × Int := if (snapE s).1 = 0 then rk s.2.2.2.2.2.2 0 0 else (0, 0)

/-- What is left to be counted. -/
def RkLeft (fs : List Fl) (n : Nat) (x y : Int) : Prop := rk fs 0 0 = rk (fs.drop n) x y ∧ 0 ≤ x ∧ x ≤ 40 * n ∧ 0 ≤ y ∧ y ≤ 40 * n
theorem rkL_zero (fs : List Fl) : RkLeft fs 0 0 0 := ⟨rfl, by omega, by omega, by omega, by omega⟩
theorem rkL_all {fs : List Fl} {x y : Int} (h : RkLeft fs fs.length x y) : rk fs 0 0 = (x, y) := by
  rw [h.1, List.drop_length]; rfl
theorem rkL_gone {fs : List Fl} {n : Nat} {x y : Int} (h : RkLeft fs n x y) (hn : n < fs.length) (e : fs[n].2.1.data.toList = [45]) (h1 : 0 ≤ fs[n].2.2.1) (h2 : fs[n].2.2.1 ≤ 40) : RkLeft fs (n + 1) x (y + fs[n].2.2.1) := by
  obtain ⟨h0, a, b, c, d⟩ := h
  refine ⟨?_, a, by omega, by omega, by omega⟩
  rw [h0, List.drop_eq_getElem_cons hn]
  conv => lhs; unfold rk
  rw [if_pos e]
theorem rkL_data {fs : List Fl} {n : Nat} {x y : Int} (h : RkLeft fs n x y) (hn : n < fs.length) (e : fs[n].2.1.data.toList ≠ [45]) (h1 : 0 ≤ fs[n].2.2.1) (h2 : fs[n].2.2.1 ≤ 40) : RkLeft fs (n + 1) (x + fs[n].2.2.1) y := by
  obtain ⟨h0, a, b, c, d⟩ := h
  refine ⟨?_, by omega, by omega, c, by omega⟩
  rw [h0, List.drop_eq_getElem_cons hn]
  conv => lhs; unfold rk
  rw [if_neg e]

/-- A right file: its kind by its Part, its count. -/
theorem file_kind {f : Fl} (h : fileE f = 0) : 0 ≤ f.2.2.1 ∧ f.2.2.1 ≤ 40 ∧ ∃ g n, pathO f.1.data.toList = some (g, n) ∧ (g = true ↔ f.2.1.data.toList = [45]) := by
  obtain ⟨g, n, hp, hq, hb⟩ := file_good h
  have hb' := hb
  unfold bndB at hb'
  simp only [Bool.and_eq_true, decide_eq_true_eq] at hb'
  refine ⟨by omega, by omega, g, n, hp, ?_⟩
  unfold partB at hq
  cases g
  · simp only [Bool.false_eq_true, if_false, false_iff] at hq ⊢
    intro e
    rw [e] at hq
    revert hq
    decide
  · simp only [if_true, decide_eq_true_eq, true_iff] at hq ⊢
    exact hq

theorem readL_60 (b : List UInt8) : (readL b).1.length ≤ 60 := by
  obtain ⟨c, hc⟩ : ∃ c, (if (pieces 10 b).getLastD [] = [] then (pieces 10 b).length - 1 else (pieces 10 b).length) = c := ⟨_, rfl⟩
  have hle : (pieces 10 b).length - 1 ≤ c := by rw [← hc]; split <;> omega
  unfold readL
  rw [hc]
  by_cases h1 : 60 < c
  · rw [if_pos h1]; exact Nat.zero_le _
  · rw [if_neg h1]
    by_cases h2 : (rowsG fileK (pieces 10 b) 0 []).2.1 = 0
    · rw [if_neg (by simpa using h2)]
      have hp := pieces_count 10 b
      have hne : pieces 10 b ≠ [] := by intro e; rw [e] at hp; simp at hp
      have := rowsG_len fileK (pieces 10 b) 0 [] hne h2
      simp only [List.length_nil] at this
      show (rowsG fileK (pieces 10 b) 0 []).1.length ≤ _
      omega
    · rw [if_pos h2]; exact Nat.zero_le _

theorem readS_60 (l : List UInt8) : (readS l).1.2.2.2.2.2.2.length ≤ 60 := by
  unfold readS
  split
  · exact Nat.zero_le _
  · split
    · exact Nat.zero_le _
    · split
      · exact Nat.zero_le _
      · split
        · exact Nat.zero_le _
        · split
          · exact Nat.zero_le _
          · split
            · exact Nat.zero_le _
            · exact readL_60 _
end Go.Proofs.YtpiagofhgalklacGreatDoor
