/-
  A snap, as it came in.
-/
import Derived.Test.YtpiagofhgalklacGreatDoorFileOpen
import Derived.Test.YtpiagofhgalklacGreatDoorSnapMem
namespace Go.Proofs.YtpiagofhgalklacGreatDoor
open Go.ChangeShapes Go.WideShapes Go.ChangeAt Go.RowKit Go.Deep Go.Lib Go.Shelf

theorem Tryz.cellsSnap : Tryz.prog.cellsOf 52 = 7 := by kernel_rfl
theorem Tryz.cellsFiles : Tryz.prog.cellsOf 22 = 1 := by kernel_rfl

theorem list7 {α : Type} {l : List α} (h : l.length = 7) : ∃ a b c d e f g, l = [a, b, c, d, e, f, g] := by
  match l, h with
  | [a, b, c, d, e, f, g], _ => exact ⟨a, b, c, d, e, f, g, rfl⟩

theorem array7 {α : Type} {cs : Array α} (h : cs.size = 7) : ∃ a b c d e f g, cs = #[a, b, c, d, e, f, g] := by
  obtain ⟨l⟩ := cs
  obtain ⟨a, b, c, d, e, f, g, rfl⟩ := list7 (l := l) h
  exact ⟨a, b, c, d, e, f, g, rfl⟩

section
variable {H : Type} {enc : TypeId × Value → H} {W : World} {base : Nat} {spare : Nat → Bool} {held : Bool}

set_option maxRecDepth 100000 in
/-- A snap, by value. -/
theorem open_snap {r : Reach} {b0 : Nat} {v : Value} {d : DataW H} {p : List MemPlace} (hv : Value.okWide Tryz.prog W r b0 52 v) (h : DataW.Trod enc Tryz.prog W base spare held 52 v d p) :
    ∃ (s : Sn) (q : Option Addr) (cap : Nat), v = snV s (.slice q s.2.2.2.2.2.2.length cap) ∧ FlsAt W (.slice q s.2.2.2.2.2.2.length cap) s.2.2.2.2.2.2 ∧ s.2.2.2.2.2.1.size ≤ maxLen ∧ s.2.2.2.2.2.2.length ≤ maxLen ∧ ∀ g ∈ s.2.2.2.2.2.2, g.1.size ≤ maxLen ∧ g.2.1.size ≤ maxLen := by
  obtain ⟨cs, rfl, hsz⟩ := okWide_struct Tryz.underlying52 hv
  obtain ⟨c0, c1, c2, c3, c4, c5, c6, rfl⟩ := array7 (hsz.trans Tryz.cellsSnap)
  obtain ⟨fuel, hf⟩ := h
  have hf' : DataW.trod enc Tryz.prog W base spare held fuel 52 [c0, c1, c2, c3, c4, c5, c6] = some (d, p) := by simpa [Value.cells] using hf
  obtain ⟨xs, n, _, _, _, hlen, hfs⟩ := DataW.trod_struct Tryz.underlying52 hf'
  obtain ⟨y0, y1, y2, y3, y4, y5, y6, rfl⟩ := list7 (show xs.length = 7 from hlen)
  have f0 : DataW.trod enc Tryz.prog W base spare held n 3 [c0] = some y0 := by simpa [Tryz.cellsInt] using hfs 0 _ rfl
  have f1 : DataW.trod enc Tryz.prog W base spare held n 3 [c1] = some y1 := by simpa [Tryz.cellsInt] using hfs 1 _ rfl
  have f2 : DataW.trod enc Tryz.prog W base spare held n 3 [c2] = some y2 := by simpa [Tryz.cellsInt] using hfs 2 _ rfl
  have f3 : DataW.trod enc Tryz.prog W base spare held n 3 [c3] = some y3 := by simpa [Tryz.cellsInt] using hfs 3 _ rfl
  have f4 : DataW.trod enc Tryz.prog W base spare held n 3 [c4] = some y4 := by simpa [Tryz.cellsInt] using hfs 4 _ rfl
  have f5 : DataW.trod enc Tryz.prog W base spare held n 9 [c5] = some y5 := by simpa [Tryz.cellsString] using hfs 5 _ rfl
  have f6 : DataW.trod enc Tryz.prog W base spare held n 22 [c6] = some y6 := by simpa [Tryz.cellsFiles] using hfs 6 _ rfl
  obtain ⟨k0, e0, _, _⟩ := DataW.trod_int Tryz.underlying3 f0
  obtain ⟨k1, e1, _, _⟩ := DataW.trod_int Tryz.underlying3 f1
  obtain ⟨k2, e2, _, _⟩ := DataW.trod_int Tryz.underlying3 f2
  obtain ⟨k3, e3, _, _⟩ := DataW.trod_int Tryz.underlying3 f3
  obtain ⟨k4, e4, _, _⟩ := DataW.trod_int Tryz.underlying3 f4
  obtain ⟨s5, e5, _, h5⟩ := DataW.trod_string Tryz.underlying9 f5
  obtain ⟨fs, hx, hl, hg⟩ := open_files f6
  obtain ⟨q, c, e6⟩ := hx.form
  simp only [List.cons.injEq, and_true] at e0 e1 e2 e3 e4 e5
  rw [e6] at hx
  exact ⟨(k0, k1, k2, k3, k4, s5, fs), q, c, by rw [e0, e1, e2, e3, e4, e5, e6]; rfl, hx, h5, hl, hg⟩
end
end Go.Proofs.YtpiagofhgalklacGreatDoor
