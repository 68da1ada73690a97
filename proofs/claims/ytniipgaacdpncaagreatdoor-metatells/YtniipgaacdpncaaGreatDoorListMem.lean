/-
  Lists of files in memory: six cells an element; laid flat; of the call's own.
-/
import Derived.Test.YtniipgaacdpncaaGreatDoorListPure
import Derived.Test.YtniipgaacdpncaaGreatDoorFileNum
namespace Go.Proofs.YtniipgaacdpncaaGreatDoor
open Go.RowKit Go.Extern.Stop Go.Stop Go.Extern Go.Sort Go.Shelf Go.Lib

/-- The cells of what is known of a file. -/
def encF (f : Fl) : List Value := [.string f.1, .string f.2.1, .int .i64 f.2.2.1, .int .i64 f.2.2.2.1, .int .i64 f.2.2.2.2.1, .int .i64 f.2.2.2.2.2]

/-- Files from a cell on. -/
def FlCells (w : World) (b o : Nat) (fs : List Fl) : Prop :=
  ∀ j (h : j < fs.length), w.cell? ⟨b, o + j * 6, none⟩ = some (.string fs[j].1) ∧ w.cell? ⟨b, o + j * 6 + 1, none⟩ = some (.string fs[j].2.1) ∧ w.cell? ⟨b, o + j * 6 + 2, none⟩ = some (.int .i64 fs[j].2.2.1) ∧ w.cell? ⟨b, o + j * 6 + 3, none⟩ = some (.int .i64 fs[j].2.2.2.1) ∧ w.cell? ⟨b, o + j * 6 + 4, none⟩ = some (.int .i64 fs[j].2.2.2.2.1) ∧ w.cell? ⟨b, o + j * 6 + 5, none⟩ = some (.int .i64 fs[j].2.2.2.2.2)

/-- A slice of files, as it reads. -/
def FlsAt (w : World) (v : Value) (fs : List Fl) : Prop :=
  (∃ p c, v = .slice p 0 c ∧ (p = none → c = 0) ∧ fs = []) ∨ ∃ b o cap, v = .slice (some ⟨b, o, none⟩) fs.length cap ∧ fs.length ≤ cap ∧ FlCells w b o fs

theorem FlCells.below {w w' : World} {b o : Nat} {fs : List Fl} (h : FlCells w b o fs) (hb : Below w.heap.size w w') : FlCells w' b o fs :=
  fun j hj => ⟨below_keep hb (h j hj).1, below_keep hb (h j hj).2.1, below_keep hb (h j hj).2.2.1, below_keep hb (h j hj).2.2.2.1, below_keep hb (h j hj).2.2.2.2.1, below_keep hb (h j hj).2.2.2.2.2⟩

theorem FlsAt.below {w w' : World} {v : Value} {fs : List Fl} (h : FlsAt w v fs) (hb : Below w.heap.size w w') : FlsAt w' v fs := by
  rcases h with h | ⟨b, o, cap, hv, hl, hc⟩
  · exact Or.inl h
  · exact Or.inr ⟨b, o, cap, hv, hl, hc.below hb⟩

theorem FlsAt.form {w : World} {v : Value} {fs : List Fl} (h : FlsAt w v fs) : ∃ p c, v = .slice p fs.length c := by
  rcases h with ⟨p, c, rfl, _, rfl⟩ | ⟨b, o, cap, rfl, _⟩
  · exact ⟨_, _, rfl⟩
  · exact ⟨_, _, rfl⟩

theorem FlsAt.cells {w : World} {q : Option Addr} {n c : Nat} {fs : List Fl} (h : FlsAt w (.slice q n c) fs) (hne : fs ≠ []) : ∃ b o, q = some ⟨b, o, none⟩ ∧ FlCells w b o fs := by
  rcases h with ⟨_, _, _, _, e⟩ | ⟨b, o, cap, e, _, hc⟩
  · exact absurd e hne
  · simp only [Value.slice.injEq] at e
    exact ⟨b, o, e.1, hc⟩

theorem FlsAt.room {w : World} {q : Option Addr} {n c : Nat} {fs : List Fl} (h : FlsAt w (.slice q n c) fs) : n = fs.length ∧ (fs ≠ [] → n ≤ c) := by
  rcases h with ⟨p, c', e, _, rfl⟩ | ⟨b, o, cap, e, hl, hc⟩
  · simp only [Value.slice.injEq] at e
    exact ⟨e.2.1, fun h => absurd rfl h⟩
  · simp only [Value.slice.injEq] at e
    obtain ⟨_, rfl, rfl⟩ := e
    exact ⟨rfl, fun _ => hl⟩

def flatF (fs : List Fl) : List Value := fs.flatMap encF

theorem encF_len (f : Fl) : (encF f).length = 6 := rfl
theorem encF_one (f : Fl) : ∀ u ∈ encF f, u.oneCell' = true := by
  intro u hu
  simp only [encF, List.mem_cons, List.not_mem_nil, or_false] at hu
  rcases hu with rfl | rfl | rfl | rfl | rfl | rfl <;> rfl

theorem flatF_len : ∀ fs : List Fl, (flatF fs).length = fs.length * 6
  | [] => rfl
  | f :: fs => by
    have := flatF_len fs
    simp only [flatF, List.flatMap_cons, List.length_append, List.length_cons] at *
    rw [this, encF_len]; omega

theorem flatF_one (fs : List Fl) : ∀ u ∈ flatF fs, u.oneCell' = true := by
  intro u hu
  simp only [flatF, List.mem_flatMap] at hu
  obtain ⟨f, _, hf⟩ := hu
  exact encF_one f u hf

theorem flatF_append (xs ys : List Fl) : flatF (xs ++ ys) = flatF xs ++ flatF ys := by simp [flatF]

theorem flatF_get : ∀ (fs : List Fl) (j c : Nat) (h : j < fs.length), c < 6 → (flatF fs)[j * 6 + c]? = (encF fs[j])[c]?
  | [], j, _, h, _ => by simp at h
  | f :: fs, 0, c, _, hc => by
    simp only [flatF, List.flatMap_cons, Nat.zero_mul, Nat.zero_add, List.getElem_cons_zero]
    rw [List.getElem?_append_left (by rw [encF_len]; exact hc)]
  | f :: fs, j + 1, c, h, hc => by
    have hj : j < fs.length := by simp at h; omega
    have := flatF_get fs j c hj hc
    simp only [flatF, List.flatMap_cons, List.getElem_cons_succ] at *
    rw [List.getElem?_append_right (by rw [encF_len]; omega), encF_len, show (j + 1) * 6 + c - 6 = j * 6 + c by omega]
    exact this

theorem cellsF_flat {w : World} {b o : Nat} {fs : List Fl} (h : FlCells w b o fs) : ∀ t u, (flatF fs)[t]? = some u → w.cell? ⟨b, o + t, none⟩ = some u := by
  intro t u hu
  have ht : t < (flatF fs).length := by
    rcases Nat.lt_or_ge t (flatF fs).length with h' | h'
    · exact h'
    · rw [List.getElem?_eq_none h'] at hu; cases hu
  rw [flatF_len] at ht
  have hj : t / 6 < fs.length := by omega
  have e : t = t / 6 * 6 + t % 6 := by omega
  rw [e, flatF_get fs (t / 6) (t % 6) hj (by omega)] at hu
  obtain ⟨h0, h1, h2, h3, h4, h5⟩ := h (t / 6) hj
  have hm : t % 6 = 0 ∨ t % 6 = 1 ∨ t % 6 = 2 ∨ t % 6 = 3 ∨ t % 6 = 4 ∨ t % 6 = 5 := by omega
  rcases hm with hm | hm | hm | hm | hm | hm <;> rw [hm] at hu <;> simp only [encF, List.getElem?_cons_succ, List.getElem?_cons_zero, Option.some.injEq] at hu
  · rw [← hu, ← h0]; congr 2; omega
  · rw [← hu, ← h1]; congr 2; omega
  · rw [← hu, ← h2]; congr 2; omega
  · rw [← hu, ← h3]; congr 2; omega
  · rw [← hu, ← h4]; congr 2; omega
  · rw [← hu, ← h5]; congr 2; omega

theorem flCells_of {w : World} {b o : Nat} {fs : List Fl} (h : ∀ t u, (flatF fs)[t]? = some u → w.cell? ⟨b, o + t, none⟩ = some u) : FlCells w b o fs := fun j hj => by
  have g : ∀ c (hc : c < 6), w.cell? ⟨b, o + (j * 6 + c), none⟩ = (encF fs[j])[c]? := fun c hc => by
    have e := flatF_get fs j c hj hc
    have hl : c < (encF fs[j]).length := by rw [encF_len]; exact hc
    rw [List.getElem?_eq_getElem hl] at e ⊢
    exact h _ _ e
  refine ⟨?_, ?_, ?_, ?_, ?_, ?_⟩
  · simpa [encF] using g 0 (by omega)
  · simpa [encF, Nat.add_assoc] using g 1 (by omega)
  · simpa [encF, Nat.add_assoc] using g 2 (by omega)
  · simpa [encF, Nat.add_assoc] using g 3 (by omega)
  · simpa [encF, Nat.add_assoc] using g 4 (by omega)
  · simpa [encF, Nat.add_assoc] using g 5 (by omega)

end Go.Proofs.YtniipgaacdpncaaGreatDoor
