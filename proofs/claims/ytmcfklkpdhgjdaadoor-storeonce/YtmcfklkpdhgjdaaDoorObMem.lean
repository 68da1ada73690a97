/-
  Objects in memory: three cells an element; what turns but for some blocks.
-/
import Derived.Test.YtmcfklkpdhgjdaaDoorStorePure
import Derived.Test.YtmcfklkpdhgjdaaDoorAppendSrc
namespace Go.Proofs.YtmcfklkpdhgjdaaDoor
open Go.RowKit Go.Extern.Stop Go.Stop Go.Extern Go.Sort Go.Shelf Go.Lib

/-- All but some blocks is as it was; what is new is free. -/
structure But (P : Nat → Prop) (w w' : World) : Prop where
  os : w'.os = w.os
  tape : w'.tape = w.tape
  output : w'.output = w.output
  size : w.heap.size ≤ w'.heap.size
  block : ∀ k, k < w.heap.size → ¬ P k → w'.heap[k]? = w.heap[k]?

theorem But.refl (P : Nat → Prop) (w : World) : But P w w := ⟨rfl, rfl, rfl, Nat.le_refl _, fun _ _ _ => rfl⟩
theorem But.trans {P Q : Nat → Prop} {a b c : World} (h : But P a b) (k : But Q b c) (hq : ∀ i, Q i → i < a.heap.size → P i) : But P a c :=
  ⟨k.os.trans h.os, k.tape.trans h.tape, k.output.trans h.output, Nat.le_trans h.size k.size, fun i hi hp => (k.block i (Nat.lt_of_lt_of_le hi h.size) (fun hQ => hp (hq i hQ hi))).trans (h.block i hi hp)⟩
theorem But.of_below {P : Nat → Prop} {w w' : World} (h : Below w.heap.size w w') : But P w w' := ⟨h.os, h.tape, h.output, h.size, fun k hk _ => h.block k hk⟩
theorem But.below {P : Nat → Prop} {w w' : World} (h : But P w w') {B : Nat} (hB : B ≤ w.heap.size) (hp : ∀ k, P k → B ≤ k) : Below B w w' :=
  ⟨h.os, h.tape, h.output, h.size, fun k hk => h.block k (Nat.lt_of_lt_of_le hk hB) (fun hP => Nat.lt_irrefl _ (Nat.lt_of_lt_of_le hk (hp k hP)))⟩
theorem But.mono {P Q : Nat → Prop} {w w' : World} (h : But P w w') (hq : ∀ k, P k → Q k) : But Q w w' := ⟨h.os, h.tape, h.output, h.size, fun k hk hQ => h.block k hk (fun hP => hQ (hq k hP))⟩
theorem But.setCell {P : Nat → Prop} {a w : World} (h : But P a w) {b o : Nat} (hp : P b ∨ a.heap.size ≤ b) (u : Value) : But P a (w.setCell ⟨b, o, none⟩ u) := by
  refine ⟨h.os, h.tape, h.output, ?_, fun k hk hP => ?_⟩
  · have : (w.setCell ⟨b, o, none⟩ u).heap.size = w.heap.size := by simp [World.setCell]
    rw [this]; exact h.size
  · rw [heap_setCell_other _ _ _ _ (fun e => by
      subst e
      rcases hp with hp | hp
      · exact hP hp
      · omega)]
    exact h.block k hk hP
theorem But.keep {P : Nat → Prop} {w w' : World} (h : But P w w') {b o : Nat} {v : Value} (hb : ¬ P b) (hc : w.cell? ⟨b, o, none⟩ = some v) : w'.cell? ⟨b, o, none⟩ = some v := by
  have e := h.block b (cell_lt hc) hb
  rw [← hc]
  unfold World.cell?
  rw [e]

/-- The cells of an object. -/
def encO (f : Ob) : List Value := [.string f.1, .string f.2.1, .int .i64 f.2.2]

/-- Objects from a cell on. -/
def ObCells (w : World) (b o : Nat) (fs : List Ob) : Prop :=
  ∀ j (h : j < fs.length), w.cell? ⟨b, o + j * 3, none⟩ = some (.string fs[j].1) ∧ w.cell? ⟨b, o + j * 3 + 1, none⟩ = some (.string fs[j].2.1) ∧ w.cell? ⟨b, o + j * 3 + 2, none⟩ = some (.int .i64 fs[j].2.2)

/-- A slice of objects, as it reads. -/
def ObsAt (w : World) (v : Value) (fs : List Ob) : Prop :=
  (∃ p c, v = .slice p 0 c ∧ (p = none → c = 0) ∧ fs = []) ∨ ∃ b o cap, v = .slice (some ⟨b, o, none⟩) fs.length cap ∧ fs.length ≤ cap ∧ ObCells w b o fs

theorem ObCells.below {w w' : World} {b o : Nat} {fs : List Ob} (h : ObCells w b o fs) (hb : Below w.heap.size w w') : ObCells w' b o fs :=
  fun j hj => ⟨below_keep hb (h j hj).1, below_keep hb (h j hj).2.1, below_keep hb (h j hj).2.2⟩
theorem ObsAt.below {w w' : World} {v : Value} {fs : List Ob} (h : ObsAt w v fs) (hb : Below w.heap.size w w') : ObsAt w' v fs := by
  rcases h with h | ⟨b, o, cap, hv, hl, hc⟩
  · exact Or.inl h
  · exact Or.inr ⟨b, o, cap, hv, hl, hc.below hb⟩
theorem ObsAt.form {w : World} {v : Value} {fs : List Ob} (h : ObsAt w v fs) : ∃ p c, v = .slice p fs.length c := by
  rcases h with ⟨p, c, rfl, _, rfl⟩ | ⟨b, o, cap, rfl, _⟩
  · exact ⟨_, _, rfl⟩
  · exact ⟨_, _, rfl⟩
theorem ObsAt.cells {w : World} {q : Option Addr} {n c : Nat} {fs : List Ob} (h : ObsAt w (.slice q n c) fs) (hne : fs ≠ []) : ∃ b o, q = some ⟨b, o, none⟩ ∧ ObCells w b o fs := by
  rcases h with ⟨_, _, _, _, e⟩ | ⟨b, o, cap, e, _, hc⟩
  · exact absurd e hne
  · simp only [Value.slice.injEq] at e
    exact ⟨b, o, e.1, hc⟩
theorem ObsAt.room {w : World} {q : Option Addr} {n c : Nat} {fs : List Ob} (h : ObsAt w (.slice q n c) fs) : n = fs.length ∧ (fs ≠ [] → n ≤ c) := by
  rcases h with ⟨p, c', e, _, rfl⟩ | ⟨b, o, cap, e, hl, hc⟩
  · simp only [Value.slice.injEq] at e
    exact ⟨e.2.1, fun h => absurd rfl h⟩
  · simp only [Value.slice.injEq] at e
    obtain ⟨_, rfl, rfl⟩ := e
    exact ⟨rfl, fun _ => hl⟩

def flatO (fs : List Ob) : List Value := fs.flatMap encO
theorem encO_len (f : Ob) : (encO f).length = 3 := rfl
theorem encO_one (f : Ob) : ∀ u ∈ encO f, u.oneCell' = true := by
  intro u hu
  simp only [encO, List.mem_cons, List.not_mem_nil, or_false] at hu
  rcases hu with rfl | rfl | rfl <;> rfl
theorem flatO_len : ∀ fs : List Ob, (flatO fs).length = fs.length * 3
  | [] => rfl
  | f :: fs => by
    have := flatO_len fs
    simp only [flatO, List.flatMap_cons, List.length_append, List.length_cons] at *
    rw [this, encO_len]; omega
theorem flatO_one (fs : List Ob) : ∀ u ∈ flatO fs, u.oneCell' = true := by
  intro u hu
  simp only [flatO, List.mem_flatMap] at hu
  obtain ⟨f, _, hf⟩ := hu
  exact encO_one f u hf
theorem flatO_append (xs ys : List Ob) : flatO (xs ++ ys) = flatO xs ++ flatO ys := by simp [flatO]
theorem flatO_get : ∀ (fs : List Ob) (j c : Nat) (h : j < fs.length), c < 3 → (flatO fs)[j * 3 + c]? = (encO fs[j])[c]?
  | [], j, _, h, _ => by simp at h
  | f :: fs, 0, c, _, hc => by
    simp only [flatO, List.flatMap_cons, Nat.zero_mul, Nat.zero_add, List.getElem_cons_zero]
    rw [List.getElem?_append_left (by rw [encO_len]; exact hc)]
  | f :: fs, j + 1, c, h, hc => by
    have hj : j < fs.length := by simp at h; omega
    have := flatO_get fs j c hj hc
    simp only [flatO, List.flatMap_cons, List.getElem_cons_succ] at *
    rw [List.getElem?_append_right (by rw [encO_len]; omega), encO_len, show (j + 1) * 3 + c - 3 = j * 3 + c by omega]
    exact this
theorem cellsO_flat {w : World} {b o : Nat} {fs : List Ob} (h : ObCells w b o fs) : ∀ t u, (flatO fs)[t]? = some u → w.cell? ⟨b, o + t, none⟩ = some u := by
  intro t u hu
  have ht : t < (flatO fs).length := by
    rcases Nat.lt_or_ge t (flatO fs).length with h' | h'
    · exact h'
    · rw [List.getElem?_eq_none h'] at hu; cases hu
  rw [flatO_len] at ht
  have hj : t / 3 < fs.length := by omega
  have e : t = t / 3 * 3 + t % 3 := by omega
  rw [e, flatO_get fs (t / 3) (t % 3) hj (by omega)] at hu
  obtain ⟨h0, h1, h2⟩ := h (t / 3) hj
  have hm : t % 3 = 0 ∨ t % 3 = 1 ∨ t % 3 = 2 := by omega
  rcases hm with hm | hm | hm <;> rw [hm] at hu <;> simp only [encO, List.getElem?_cons_succ, List.getElem?_cons_zero, Option.some.injEq] at hu
  · rw [← hu, ← h0]; congr 2; omega
  · rw [← hu, ← h1]; congr 2; omega
  · rw [← hu, ← h2]; congr 2; omega
theorem obCells_of {w : World} {b o : Nat} {fs : List Ob} (h : ∀ t u, (flatO fs)[t]? = some u → w.cell? ⟨b, o + t, none⟩ = some u) : ObCells w b o fs := fun j hj => by
  have g : ∀ c (hc : c < 3), w.cell? ⟨b, o + (j * 3 + c), none⟩ = (encO fs[j])[c]? := fun c hc => by
    have e := flatO_get fs j c hj hc
    have hl : c < (encO fs[j]).length := by rw [encO_len]; exact hc
    rw [List.getElem?_eq_getElem hl] at e ⊢
    exact h _ _ e
  refine ⟨?_, ?_, ?_⟩
  · simpa [encO] using g 0 (by omega)
  · simpa [encO, Nat.add_assoc] using g 1 (by omega)
  · simpa [encO, Nat.add_assoc] using g 2 (by omega)
end Go.Proofs.YtmcfklkpdhgjdaaDoor
