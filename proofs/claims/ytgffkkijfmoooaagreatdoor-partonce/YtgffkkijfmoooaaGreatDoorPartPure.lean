/-
  Plain facts of groups: the names rise, each once; the groups together are the rows.
-/
import Derived.Test.YtgffkkijfmoooaaGreatDoorPartBad
namespace Go.Proofs.YtgffkkijfmoooaaGreatDoor
open Go.RowKit Go.Extern.Stop Go.Stop Go.Extern Go.Sort Go.Shelf Go.Lib

theorem sum_single (k : List UInt8) (c : Nat) : ∀ ts : List (List UInt8), ts.Nodup → (ts.map fun nm => if k = nm then c else 0).sum = if k ∈ ts then c else 0
  | [], _ => by simp
  | t :: ts, h => by
    rw [List.nodup_cons] at h
    simp only [List.map_cons, List.sum_cons, sum_single k c ts h.2, List.mem_cons]
    by_cases e : k = t
    · subst e; simp [h.1]
    · simp [e]

theorem groups_any {α : Type} [DecidableEq α] (f : α → List UInt8) (xs : List α) (ts : List (List UInt8)) (hn : ts.Nodup) (hm : ∀ nm, nm ∈ ts ↔ (xs.filter fun x => decide (f x = nm)) ≠ []) : (ts.flatMap fun nm => xs.filter fun x => decide (f x = nm)).Perm xs := by
  rw [List.perm_iff_count]
  intro a
  rw [List.count_flatMap]
  have e : (List.count a ∘ fun nm => xs.filter fun x => decide (f x = nm)) = fun nm => if f a = nm then xs.count a else 0 := by
    funext nm
    simp only [Function.comp_def]
    by_cases h : f a = nm
    · rw [if_pos h, List.count_filter (by simpa using h)]
    · rw [if_neg h, List.count_eq_zero]
      simp [h]
  rw [e, sum_single _ _ ts hn]
  split
  · rfl
  · rename_i h
    rw [hm] at h
    symm
    rw [List.count_eq_zero]
    intro ha
    exact h (List.ne_nil_of_mem (List.mem_filter.2 ⟨ha, by simp⟩))

/-- The groups together are the rows. -/
theorem groups_perm (p : Rw → ByteArray) (xs : List Rw) (ts : List (List UInt8)) (hn : ts.Nodup) (hm : ∀ nm, nm ∈ ts ↔ grp p xs nm ≠ []) : (ts.flatMap (grp p xs)).Perm xs :=
  @groups_any Rw (fun a b => Classical.propDecidable (a = b)) (fun x => (p x).data.toList) xs ts hn hm

/-- The names, rising. -/
theorem names_rise {W : World} {base bm : Nat} {p : Rw → ByteArray} {ys : List Rw} {D : DataW Unit} {hv : List UInt8 → Value} (h : Grp W base bm p ys D hv) {ss ts : List (List UInt8)} (hS : ss.Perm (strKeys D)) (ht : ts = ss.mergeSort (fun x y => decide (x ≤ y))) :
    ts.Pairwise (fun x y => ¬ y ≤ x) ∧ ts.Nodup ∧ (∀ nm, nm ∈ ts ↔ grp p ys nm ≠ []) ∧ ts.length ≤ ys.length := by
  have hp : ts.Perm (strKeys D) := by rw [ht]; exact (List.mergeSort_perm _ _).trans hS
  have hnd : ts.Nodup := by
    rw [hp.nodup_iff]
    obtain ⟨es, he, hpw, _⟩ := h.map.entries (Maps.string_keyed Tryz.underlying9)
    subst he
    show (es.map fun q => strOf q.1).Nodup
    refine List.pairwise_map.2 (hpw.imp_of_mem fun {q r} hq hr hne e => hne ?_)
    obtain ⟨x, hx⟩ := h.keys es rfl q hq
    obtain ⟨y, hy⟩ := h.keys es rfl r hr
    rw [hx, hy] at e ⊢
    exact congrArg _ e
  have hso : ts.Pairwise (fun x y => decide (x ≤ y) = true) := by
    rw [ht]
    exact List.pairwise_mergeSort (fun a b c h1 h2 => by simp only [decide_eq_true_eq] at *; exact List.le_trans h1 h2) (fun a b => by simp only [Bool.or_eq_true, decide_eq_true_eq]; exact List.le_total a b) ss
  refine ⟨?_, hnd, fun nm => by rw [hp.mem_iff]; exact h.key_mem nm, by rw [hp.length_eq, strKeys_len D h.isMap]; exact h.size⟩
  refine (List.pairwise_and_iff.2 ⟨hso, hnd⟩).imp fun {a b} hab hle => ?_
  exact hab.2 (List.le_antisymm (by simpa using hab.1) hle)

theorem two_get (hv : List UInt8 → Value) : ∀ (ts : List (List UInt8)) (i : Nat) (h : i < ts.length), (ts.flatMap fun nm => [encStr nm, hv nm])[i * 2]? = some (encStr ts[i]) ∧ (ts.flatMap fun nm => [encStr nm, hv nm])[i * 2 + 1]? = some (hv ts[i])
  | [], i, h => by simp at h
  | t :: ts, 0, _ => by simp
  | t :: ts, i + 1, h => by
    have ih := two_get hv ts i (by simpa using h)
    rw [show (i + 1) * 2 = i * 2 + 2 by omega]
    simpa using ih

/-- A list of groups, as it reads. -/
structure GroupsAt (W : World) (gq : Option Addr) (ts : List (List UInt8)) (hv : List UInt8 → Value) (G : List UInt8 → List Rw) : Prop where
  cells : ∀ i (h : i < ts.length), ∃ gg, gq = some ⟨gg, 0, none⟩ ∧ W.cell? ⟨gg, i * 2, none⟩ = some (encStr ts[i]) ∧ W.cell? ⟨gg, i * 2 + 1, none⟩ = some (hv ts[i])
  rows : ∀ nm, RowsAt W (hv nm) (G nm)

theorem GroupsAt.below {W W' : World} {gq : Option Addr} {ts : List (List UInt8)} {hv : List UInt8 → Value} {G : List UInt8 → List Rw} (h : GroupsAt W gq ts hv G) (hb : Below W.heap.size W W') : GroupsAt W' gq ts hv G :=
  ⟨fun i hi => by obtain ⟨gg, e, c1, c2⟩ := h.cells i hi; exact ⟨gg, e, below_keep hb c1, below_keep hb c2⟩, fun nm => (h.rows nm).below hb⟩

theorem groupsAt_of {W : World} {base b1 b2 : Nat} {gq : Option Addr} {gc : Nat} {ts : List (List UInt8)} {hv : List UInt8 → Value} {p : Rw → ByteArray} {xs : List Rw} {D : DataW Unit} (h : W.ownsRow base 51 2 (.slice gq ts.length gc) ts.length (ts.flatMap fun nm => [encStr nm, hv nm])) (hG : Grp W b1 b2 p xs D hv) :
    GroupsAt W gq ts hv (grp p xs) := by
  refine ⟨fun i hi => ?_, fun nm => (rowsAt_of_own (hG.own nm)).1⟩
  rcases h.2 with ⟨_, h0⟩ | ⟨g, cap, cur, e, _, hg, _, _, _, ht⟩
  · omega
  · injection e with e1 e2 e3
    refine ⟨g, e1, ?_, ?_⟩
    · have := (two_get hv ts i hi).1
      rw [← ht, List.getElem?_take, if_pos (by omega)] at this
      simp only [World.cell?, hg]
      simpa using this
    · have := (two_get hv ts i hi).2
      rw [← ht, List.getElem?_take, if_pos (by omega)] at this
      simp only [World.cell?, hg]
      simpa using this

theorem leq_false {x y : List UInt8} (h : ¬ x ≤ y) : (Op.bytesLess x y || x == y) = false := by
  rw [bytesLess_eq]
  simp only [Bool.or_eq_false_iff, decide_eq_false_iff_not, beq_eq_false_iff_ne]
  exact ⟨fun hl => h (List.le_of_lt hl), fun e => h (e ▸ List.le_refl _)⟩
end Go.Proofs.YtgffkkijfmoooaaGreatDoor
