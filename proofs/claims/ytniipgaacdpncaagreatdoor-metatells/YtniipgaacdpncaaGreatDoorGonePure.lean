/-
  Plain mathematics of keys that rise, each once.
-/
import Derived.Test.YtniipgaacdpncaaGreatDoorRowCut
import Derived.Test.YtniipgaacdpncaaGreatDoorDataPure
import Derived.Lib.SlicesCompact
namespace Go.Proofs.YtniipgaacdpncaaGreatDoor
open Go.RowKit Go.Extern.Stop Go.Stop Go.Extern Go.Sort Go.Shelf Go.Lib

/-- The keys, rising, each once. -/
def riseZ (zs : List Int) : List Int := Lib.compact (sortZ zs)

theorem compact_up (d : Array Int) (hs : ∀ i j, i ≤ j → j < d.size → d[i]! ≤ d[j]!) : ∀ m, m ≤ d.size → (compactUpTo d m).Pairwise (· < ·) ∧ (∀ x, x ∈ compactUpTo d m ↔ ∃ j, j < m ∧ d[j]! = x) ∧ ∀ x ∈ compactUpTo d m, ∀ j, m ≤ j + 1 → j < d.size → x ≤ d[j]! := by
  intro m
  induction m with
  | zero => intro _; exact ⟨by simp [compactUpTo], by simp [compactUpTo], by simp [compactUpTo]⟩
  | succ m ih =>
    intro hm
    obtain ⟨h1, h2, h3⟩ := ih (by omega)
    rw [compactUpTo_succ]
    cases hk : keeps d m with
    | true =>
      simp only [if_true]
      have hlt : ∀ x ∈ compactUpTo d m, x < d[m]! := by
        intro x hx
        have hm0 : m ≠ 0 := by
          intro e; subst e
          obtain ⟨j, hj, _⟩ := (h2 x).1 hx
          omega
        simp only [keeps, decide_eq_true_eq] at hk
        rcases hk with hk | hk
        · exact absurd hk hm0
        · have a1 := h3 x hx (m - 1) (by omega) (by omega)
          have a2 := hs (m - 1) m (by omega) (by omega)
          omega
      refine ⟨List.pairwise_append.2 ⟨h1, List.pairwise_singleton _ _, fun x hx y hy => by rw [List.mem_singleton.1 hy]; exact hlt x hx⟩, fun x => ?_, fun x hx j hj1 hj2 => ?_⟩
      · rw [List.mem_append, List.mem_singleton, h2]
        constructor
        · rintro (⟨j, hj, e⟩ | e)
          · exact ⟨j, by omega, e⟩
          · exact ⟨m, by omega, e.symm⟩
        · rintro ⟨j, hj, e⟩
          rcases Nat.lt_or_ge j m with h | h
          · exact Or.inl ⟨j, h, e⟩
          · have : j = m := by omega
            subst this; exact Or.inr e.symm
      · rw [List.mem_append, List.mem_singleton] at hx
        have hmj := hs m j (by omega) hj2
        rcases hx with hx | hx
        · have := hlt x hx; omega
        · omega
    | false =>
      simp only [Bool.false_eq_true, if_false, List.append_nil]
      simp only [keeps, decide_eq_false_iff_not, not_or, ne_eq, Classical.not_not] at hk
      refine ⟨h1, fun x => ?_, fun x hx j hj1 hj2 => h3 x hx j (by omega) hj2⟩
      rw [h2]
      constructor
      · rintro ⟨j, hj, e⟩; exact ⟨j, by omega, e⟩
      · rintro ⟨j, hj, e⟩
        rcases Nat.lt_or_ge j m with h | h
        · exact ⟨j, h, e⟩
        · have : j = m := by omega
          subst this
          exact ⟨j - 1, by omega, by rw [← e, hk.2]⟩

theorem sortZ_get (zs : List Int) (i j : Nat) (hij : i ≤ j) (hj : j < (sortZ zs).toArray.size) : (sortZ zs).toArray[i]! ≤ (sortZ zs).toArray[j]! := by
  have hj' : j < (sortZ zs).length := by simpa using hj
  rw [getElem!_pos _ i (by omega), getElem!_pos _ j hj]
  simp only [List.getElem_toArray]
  rcases Nat.lt_or_eq_of_le hij with h | h
  · exact List.pairwise_iff_getElem.1 (sortZ_sorted zs) i j (by omega) hj' h
  · subst h; exact Int.le_refl _

theorem rise_sorted (zs : List Int) : (riseZ zs).Pairwise (· < ·) := by
  have h := compact_up (sortZ zs).toArray (sortZ_get zs) (sortZ zs).length (by simp)
  exact h.1
theorem rise_mem (zs : List Int) (x : Int) : x ∈ riseZ zs ↔ x ∈ zs := by
  have h := (compact_up (sortZ zs).toArray (sortZ_get zs) (sortZ zs).length (by simp)).2.1 x
  show x ∈ compactUpTo (sortZ zs).toArray (sortZ zs).length ↔ _
  rw [h, ← sortZ_mem zs x]
  constructor
  · rintro ⟨j, hj, e⟩
    rw [getElem!_pos _ j (by simpa using hj)] at e
    rw [← e]
    simp only [List.getElem_toArray]
    exact List.getElem_mem _
  · intro hx
    obtain ⟨j, hj, e⟩ := List.mem_iff_getElem.1 hx
    exact ⟨j, hj, by rw [getElem!_pos _ j (by simpa using hj)]; simpa using e⟩

theorem rise_unique : ∀ xs ys : List Int, xs.Pairwise (· < ·) → ys.Pairwise (· < ·) → (∀ x, x ∈ xs ↔ x ∈ ys) → xs = ys
  | [], [], _, _, _ => rfl
  | [], y :: ys, _, _, h => absurd ((h y).2 List.mem_cons_self) (by simp)
  | x :: xs, [], _, _, h => absurd ((h x).1 List.mem_cons_self) (by simp)
  | x :: xs, y :: ys, hx, hy, h => by
    obtain ⟨hx1, hx2⟩ := List.pairwise_cons.1 hx
    obtain ⟨hy1, hy2⟩ := List.pairwise_cons.1 hy
    have e : x = y := by
      have a := (h x).1 List.mem_cons_self
      have b := (h y).2 List.mem_cons_self
      rcases List.mem_cons.1 a with a | a
      · exact a
      · rcases List.mem_cons.1 b with b | b
        · exact b.symm
        · have := hx1 y b; have := hy1 x a; omega
    subst e
    rw [rise_unique xs ys hx2 hy2 fun z => ⟨fun hz => by
      rcases List.mem_cons.1 ((h z).1 (List.mem_cons_of_mem _ hz)) with q | q
      · have := hx1 z hz; omega
      · exact q, fun hz => by
      rcases List.mem_cons.1 ((h z).2 (List.mem_cons_of_mem _ hz)) with q | q
      · have := hy1 z hz; omega
      · exact q⟩]

theorem rise_is {xs zs : List Int} (h : xs.Pairwise (· < ·)) (hm : ∀ x, x ∈ xs ↔ x ∈ zs) : riseZ zs = xs :=
  rise_unique _ _ (rise_sorted zs) h fun x => (rise_mem zs x).trans (hm x).symm

theorem rise_len (zs : List Int) : (riseZ zs).length ≤ zs.length := by
  have h : (riseZ zs).length ≤ (sortZ zs).length := by
    unfold riseZ Lib.compact compactUpTo
    rw [List.length_map]
    refine Nat.le_trans (List.length_filter_le _ _) ?_
    simp
  rw [sortZ_len] at h
  exact h

theorem rise_nil : riseZ [] = [] := rise_is List.Pairwise.nil (fun _ => Iff.rfl)

/-- Keys that rise may stand behind each other. -/
theorem rise_good (zs : List Int) : (riseZ zs).Pairwise (fun x y => goneK.bad y x = false) := (rise_sorted zs).imp fun {a b} h => by
  show decide (b ≤ a) = false
  rw [decide_eq_false_iff_not]; omega

/-- What a text of keys is. -/
abbrev goneO (s : List UInt8) : List Int × Nat × Option Nat := readG goneK s
abbrev goneF (zs : List Int) : List UInt8 := fileG goneK zs
end Go.Proofs.YtniipgaacdpncaaGreatDoor
