/-
  The document's own store in memory; the contracts of NewStore, Find, isObject, written, SetCut, On, Next, Get and Swap.
-/
import Derived.Test.YtmcfklkpdhgjdaaDoorObMem
namespace Go.Proofs.YtmcfklkpdhgjdaaDoor
open Go.RowKit Go.Extern.Stop Go.Stop Go.Extern Go.Sort Go.Shelf Go.Lib

/-- Objects lie in no store's block. -/
def OffB (v : Value) (l : List Ob) (R : Nat) : Prop := ∀ b o c n, v = .slice (some ⟨b, o, none⟩) n c → l ≠ [] → b ≠ R
theorem ObsAt.set_off {W : World} {R : Nat} {v : Value} {l : List Ob} (h : ObsAt W v l) (ho : OffB v l R) (k : Nat) (z : Value) : ObsAt (W.setCell ⟨R, k, none⟩ z) v l := by
  rcases h with h | ⟨b, o, c, hv, hl, hc⟩
  · exact Or.inl h
  · by_cases hne : l = []
    · exact Or.inl ⟨some ⟨b, o, none⟩, c, by rw [hv, hne]; rfl, fun e => (nomatch e), hne⟩
    · have hb := ho b o c _ hv hne
      have hk : ∀ p, (W.setCell ⟨R, k, none⟩ z).cell? ⟨b, p, none⟩ = W.cell? ⟨b, p, none⟩ := fun p => World.cell?_setCell_other _ _ _ _ (by intro e; injection e with e; exact hb e.symm)
      refine Or.inr ⟨b, o, c, hv, hl, fun j hj => ?_⟩
      obtain ⟨h0, h1, h2⟩ := hc j hj
      exact ⟨(hk _).trans h0, (hk _).trans h1, (hk _).trans h2⟩

/-- A method's list is the one that was, or a newer one. -/
def MNew (W : World) (b : Nat) (w' : World) : Prop := ∀ vL, W.cell? ⟨b, 0, none⟩ = some vL → ∃ vL', w'.cell? ⟨b, 0, none⟩ = some vL' ∧ (vL' = vL ∨ ∀ a n c, vL' = .slice (some a) n c → W.heap.size ≤ a.block)
theorem MNew.refl (W : World) (b : Nat) : MNew W b W := fun vL h => ⟨vL, h, Or.inl rfl⟩
theorem MNew.same {W w' : World} {b : Nat} {vL : Value} (h : W.cell? ⟨b, 0, none⟩ = some vL) (h' : w'.cell? ⟨b, 0, none⟩ = some vL) : MNew W b w' := fun v hv => by
  rw [h] at hv
  cases hv
  exact ⟨vL, h', Or.inl rfl⟩
theorem MNew.fresh {W w' : World} {b B : Nat} {e : TypeId} {size : Nat} {v : Value} {n : Nat} {xs : List Value} {w2 : World} (h' : w'.cell? ⟨b, 0, none⟩ = some v) (ho : w2.ownsRow B e size v n xs) (hB : W.heap.size ≤ B) : MNew W b w' := fun _ _ => ⟨v, h', Or.inr fun a n' c e => by
  rcases ho.2 with ⟨e2, _⟩ | ⟨g', cap', cur, e2, hg', _⟩
  · rw [e2] at e; simp at e
  · rw [e2] at e
    simp only [Value.slice.injEq, Option.some.injEq] at e
    rw [← e.1]
    exact Nat.le_trans hB hg'⟩
/-- The place of a name (-1: none). -/
def findI (l : List Ob) (n : ByteArray) : Int := match l.findIdx? (fun o => decide (o.1 = n)) with
  | some i => i
  | none => -1
theorem findI_at {l : List Ob} {n : ByteArray} {j : Nat} (hj : j < l.length) (h : ∀ i (h : i < l.length), i < j → l[i].1 ≠ n) (e : l[j].1 = n) : findI l n = j ∧ getO l n = some l[j] := by
  have h1 : l.findIdx? (fun o => decide (o.1 = n)) = some j := by
    rw [List.findIdx?_eq_some_iff_getElem]
    exact ⟨hj, by simpa using e, fun i hi => by simpa using h i (by omega) hi⟩
  refine ⟨by unfold findI; rw [h1], ?_⟩
  unfold getO
  rw [List.find?_eq_some_iff_getElem]
  exact ⟨by simpa using e, j, hj, rfl, fun i hi => by simpa using h i (by omega) hi⟩
theorem findI_no {l : List Ob} {n : ByteArray} (h : ∀ i (h : i < l.length), l[i].1 ≠ n) : findI l n = -1 ∧ getO l n = none := by
  have h1 : l.findIdx? (fun o => decide (o.1 = n)) = none := by
    rw [List.findIdx?_eq_none_iff]
    intro o ho
    obtain ⟨i, hi, rfl⟩ := List.mem_iff_getElem.1 ho
    simpa using h i hi
  refine ⟨by unfold findI; rw [h1], getO_none.2 fun o ho => ?_⟩
  obtain ⟨i, hi, rfl⟩ := List.mem_iff_getElem.1 ho
  exact h i hi
/-- Whether there is one, and where. -/
theorem findI_get (l : List Ob) (n : ByteArray) : (findI l n = -1 ∧ getO l n = none) ∨ ∃ j, ∃ h : j < l.length, findI l n = j ∧ getO l n = some l[j] ∧ l[j].1 = n ∧ ∀ i (h : i < l.length), i < j → l[i].1 ≠ n := by
  unfold findI
  cases e : l.findIdx? (fun o => decide (o.1 = n)) with
  | none =>
    rw [List.findIdx?_eq_none_iff] at e
    exact Or.inl ⟨rfl, getO_none.2 fun o ho => by simpa using e o ho⟩
  | some j =>
    rw [List.findIdx?_eq_some_iff_getElem] at e
    obtain ⟨hj, h1, h2⟩ := e
    have h3 : ∀ i (h : i < l.length), i < j → l[i].1 ≠ n := fun i hi hij => by simpa using h2 i hij
    have h4 : l[j].1 = n := by simpa using h1
    exact Or.inr ⟨j, hj, rfl, (findI_at hj h3 h4).2, h4, h3⟩

theorem nm_eq {a b : ByteArray} (h : a = b) : (a.toList == b.toList) = true := by subst h; simp
theorem nm_ne {a b : ByteArray} (h : a ≠ b) : (a.toList == b.toList) = false := by
  rw [beq_eq_false_iff_ne]
  intro e
  apply h
  rw [ByteArray.toList_eq, ByteArray.toList_eq] at e
  exact name_ext e

theorem signB_int (c : UInt8) : signB c = ((decide (97 ≤ (c.toNat : Int)) && decide ((c.toNat : Int) ≤ 122)) || (decide (48 ≤ (c.toNat : Int)) && decide ((c.toNat : Int) ≤ 57)) || decide ((c.toNat : Int) = 47)) := by
  unfold signB
  have e1 : decide (97 ≤ c.toNat) = decide (97 ≤ (c.toNat : Int)) := by congr 1; exact propext (by omega)
  have e2 : decide (c.toNat ≤ 122) = decide ((c.toNat : Int) ≤ 122) := by congr 1; exact propext (by omega)
  have e3 : decide (48 ≤ c.toNat) = decide (48 ≤ (c.toNat : Int)) := by congr 1; exact propext (by omega)
  have e4 : decide (c.toNat ≤ 57) = decide ((c.toNat : Int) ≤ 57) := by congr 1; exact propext (by omega)
  have e5 : decide (c.toNat = 47) = decide ((c.toNat : Int) = 47) := by congr 1; exact propext (by omega)
  rw [e1, e2, e3, e4, e5]

end Go.Proofs.YtmcfklkpdhgjdaaDoor
