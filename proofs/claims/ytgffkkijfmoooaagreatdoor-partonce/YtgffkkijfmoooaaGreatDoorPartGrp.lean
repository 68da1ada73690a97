/-
  A map of lists of rows that a call has made: what it is between two rows, and behind one more.
-/
import Derived.Test.YtgffkkijfmoooaaGreatDoorPartOf
import Derived.Test.YtgffkkijfmoooaaGreatDoorRefCut
import Derived.Maps.OwnIn
import Derived.Maps.AppendAt
import Derived.Maps.Views
import Derived.Sort.KeysCollected
namespace Go.Proofs.YtgffkkijfmoooaaGreatDoor
open Go.RowKit Go.Extern.Stop Go.Stop Go.Extern Go.Sort Go.Shelf Go.Lib

/-- How a slice of rows stands in the map: by its head alone. -/
def hdrR : Value → Option (DataW Unit × List MemPlace)
  | .slice none 0 0 => some (.nil, [])
  | .slice (some ⟨g, 0, none⟩) n c => some (.agg [.lit (.int .i64 g), .lit (.int .i64 n), .lit (.int .i64 c)], [])
  | _ => none

theorem hdrR_places {v : Value} {z : DataW Unit × List MemPlace} (h : hdrR v = some z) : z.2 = [] := by
  unfold hdrR at h
  split at h
  · cases h; rfl
  · cases h; rfl
  · cases h

theorem hdrR_inj {v v' : Value} {z : DataW Unit × List MemPlace} (h : hdrR v = some z) (h' : hdrR v' = some z) : v = v' := by
  unfold hdrR at h
  split at h
  · cases h
    unfold hdrR at h'
    split at h'
    · rfl
    · cases h'
    · cases h'
  · cases h
    unfold hdrR at h'
    split at h'
    · cases h'
    · simp only [Option.some.injEq, Prod.mk.injEq, and_true, DataW.agg.injEq, List.cons.injEq, DataW.lit.injEq, Lit.int.injEq, true_and] at h'
      obtain ⟨e1, e2, e3⟩ := h'
      have e1' := Int.ofNat.inj e1
      have e2' := Int.ofNat.inj e2
      have e3' := Int.ofNat.inj e3
      subst e1' e2' e3'
      rfl
    · cases h'
  · cases h

/-- The rows of a name. -/
def grp (p : Rw → ByteArray) (ys : List Rw) (nm : List UInt8) : List Rw := ys.filter fun x => decide ((p x).data.toList = nm)

theorem grp_snoc (p : Rw → ByteArray) (ys : List Rw) (x : Rw) (nm : List UInt8) : grp p (ys ++ [x]) nm = grp p ys nm ++ if (p x).data.toList = nm then [x] else [] := by
  unfold grp
  rw [List.filter_append]
  by_cases h : (p x).data.toList = nm <;> simp [h]

/-- Between two rows. -/
structure Grp (W : World) (base bm : Nat) (p : Rw → ByteArray) (ys : List Rw) (D : DataW Unit) (hv : List UInt8 → Value) : Prop where
  map : W.ownsMap Tryz.prog 9 hdrR bm ys.length D
  isMap : Maps.IsMap D
  hd : ∀ nm, hdrR (hv nm) = some (D.atKey (.string nm) .nil, [])
  has : ∀ nm, Maps.has D (.string nm) = true ↔ grp p ys nm ≠ []
  own : ∀ nm, W.ownsRow base 30 3 (hv nm) (grp p ys nm).length (flatR (grp p ys nm))
  apart : ∀ x y, x ≠ y → (hv x).ownBlock = none ∨ (hv x).ownBlock ≠ (hv y).ownBlock
  low : bm < base
  keys : ∀ es, D = .map es → ∀ q ∈ es, ∃ nm, q.1 = .string nm

theorem mem_insert (q x : Lit × DataW Unit) : ∀ l : List (Lit × DataW Unit), q ∈ DataW.insert x l → q = x ∨ q ∈ l
  | [], h => by simp [DataW.insert] at h; exact Or.inl h
  | y :: r, h => by
    unfold DataW.insert at h
    split at h
    · simp only [List.mem_cons] at h ⊢
      exact h
    · simp only [List.mem_cons] at h ⊢
      rcases h with h | h
      · exact Or.inr (Or.inl h)
      · rcases mem_insert q x r h with h | h
        · exact Or.inl h
        · exact Or.inr (Or.inr h)

theorem Grp.below {W W' : World} {base bm : Nat} {p : Rw → ByteArray} {ys : List Rw} {D : DataW Unit} {hv : List UInt8 → Value} (h : Grp W base bm p ys D hv) (hb : Below W.heap.size W W') : Grp W' base bm p ys D hv where
  map := by
    obtain ⟨es, clock, hm, r⟩ := h.map
    exact ⟨es, clock, (hb.block bm h.map.lt).trans hm, r⟩
  isMap := h.isMap
  hd := h.hd
  has := h.has
  own := fun nm => own_below (h.own nm) hb
  apart := h.apart
  low := h.low
  keys := h.keys

theorem Grp.made (W : World) (p : Rw → ByteArray) : Grp (W.alloc (.map #[] 0)) (W.heap.size + 1) W.heap.size p [] (.map []) (fun _ => .slice none 0 0) where
  map := World.ownsMap_made _ _ _ _
  isMap := Maps.isMap_empty
  hd := fun nm => rfl
  has := fun nm => by simp [grp, Maps.has]
  own := fun nm => by simp [grp, flatR]; exact World.ownsRow_nil _ _ _ _
  apart := fun x y _ => Or.inl rfl
  low := Nat.lt_succ_self _
  keys := fun es e q hq => by cases e; cases hq

theorem own_lt {W : World} {base : Nat} {e : TypeId} {size : Nat} {v : Value} {n : Nat} {xs : List Value} (h : W.ownsRow base e size v n xs) {g : Nat} (hg : v.ownBlock = some g) : base ≤ g ∧ g < W.heap.size := by
  rcases h.2 with ⟨e, _⟩ | ⟨g', cap', cur, e, hb, hh, _⟩
  · rw [e] at hg; simp [Value.ownBlock] at hg
  · rw [e] at hg
    simp [Value.ownBlock] at hg
    subst hg
    exact ⟨hb, (Array.getElem?_eq_some_iff.1 hh).1⟩

/-- Behind one more row. -/
theorem Grp.step {W W3 W4 : World} {base bm : Nat} {p : Rw → ByteArray} {ys : List Rw} {D : DataW Unit} {hv : List UInt8 → Value} (h : Grp W base bm p ys D hv) (x : Rw) (v' : Value) (d : DataW Unit)
    (hrow : W3.ownsRow base 30 3 v' ((grp p ys (p x).data.toList).length + 1) (flatR (grp p ys (p x).data.toList) ++ encR x))
    (hg : W.grownBy W3 (hv (p x).data.toList).ownBlock) (hat : v'.ownBlock = (hv (p x).data.toList).ownBlock ∨ v'.ownBlock = some W.heap.size)
    (hm : W4.ownsMap Tryz.prog 9 hdrR bm (ys.length + 1) (D.put (.string (p x).data.toList) d)) (hg2 : W3.grownBy W4 (some bm)) (hd : hdrR v' = some (d, [])) :
    Grp W4 base bm p (ys ++ [x]) (D.put (.string (p x).data.toList) d) (fun m => if m = (p x).data.toList then v' else hv m) := by
  generalize hnm : (p x).data.toList = nm at *
  have nb : ∀ {v : Value} {n : Nat} {l : List Value}, W3.ownsRow base 30 3 v n l → v.ownBlock = none ∨ v.ownBlock ≠ some bm := fun {v n l} hr => by
    cases hv' : v.ownBlock with
    | none => exact Or.inl rfl
    | some g =>
      refine Or.inr fun e => ?_
      have := (own_lt hr hv').1
      have hl := h.low
      simp only [Option.some.injEq] at e
      omega
  refine ⟨by simpa using hm, h.isMap.put _ _, fun m => ?_, fun m => ?_, fun m => ?_, fun x' y' hne => ?_, h.low, fun es e q hq => ?_⟩
  · by_cases e : m = nm
    · subst e
      rw [if_pos rfl, Maps.atKey_put_same h.isMap (show WideAt.IsKeyLit (.string m) from trivial)]
      exact hd
    · rw [if_neg e, Maps.atKey_put_other (by simpa using e)]
      exact h.hd m
  · rw [grp_snoc, hnm]
    by_cases e : m = nm
    · subst e
      rw [Maps.has_put_same h.isMap (show WideAt.IsKeyLit (.string m) from trivial)]
      simp
    · rw [Maps.has_put_other (by simpa using e), if_neg (fun e' => e e'.symm), List.append_nil]
      exact h.has m
  · rw [grp_snoc, hnm]
    by_cases e : m = nm
    · subst e
      rw [if_pos rfl, if_pos rfl, List.length_append, flat_append, flat_single]
      exact hrow.kept hg2 (nb hrow)
    · rw [if_neg e, if_neg (fun e' => e e'.symm), List.append_nil]
      have h3 := (h.own m).kept hg (h.apart m nm e)
      exact h3.kept hg2 (nb h3)
  · by_cases e1 : x' = nm
    · subst e1
      rw [if_pos rfl, if_neg (fun e' => hne e'.symm)]
      rcases hat with hat | hat
      · rw [hat]; exact h.apart _ _ hne
      · rw [hat]
        refine Or.inr fun e => ?_
        have := (own_lt (h.own y') e.symm).2
        omega
    · rw [if_neg e1]
      by_cases e2 : y' = nm
      · subst e2
        rw [if_pos rfl]
        rcases hat with hat | hat
        · rw [hat]; exact h.apart _ _ hne
        · rw [hat]
          cases hb : (hv x').ownBlock with
          | none => exact Or.inl rfl
          | some g =>
            refine Or.inr fun e => ?_
            have := (own_lt (h.own x') hb).2
            simp only [Option.some.injEq] at e
            omega
      · rw [if_neg e2]
        exact h.apart _ _ hne
  · obtain ⟨es0, rfl⟩ := h.isMap
    simp only [DataW.put, DataW.map.injEq] at e
    subst e
    rcases mem_insert _ _ _ hq with rfl | hq
    · exact ⟨_, rfl⟩
    · exact h.keys es0 rfl q (List.mem_filter.1 hq).1

theorem Grp.key_mem {W : World} {base bm : Nat} {p : Rw → ByteArray} {ys : List Rw} {D : DataW Unit} {hv : List UInt8 → Value} (h : Grp W base bm p ys D hv) (nm : List UInt8) : nm ∈ strKeys D ↔ grp p ys nm ≠ [] := by
  rw [← h.has nm]
  obtain ⟨es, rfl⟩ := h.isMap
  rw [Maps.has_eq]
  simp only [strKeys, List.mem_map, List.any_eq_true]
  constructor
  · rintro ⟨q, hq, e⟩
    obtain ⟨nm', e'⟩ := h.keys es rfl q hq
    rw [e'] at e
    simp only [strOf] at e
    subst e
    exact ⟨q, hq, by rw [e']; exact WideAt.sameKey_self trivial⟩
  · rintro ⟨q, hq, e⟩
    have e' := (WideAt.sameKey_iff (b := .string nm) trivial).1 e
    exact ⟨q, hq, by rw [e']; rfl⟩

theorem Grp.size {W : World} {base bm : Nat} {p : Rw → ByteArray} {ys : List Rw} {D : DataW Unit} {hv : List UInt8 → Value} (h : Grp W base bm p ys D hv) : Maps.size D ≤ ys.length := by
  obtain ⟨es, clock, _, _, hs, rfl⟩ := h.map
  rw [Maps.size_eq, length_sorted]
  simpa using hs
end Go.Proofs.YtgffkkijfmoooaaGreatDoor
