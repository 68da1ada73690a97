/-
  A list of groups that the document's own SplitOf makes: its memory between two rows, and behind one more; the names, rising.
-/
import Derived.Test.YtgffkkijfmoooaaGreatDoorPartGrp
import Derived.Test.YtgffkkijfmoooaaGreatDoorAppendSrc
import Derived.Laws.OwnMore
import Derived.OneCell
import Derived.Deep.Onto
namespace Go.Proofs.YtgffkkijfmoooaaGreatDoor
open Go.RowKit Go.Extern.Stop Go.Stop Go.Extern Go.Sort Go.Shelf Go.Lib

/-- The cells of a list of groups. -/
def grpCells (hv : List UInt8 → Value) (ts : List (List UInt8)) : List Value := ts.flatMap fun nm => [encStr nm, hv nm]

theorem grpCells_len (hv : List UInt8 → Value) : ∀ ts : List (List UInt8), (grpCells hv ts).length = ts.length * 2
  | [] => rfl
  | t :: ts => by
    have := grpCells_len hv ts
    simp only [grpCells, List.flatMap_cons, List.length_append, List.length_cons, List.length_nil] at this ⊢
    omega

theorem grpCells_append (hv : List UInt8 → Value) (a b : List (List UInt8)) : grpCells hv (a ++ b) = grpCells hv a ++ grpCells hv b := by simp [grpCells]
theorem grpCells_cons (hv : List UInt8 → Value) (t : List UInt8) (b : List (List UInt8)) : grpCells hv (t :: b) = [encStr t, hv t] ++ grpCells hv b := by simp [grpCells]

theorem grpCells_get (hv : List UInt8 → Value) : ∀ (ts : List (List UInt8)) (i : Nat) (h : i < ts.length), (grpCells hv ts)[i * 2]? = some (encStr ts[i]) ∧ (grpCells hv ts)[i * 2 + 1]? = some (hv ts[i])
  | [], i, h => by simp at h
  | t :: ts, 0, _ => by simp [grpCells]
  | t :: ts, i + 1, h => by
    have ih := grpCells_get hv ts i (by simpa using h)
    rw [show (i + 1) * 2 = i * 2 + 2 by omega]
    simpa [grpCells] using ih

theorem grpCells_take {hv : List UInt8 → Value} {ts : List (List UInt8)} {k j : Nat} {u : Value} (h : (grpCells hv (ts.take k))[j]? = some u) : (grpCells hv ts)[j]? = some u := by
  have e : grpCells hv ts = grpCells hv (ts.take k) ++ grpCells hv (ts.drop k) := by rw [← grpCells_append, List.take_append_drop]
  rw [e]
  rcases Nat.lt_or_ge j (grpCells hv (ts.take k)).length with h' | h'
  · rw [List.getElem?_append_left h']; exact h
  · rw [List.getElem?_eq_none h'] at h; cases h

theorem grpCells_drop {hv : List UInt8 → Value} {ts : List (List UInt8)} {k j : Nat} {u : Value} (h : (grpCells hv (ts.drop k))[j]? = some u) : (grpCells hv ts)[k * 2 + j]? = some u := by
  have hk : k ≤ ts.length := by
    rcases Nat.lt_or_ge ts.length k with h' | h'
    · rw [List.drop_of_length_le (by omega)] at h; simp [grpCells] at h
    · exact h'
  have e : grpCells hv ts = grpCells hv (ts.take k) ++ grpCells hv (ts.drop k) := by rw [← grpCells_append, List.take_append_drop]
  have hl : (grpCells hv (ts.take k)).length = k * 2 := by rw [grpCells_len, List.length_take, Nat.min_eq_left hk]
  rw [e, List.getElem?_append_right (by omega), hl, Nat.add_sub_cancel_left]
  exact h

theorem grpCells_other {hv hv' : List UInt8 → Value} : ∀ {ts : List (List UInt8)}, (∀ nm ∈ ts, hv nm = hv' nm) → grpCells hv ts = grpCells hv' ts
  | [], _ => rfl
  | t :: ts, h => by rw [grpCells_cons, grpCells_cons, h t List.mem_cons_self, grpCells_other (fun nm hm => h nm (List.mem_cons_of_mem _ hm))]

theorem grpCells_set (hv : List UInt8 → Value) (v : Value) : ∀ (ts : List (List UInt8)) (k : Nat) (h : k < ts.length), ts.Nodup → (grpCells hv ts).set (k * 2 + 1) v = grpCells (fun m => if m = ts[k] then v else hv m) ts
  | [], k, h, _ => by simp at h
  | t :: ts, 0, _, hn => by
    rw [List.nodup_cons] at hn
    rw [grpCells_cons, grpCells_cons]
    simp only [List.getElem_cons_zero, if_true]
    rw [grpCells_other (hv := hv) (hv' := fun m => if m = t then v else hv m) (fun nm hm => by rw [if_neg]; rintro rfl; exact hn.1 hm)]
    rfl
  | t :: ts, k + 1, h, hn => by
    rw [List.nodup_cons] at hn
    have hk : k < ts.length := by simpa using h
    have ih := grpCells_set hv v ts k hk hn.2
    rw [grpCells_cons, grpCells_cons, show (k + 1) * 2 + 1 = (k * 2 + 1) + 1 + 1 by omega]
    simp only [List.getElem_cons_succ]
    have hne : ¬ t = ts[k] := fun e => hn.1 (by rw [e]; exact List.getElem_mem _)
    rw [← ih, if_neg hne]
    rfl

/-- A list of groups of the call's own. -/
structure GrpM (W : World) (B : Nat) (v : Value) (p : Rw → ByteArray) (ys : List Rw) (ts : List (List UInt8)) (hv : List UInt8 → Value) : Prop where
  out : W.ownsRow B 65 2 v ts.length (grpCells hv ts)
  own : ∀ nm, W.ownsRow B 30 3 (hv nm) (grp p ys nm).length (flatR (grp p ys nm))
  apart : ∀ x y, x ≠ y → (hv x).ownBlock = none ∨ (hv x).ownBlock ≠ (hv y).ownBlock
  off : ∀ x, (hv x).ownBlock = none ∨ (hv x).ownBlock ≠ v.ownBlock

theorem GrpM.below {W W' : World} {B : Nat} {v : Value} {p : Rw → ByteArray} {ys : List Rw} {ts : List (List UInt8)} {hv : List UInt8 → Value} (h : GrpM W B v p ys ts hv) (hb : Below W.heap.size W W') : GrpM W' B v p ys ts hv :=
  ⟨own_below h.out hb, fun nm => own_below (h.own nm) hb, h.apart, h.off⟩

theorem GrpM.nil (W : World) (B : Nat) (p : Rw → ByteArray) : GrpM W B (.slice none 0 0) p [] [] (fun _ => .slice none 0 0) :=
  ⟨World.ownsRow_nil _ _ _ _, fun nm => by simp [grp, flatR]; exact World.ownsRow_nil _ _ _ _, fun _ _ _ => Or.inl rfl, fun _ => Or.inl rfl⟩

/-- Another list of them, in a block of its own. -/
theorem GrpM.moved {W W' : World} {B B' : Nat} {v v' : Value} {p : Rw → ByteArray} {ys : List Rw} {ts ts' : List (List UInt8)} {hv : List UInt8 → Value} (h : GrpM W B v p ys ts hv) (hb : Below W.heap.size W W') (hB : B ≤ B') (hW : W.heap.size ≤ B')
    (ho : W'.ownsRow B' 65 2 v' ts'.length (grpCells hv ts')) : GrpM W' B v' p ys ts' hv := by
  refine ⟨⟨ho.1, ?_⟩, fun nm => own_below (h.own nm) hb, h.apart, fun x => ?_⟩
  · rcases ho.2 with h1 | ⟨g, cap, cur, e, hg, r⟩
    · exact Or.inl h1
    · exact Or.inr ⟨g, cap, cur, e, by omega, r⟩
  · cases hx : (hv x).ownBlock with
    | none => exact Or.inl rfl
    | some g =>
      refine Or.inr fun e => ?_
      have h1 := (own_lt (h.own x) hx).2
      have h2 := (own_lt ho e.symm).1
      omega

/-- One more row: appended to its group's, and that stored. -/
theorem GrpM.step {W W3 : World} {B g cap k : Nat} {p : Rw → ByteArray} {ys : List Rw} {ts : List (List UInt8)} {hv : List UInt8 → Value} (h : GrpM W B (.slice (some ⟨g, 0, none⟩) ts.length cap) p ys ts hv) (hn : ts.Nodup) (hk : k < ts.length) (x : Rw) (hx : (p x).data.toList = ts[k]) (v' : Value)
    (hrow : W3.ownsRow B 30 3 v' ((grp p ys ts[k]).length + 1) (flatR (grp p ys ts[k]) ++ encR x))
    (hg : W.grownBy W3 (hv ts[k]).ownBlock) (hat : v'.ownBlock = (hv ts[k]).ownBlock ∨ v'.ownBlock = some W.heap.size) :
    GrpM (W3.setCell ⟨g, k * 2 + 1, none⟩ v') B (.slice (some ⟨g, 0, none⟩) ts.length cap) p (ys ++ [x]) ts (fun m => if m = ts[k] then v' else hv m) := by
  have hgl : g < W.heap.size := (own_lt h.out rfl).2
  have hout3 := h.out.kept hg (Or.inr fun e => by
    rcases h.off ts[k] with h' | h'
    · rw [h'] at e; simp [Value.ownBlock] at e
    · exact h' e.symm)
  have hv'g : v'.ownBlock ≠ some g := by
    rcases hat with hat | hat
    · rw [hat]
      rcases h.off ts[k] with h' | h'
      · rw [h']; simp
      · exact h'
    · rw [hat]
      intro e
      have := Option.some.inj e
      omega
  refine ⟨?_, fun m => ?_, fun x' y' hne => ?_, fun m => ?_⟩
  · have := (hout3.stored (k * 2 + 1) v').1
    rw [grpCells_set hv v' ts k hk hn] at this
    exact this
  · rw [grp_snoc, hx]
    by_cases e : m = ts[k]
    · subst e
      rw [if_pos rfl, if_pos rfl, List.length_append, flat_append, flat_single]
      exact ownsRow_setCell_other hrow hv'g v'
    · rw [if_neg e, if_neg (fun e' => e e'.symm), List.append_nil]
      have h3 := (h.own m).kept hg (h.apart m ts[k] e)
      refine ownsRow_setCell_other h3 ?_ v'
      rcases h.off m with h' | h'
      · rw [h']; simp
      · exact h'
  · by_cases e1 : x' = ts[k]
    · subst e1
      rw [if_pos rfl, if_neg (fun e' => hne e'.symm)]
      rcases hat with hat | hat
      · rw [hat]; exact h.apart _ _ hne
      · rw [hat]
        refine Or.inr fun e => ?_
        have := (own_lt (h.own y') e.symm).2
        omega
    · rw [if_neg e1]
      by_cases e2 : y' = ts[k]
      · subst e2
        rw [if_pos rfl]
        rcases hat with hat | hat
        · rw [hat]; exact h.apart _ _ hne
        · rw [hat]
          cases hb : (hv x').ownBlock with
          | none => exact Or.inl rfl
          | some g' =>
            refine Or.inr fun e => ?_
            have := (own_lt (h.own x') hb).2
            simp only [Option.some.injEq] at e
            omega
      · rw [if_neg e2]
        exact h.apart _ _ hne
  · by_cases e : m = ts[k]
    · rw [if_pos e]; exact Or.inr hv'g
    · rw [if_neg e]; exact h.off m

theorem GrpM.setCell_low {W : World} {B : Nat} {v : Value} {p : Rw → ByteArray} {ys : List Rw} {ts : List (List UInt8)} {hv : List UInt8 → Value} (h : GrpM W B v p ys ts hv) {a : Addr} (ha : a.block < B) (u : Value) : GrpM (W.setCell a u) B v p ys ts hv :=
  ⟨ownsRow_setCell_below h.out ha u, fun nm => ownsRow_setCell_below (h.own nm) ha u, h.apart, h.off⟩

theorem GrpM.lower {W : World} {B B' : Nat} {v : Value} {p : Rw → ByteArray} {ys : List Rw} {ts : List (List UInt8)} {hv : List UInt8 → Value} (h : GrpM W B v p ys ts hv) (hB : B' ≤ B) : GrpM W B' v p ys ts hv :=
  ⟨h.out.mono hB, fun nm => (h.own nm).mono hB, h.apart, h.off⟩

/-- The names of the rows so far: rising, and just those that have rows. -/
structure Rise (p : Rw → ByteArray) (ys : List Rw) (ts : List (List UInt8)) : Prop where
  rise : ts.Pairwise (fun x y => ¬ y ≤ x)
  has : ∀ nm, nm ∈ ts ↔ grp p ys nm ≠ []

theorem Rise.nodup {p : Rw → ByteArray} {ys : List Rw} {ts : List (List UInt8)} (h : Rise p ys ts) : ts.Nodup :=
  h.rise.imp fun {a b} hab => by
    intro e
    subst e
    exact hab (List.le_refl _)

theorem Rise.nil (p : Rw → ByteArray) : Rise p [] [] := ⟨List.Pairwise.nil, fun nm => by simp [grp]⟩

theorem grp_snoc_ne (p : Rw → ByteArray) (ys : List Rw) (x : Rw) (nm : List UInt8) : grp p (ys ++ [x]) nm ≠ [] ↔ grp p ys nm ≠ [] ∨ nm = (p x).data.toList := by
  rw [grp_snoc]
  by_cases e : (p x).data.toList = nm
  · simp [e]
  · have e' : ¬ nm = (p x).data.toList := fun h => e h.symm
    simp [e, e']

theorem Rise.there {p : Rw → ByteArray} {ys : List Rw} {ts : List (List UInt8)} (h : Rise p ys ts) (x : Rw) (k : Nat) (hk : k < ts.length) (e : ts[k] = (p x).data.toList) : Rise p (ys ++ [x]) ts := by
  refine ⟨h.rise, fun nm => ?_⟩
  rw [grp_snoc_ne, h.has]
  constructor
  · exact Or.inl
  · rintro (h' | rfl)
    · exact h'
    · rw [← h.has, ← e]; exact List.getElem_mem _

theorem Rise.put {p : Rw → ByteArray} {ys : List Rw} {ts : List (List UInt8)} (h : Rise p ys ts) (x : Rw) (k : Nat) (hk : k ≤ ts.length) (h1 : ∀ j (hj : j < ts.length), j < k → ts[j] < (p x).data.toList) (h2 : ∀ (hj : k < ts.length), ¬ ts[k] < (p x).data.toList ∧ ts[k] ≠ (p x).data.toList) :
    Rise p (ys ++ [x]) (ts.take k ++ (p x).data.toList :: ts.drop k) := by
  generalize hnm : (p x).data.toList = nm at *
  have hlow : ∀ t ∈ ts.take k, t < nm := fun t ht => by
    obtain ⟨j, hj, e⟩ := List.mem_iff_getElem.1 ht
    rw [List.length_take] at hj
    rw [← e, List.getElem_take]
    exact h1 j (by omega) (by omega)
  have hhigh : ∀ t ∈ ts.drop k, nm < t := fun t ht => by
    obtain ⟨j, hj, e⟩ := List.mem_iff_getElem.1 ht
    rw [List.length_drop] at hj
    rw [List.getElem_drop] at e
    have hk' : k < ts.length := by omega
    have hkk : nm < ts[k] := by
      have := h2 hk'
      rcases List.le_total ts[k] nm with h3 | h3
      · exact absurd (Std.lt_of_le_of_ne h3 this.2) this.1
      · exact Std.lt_of_le_of_ne h3 (fun e => this.2 e.symm)
    rcases Nat.eq_zero_or_pos j with h0 | h0
    · subst h0
      simp only [Nat.add_zero] at e
      rw [← e]; exact hkk
    · have h4 := List.pairwise_iff_getElem.1 h.rise k (k + j) hk' (by omega) (by omega)
      rw [← e]
      exact Std.lt_trans hkk (Std.not_le.1 h4)
  refine ⟨?_, fun m => ?_⟩
  · refine List.pairwise_append.2 ⟨h.rise.sublist (List.take_sublist _ _), List.pairwise_cons.2 ⟨fun t ht => Std.not_le.2 (hhigh t ht), h.rise.sublist (List.drop_sublist _ _)⟩, fun a ha b hb => ?_⟩
    rw [List.mem_cons] at hb
    rcases hb with rfl | hb
    · exact Std.not_le.2 (hlow a ha)
    · exact Std.not_le.2 (Std.lt_trans (hlow a ha) (hhigh b hb))
  · rw [grp_snoc_ne, hnm, ← h.has]
    have hm : m ∈ ts ↔ m ∈ ts.take k ∨ m ∈ ts.drop k := by
      conv => lhs; rw [← List.take_append_drop k ts]
      exact List.mem_append
    rw [hm]
    simp only [List.mem_append, List.mem_cons]
    constructor
    · rintro (h' | rfl | h')
      · exact Or.inl (Or.inl h')
      · exact Or.inr rfl
      · exact Or.inl (Or.inr h')
    · rintro ((h' | h') | rfl)
      · exact Or.inl h'
      · exact Or.inr (Or.inr h')
      · exact Or.inr (Or.inl rfl)

theorem rise_unique : ∀ xs ys : List (List UInt8), xs.Pairwise (fun x y => ¬ y ≤ x) → ys.Pairwise (fun x y => ¬ y ≤ x) → (∀ n, n ∈ xs ↔ n ∈ ys) → xs = ys
  | [], [], _, _, _ => rfl
  | [], y :: ys, _, _, h => absurd ((h y).2 List.mem_cons_self) (by simp)
  | x :: xs, [], _, _, h => absurd ((h x).1 List.mem_cons_self) (by simp)
  | x :: xs, y :: ys, hx, hy, h => by
    rw [List.pairwise_cons] at hx hy
    have e : x = y := by
      rcases List.mem_cons.1 ((h x).1 List.mem_cons_self) with e | h1
      · exact e
      · rcases List.mem_cons.1 ((h y).2 List.mem_cons_self) with e | h2
        · exact e.symm
        · have a := hy.1 x h1
          have b := hx.1 y h2
          rcases List.le_total x y with c | c
          · exact absurd c a
          · exact absurd c b
    subst e
    rw [rise_unique xs ys hx.2 hy.2 fun n => ?_]
    constructor
    · intro hn
      rcases List.mem_cons.1 ((h n).1 (List.mem_cons_of_mem _ hn)) with e | h1
      · subst e; exact absurd (List.le_refl n) (hx.1 n hn)
      · exact h1
    · intro hn
      rcases List.mem_cons.1 ((h n).2 (List.mem_cons_of_mem _ hn)) with e | h1
      · subst e; exact absurd (List.le_refl n) (hy.1 n hn)
      · exact h1
end Go.Proofs.YtgffkkijfmoooaaGreatDoor
