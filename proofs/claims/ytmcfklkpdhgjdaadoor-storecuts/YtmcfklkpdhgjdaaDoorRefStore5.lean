/-
  The contract of Put of the document's own store.
-/
import Derived.Test.YtmcfklkpdhgjdaaDoorRefStore4
import Derived.Deep.RegionHeld3
import Derived.Deep.AppendLies
namespace Go.Proofs.YtmcfklkpdhgjdaaDoor
open Go.RowKit Go.Extern.Stop Go.Stop Go.Extern Go.Sort Go.Shelf Go.Lib

theorem bytes_take : ∀ (l : List Ob) (m : Nat) (h : m < l.length), bytesS (l.take (m + 1)) = bytesS (l.take m) + l[m].2.1.size
  | [], _, h => by simp at h
  | o :: l, 0, _ => by simp [bytesS]
  | o :: l, m + 1, h => by
    have := bytes_take l m (by simpa using h)
    simp only [bytesS, List.take_succ_cons, List.map_cons, List.sum_cons, List.getElem_cons_succ] at *
    omega
theorem bytes_le : ∀ (l : List Ob) (_ : ∀ o ∈ l, o.2.1.size ≤ 20000) (m : Nat), bytesS (l.take m) ≤ m * 20000
  | [], _, _ => by simp [bytesS]
  | o :: l, _, 0 => by simp [bytesS]
  | o :: l, h, m + 1 => by
    have := bytes_le l (fun p hp => h p (List.mem_cons_of_mem _ hp)) m
    have h0 := h o List.mem_cons_self
    simp only [bytesS, List.take_succ_cons, List.map_cons, List.sum_cons] at *
    omega
theorem ins_at {l : List Ob} {o : Ob} {m : Nat} (hm : m ≤ l.length) (h1 : ∀ i (h : i < l.length), i < m → l[i].1.data.toList < o.1.data.toList) (h2 : ∀ h : m < l.length, ¬ l[m].1.data.toList < o.1.data.toList) : insO l o = l.take m ++ o :: l.drop m := by
  have hx : ∀ p ∈ l.take m, p.1.data.toList < o.1.data.toList := fun p hp => by
    obtain ⟨a, ha, rfl⟩ := List.mem_iff_getElem.1 hp
    rw [List.length_take] at ha
    rw [List.getElem_take]
    exact h1 a (by omega) (by omega)
  have hs : l = l.take m ++ l.drop m := (List.take_append_drop m l).symm
  have ht : l.takeWhile (fun p => decide (p.1.data.toList < o.1.data.toList)) = l.take m := by
    conv => lhs; rw [hs]
    rw [List.takeWhile_append_of_pos (fun p hp => by simpa using hx p hp)]
    rcases Nat.lt_or_ge m l.length with h | h
    · rw [List.drop_eq_getElem_cons h, List.takeWhile_cons_of_neg (by simpa using h2 h), List.append_nil]
    · rw [List.drop_of_length_le h]; simp
  have hd : l.dropWhile (fun p => decide (p.1.data.toList < o.1.data.toList)) = l.drop m := by
    conv => lhs; rw [hs]
    rw [List.dropWhile_append_of_pos (fun p hp => by simpa using hx p hp)]
    rcases Nat.lt_or_ge m l.length with h | h
    · rw [List.drop_eq_getElem_cons h, List.dropWhile_cons_of_neg (by simpa using h2 h)]
    · rw [List.drop_of_length_le h]; simp
  unfold insO
  rw [ht, hd]
theorem nm_lt {a b : ByteArray} (h : a.data.toList < b.data.toList) : Op.bytesLess a.toList b.toList = true := by
  rw [ByteArray.toList_eq, ByteArray.toList_eq, bytesLess_eq]; simpa using h
theorem nm_nl {a b : ByteArray} (h : ¬ a.data.toList < b.data.toList) : Op.bytesLess a.toList b.toList = false := by
  rw [ByteArray.toList_eq, ByteArray.toList_eq, bytesLess_eq]; simpa using h
theorem obs_but {W W' : World} {R : Nat} {v : Value} {l : List Ob} (h : ObsAt W v l) (ho : OffB v l R) (hb : But (fun k => k = R) W W') : ObsAt W' v l := by
  rcases h with h | ⟨b, o, c, hv, hl, hc⟩
  · exact Or.inl h
  · by_cases hne : l = []
    · exact Or.inl ⟨some ⟨b, o, none⟩, c, by rw [hv, hne]; rfl, fun e => (nomatch e), hne⟩
    · have hn := ho b o c _ hv hne
      exact Or.inr ⟨b, o, c, hv, hl, fun j hj => ⟨hb.keep hn (hc j hj).1, hb.keep hn (hc j hj).2.1, hb.keep hn (hc j hj).2.2⟩⟩
theorem own_blk {w : World} {base : Nat} {e : TypeId} {size : Nat} {v : Value} {n : Nat} {xs : List Value} (h : w.ownsRow base e size v n xs) {k : Nat} (hk : v.ownBlock = some k) : base ≤ k := by
  rcases h.2 with ⟨e, _⟩ | ⟨g', cap', cur, e, hg', _⟩
  · rw [e] at hk; simp [Value.ownBlock] at hk
  · rw [e] at hk; simp [Value.ownBlock] at hk; omega
theorem ObsAt.none {w : World} {n c : Nat} {fs : List Ob} (h : ObsAt w (.slice none n c) fs) : fs = [] ∧ c = 0 := by
  rcases h with ⟨p, c', e, hp, rfl⟩ | ⟨b, o, cap, e, _⟩
  · simp only [Value.slice.injEq] at e
    obtain ⟨rfl, _, rfl⟩ := e
    exact ⟨rfl, hp rfl⟩
  · simp only [Value.slice.injEq] at e
    exact absurd e.1 (by simp)
theorem src_top {w : World} {a : Addr} {n c d : Nat} {fs : List Ob} (h : ObsAt w (.slice (some a) n c) fs) (hd : d ≤ fs.length) : Src w (some a) d c (flatO (fs.take d)) := by
  rcases h with ⟨p, c', e, hp, rfl⟩ | ⟨b, o, cap, e, _, hc⟩
  · exact Or.inl ⟨by simpa using hd, fun e => by simp at e⟩
  · simp only [Value.slice.injEq] at e
    exact Or.inr ⟨b, o, e.1, cellsO_flat (obCells_take hc d)⟩
theorem ext_bytes (t : ByteArray) (k : Nat) : t.extract 0 k = bytesOf (t.data.toList.take k) := by
  apply name_ext
  rw [extract_data]
  show _ = (t.data.toList.take k).toArray.toList
  simp
theorem bytes_all (l : List Ob) : bytesS (l.take l.length) = bytesS l := by rw [List.take_length]

end Go.Proofs.YtmcfklkpdhgjdaaDoor
