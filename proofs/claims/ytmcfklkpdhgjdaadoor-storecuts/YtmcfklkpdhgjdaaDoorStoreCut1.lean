/-
  A store of the program's beside two lists of texts that grow: what every step of StoreCuts leaves; the plain mathematics of it.
-/
import Derived.Test.YtmcfklkpdhgjdaaDoorStoreTwo
namespace Go.Proofs.YtmcfklkpdhgjdaaDoor
open Go.RowKit Go.Extern.Stop Go.Stop Go.Extern Go.Sort Go.Shelf Go.Lib

theorem But.of_grown {w w' : World} {row : Option Nat} (h : w.grownBy w' row) : But (fun k => row = some k) w w' := ⟨h.os, h.tape, h.output, h.size, fun k hk hP => h.block k hk (fun e => hP e.symm)⟩
theorem own_but {w w' : World} {P : Nat → Prop} {base : Nat} {e : TypeId} {size : Nat} {v : Value} {n : Nat} {xs : List Value} (h : w.ownsRow base e size v n xs) (hb : But P w w') (hp : ∀ k, v.ownBlock = some k → ¬ P k) : w'.ownsRow base e size v n xs := by
  obtain ⟨h1, h2⟩ := h
  refine ⟨h1, ?_⟩
  rcases h2 with h2 | ⟨g, cap, cur, hv, hg, hc, r⟩
  · exact Or.inl h2
  · refine Or.inr ⟨g, cap, cur, hv, hg, ?_, r⟩
    rw [hb.block g (lt_of_block hc) (hp g (by rw [hv]; rfl))]
    exact hc
theorem own_shape {W : World} {base : Nat} {e : TypeId} {size : Nat} {v : Value} {n : Nat} {xs : List Value} (h : W.ownsRow base e size v n xs) : ∃ q c, v = .slice q n c := by
  rcases h.2 with ⟨rfl, rfl⟩ | ⟨g, cap, cur, rfl, _⟩
  · exact ⟨none, 0, rfl⟩
  · exact ⟨_, _, rfl⟩
theorem obj_pos {s : St} (K : Keeps s) : ∀ t ∈ (s.obs.map fun o => o.1), 1 ≤ t.size := fun t ht => by
  obtain ⟨o, ho, rfl⟩ := List.mem_map.1 ht
  have h := K.names o ho
  unfold objB at h
  simp only [Bool.and_eq_true, decide_eq_true_eq] at h
  have h2 := h.1.2
  rw [size_list] at h2
  exact h2
theorem src_one (W : World) (t : ByteArray) : Src (W.alloc (.cells #[.string t] 9)) (some ⟨W.heap.size, 0, none⟩) 1 1 [.string t] := by
  refine Or.inr ⟨W.heap.size, 0, rfl, fun j u hu => ?_⟩
  match j, hu with
  | 0, hu =>
    simp at hu
    subst hu
    show (W.alloc _).cell? ⟨W.heap.size, 0 + 0, none⟩ = _
    rw [cell_of_row _ _ _ _ _ _ (heap_alloc_new _ _)]
    rfl
  | j + 1, hu => simp at hu

/-- A store and two lists of texts, all in blocks apart. -/
def Cuts (EM : World → Prop) (SAt : World → Value → (Nat → Prop) → St → Prop) (B : Nat) (w0 W : World) (v : Value) (s : St) (hv : Value) (hs : List ByteArray) (tv : Value) (ts : List ByteArray) : Prop :=
  ∃ FP, SOk EM SAt B w0 W v FP s ∧ W.ownsRow B 9 1 hv hs.length (hs.map Value.string) ∧ W.ownsRow B 9 1 tv ts.length (ts.map Value.string) ∧ (∀ k, hv.ownBlock = some k → ¬ FP k) ∧ (∀ k, tv.ownBlock = some k → ¬ FP k) ∧ ∀ k, hv.ownBlock = some k → tv.ownBlock ≠ some k

section
variable {a : Nat → Addr} {B : Nat} {EM : World → Prop} {SAt : World → Value → (Nat → Prop) → St → Prop} {w0 W w' : World} {v : Value} {s s' : St} {hv tv : Value} {hs ts : List ByteArray}

theorem Cuts.env (h : Cuts EM SAt B w0 W v s hv hs tv ts) : EM W := by
  obtain ⟨_, h, _⟩ := h
  exact h.env
theorem Cuts.frame (h : Cuts EM SAt B w0 W v s hv hs tv ts) : Below B w0 W := by
  obtain ⟨_, h, _⟩ := h
  exact h.frame
theorem Cuts.have_ (h : Cuts EM SAt B w0 W v s hv hs tv ts) : W.ownsRow B 9 1 hv hs.length (hs.map Value.string) := by
  obtain ⟨_, _, h, _⟩ := h
  exact h
theorem Cuts.their (h : Cuts EM SAt B w0 W v s hv hs tv ts) : W.ownsRow B 9 1 tv ts.length (ts.map Value.string) := by
  obtain ⟨_, _, _, h, _⟩ := h
  exact h
theorem Cuts.quiet (K : StoreK a B EM SAt) (h : Cuts EM SAt B w0 W v s hv hs tv ts) (hb : Below W.heap.size W w') : Cuts EM SAt B w0 w' v s hv hs tv ts := by
  obtain ⟨FP, h1, h2, h3, h4, h5, h6⟩ := h
  exact ⟨FP, h1.quiet K hb, own_below h2 hb, own_below h3 hb, h4, h5, h6⟩
theorem Cuts.drew (K : StoreK a B EM SAt) (h : Cuts EM SAt B w0 W v s hv hs tv ts) : Cuts EM SAt B w0 W.drew v s hv hs tv ts := h.quiet K (Below.drew (Below.refl _ _))
theorem own_lt {w : World} {base : Nat} {e : TypeId} {size : Nat} {v : Value} {n : Nat} {xs : List Value} (h : w.ownsRow base e size v n xs) {k : Nat} (hk : v.ownBlock = some k) : base ≤ k ∧ k < w.heap.size := by
  rcases h.2 with ⟨e, _⟩ | ⟨g, cap, cur, e, hg, hc, _⟩
  · rw [e] at hk; simp [Value.ownBlock] at hk
  · rw [e] at hk
    simp [Value.ownBlock] at hk
    subst hk
    exact ⟨hg, lt_of_block hc⟩
theorem Cuts.call (K : StoreK a B EM SAt) {f : Nat} {vs : Array Value} {R : Value} (h : Cuts EM SAt B w0 W v s hv hs tv ts) (hc : ∀ FP, SAt W v FP s → Calls Tryd.prog f vs W fun e w' => e = .returned R ∧ SPost SAt W v FP s' w') :
    Calls Tryd.prog f vs W fun e w' => e = .returned R ∧ Cuts EM SAt B w0 w' v s' hv hs tv ts := by
  obtain ⟨FP, h1, h2, h3, h4, h5, h6⟩ := h
  refine (hc FP h1.at_).mono fun e w' ⟨he, hp⟩ => ⟨he, ?_⟩
  obtain ⟨FP2, g1, g2, g3⟩ := h1.post K hp
  refine ⟨FP2, g1, own_but h2 g2 h4, own_but h3 g2 h5, fun k hk hF => ?_, fun k hk hF => ?_, h6⟩
  · rcases g3 k hF with h7 | h7
    · exact h4 k hk h7
    · have := own_lt h2 hk; omega
  · rcases g3 k hF with h7 | h7
    · exact h5 k hk h7
    · have := own_lt h3 hk; omega
/-- The first list has one more. -/
theorem Cuts.more1 (K : StoreK a B EM SAt) {t : ByteArray} {hv' : Value} (h : Cuts EM SAt B w0 W v s hv hs tv ts) (ho : w'.ownsRow B 9 1 hv' (hs.length + 1) (hs.map Value.string ++ [.string t])) (hg : W.grownBy w' hv.ownBlock) (hat : hv'.ownBlock = hv.ownBlock ∨ hv'.ownBlock = some W.heap.size) : Cuts EM SAt B w0 w' v s hv' (hs ++ [t]) tv ts := by
  obtain ⟨FP, h1, h2, h3, h4, h5, h6⟩ := h
  have hB := K.size _ h1.env
  have hbt := But.of_grown hg
  have hb : Below B W w' := hbt.below hB (fun k hk => (own_lt h2 hk).1)
  refine ⟨FP, ⟨K.below _ _ h1.env hb, h1.frame.trans hb, h1.le, K.keep _ _ _ _ _ _ h1.at_ hbt (fun k hk e => h4 k e hk), h1.new⟩, ?_, own_but h3 hbt (fun k hk e => h6 k e hk), fun k hk hF => ?_, h5, fun k hk e => ?_⟩
  · rw [List.length_append, List.map_append]; exact ho
  · rcases hat with e | e
    · exact h4 k (e ▸ hk) hF
    · rw [e] at hk
      have := K.lt _ _ _ _ _ h1.at_ hF
      simp at hk
      omega
  · rcases hat with e' | e'
    · exact h6 k (e' ▸ hk) e
    · rw [e'] at hk
      have := (own_lt h3 e).2
      simp at hk
      omega
theorem Cuts.more2 (K : StoreK a B EM SAt) {t : ByteArray} {tv' : Value} (h : Cuts EM SAt B w0 W v s hv hs tv ts) (ho : w'.ownsRow B 9 1 tv' (ts.length + 1) (ts.map Value.string ++ [.string t])) (hg : W.grownBy w' tv.ownBlock) (hat : tv'.ownBlock = tv.ownBlock ∨ tv'.ownBlock = some W.heap.size) : Cuts EM SAt B w0 w' v s hv hs tv' (ts ++ [t]) := by
  obtain ⟨FP, h1, h2, h3, h4, h5, h6⟩ := h
  have hB := K.size _ h1.env
  have hbt := But.of_grown hg
  have hb : Below B W w' := hbt.below hB (fun k hk => (own_lt h3 hk).1)
  refine ⟨FP, ⟨K.below _ _ h1.env hb, h1.frame.trans hb, h1.le, K.keep _ _ _ _ _ _ h1.at_ hbt (fun k hk e => h5 k e hk), h1.new⟩, own_but h2 hbt (fun k hk e => h6 k hk e), ?_, h4, fun k hk hF => ?_, fun k hk e => ?_⟩
  · rw [List.length_append, List.map_append]; exact ho
  · rcases hat with e | e
    · exact h5 k (e ▸ hk) hF
    · rw [e] at hk
      have := K.lt _ _ _ _ _ h1.at_ hF
      simp at hk
      omega
  · rcases hat with e' | e'
    · exact h6 k hk (e' ▸ e)
    · rw [e'] at e
      have := (own_lt h2 hk).2
      simp at e
      omega
theorem Cuts.new (h : ∃ FP, SOk EM SAt B w0 W v FP s) : Cuts EM SAt B w0 W v s (.slice none 0 0) [] (.slice none 0 0) [] := by
  obtain ⟨FP, h⟩ := h
  exact ⟨FP, h, World.ownsRow_nil _ _ _ _, World.ownsRow_nil _ _ _ _, fun k hk => by simp [Value.ownBlock] at hk, fun k hk => by simp [Value.ownBlock] at hk, fun k hk => by simp [Value.ownBlock] at hk⟩

theorem Cuts.put (K : StoreK a B EM SAt) (h : Cuts EM SAt B w0 W v s hv hs tv ts) (KS : Keeps s) (n t : ByteArray) (hn : n.size ≤ 1000) (ht : t.size ≤ 100000) : Calls Tryd.prog 9 #[v, .string n, .string t] W fun e w' => e = .returned (errV a (putC s n t)) ∧ Cuts EM SAt B w0 w' v (putS s n t) hv hs tv ts := h.call K (fun FP hS => K.put W v FP s n t h.env hS KS hn ht)
theorem Cuts.swap (K : StoreK a B EM SAt) (h : Cuts EM SAt B w0 W v s hv hs tv ts) (KS : Keeps s) (n t : ByteArray) (hn : n.size ≤ 1000) (ht : t.size ≤ 100000) : Calls Tryd.prog 13 #[v, .string n, .string t] W fun e w' => e = .returned (errV a (swapC s n t)) ∧ Cuts EM SAt B w0 w' v (swapS s n t) hv hs tv ts := h.call K (fun FP hS => K.swap W v FP s n t h.env hS KS hn ht)
theorem Cuts.drop (K : StoreK a B EM SAt) (h : Cuts EM SAt B w0 W v s hv hs tv ts) (KS : Keeps s) (n : ByteArray) (hn : n.size ≤ 1000) : Calls Tryd.prog 15 #[v, .string n] W fun e w' => e = .returned (errV a (dropC s n)) ∧ Cuts EM SAt B w0 w' v (dropS s n) hv hs tv ts := h.call K (fun FP hS => K.drop W v FP s n h.env hS KS hn)
theorem Cuts.cut (K : StoreK a B EM SAt) (h : Cuts EM SAt B w0 W v s hv hs tv ts) (KS : Keeps s) (z : Int) (hz : -9223372036854775808 ≤ z ∧ z ≤ 9223372036854775807) : Calls Tryd.prog 16 #[v, .int .i64 z] W fun e w' => e = .returned (errV a (cutC s z)) ∧ Cuts EM SAt B w0 w' v (cutS s z) hv hs tv ts := h.call K (fun FP hS => K.cut W v FP s z h.env hS KS hz)
theorem Cuts.on (K : StoreK a B EM SAt) (h : Cuts EM SAt B w0 W v s hv hs tv ts) (KS : Keeps s) : Calls Tryd.prog 17 #[v] W fun e w' => e = .returned (.tuple #[]) ∧ Cuts EM SAt B w0 w' v (onS s) hv hs tv ts := h.call K (fun FP hS => K.on W v FP s h.env hS KS)
theorem Cuts.get (K : StoreK a B EM SAt) (h : Cuts EM SAt B w0 W v s hv hs tv ts) (KS : Keeps s) (n : ByteArray) (hn : n.size ≤ 1000) : Calls Tryd.prog 10 #[v, .string n] W fun e w' => e = .returned (.tuple #[.string (getT s.obs n).1, errV a (getT s.obs n).2]) ∧ Cuts EM SAt B w0 w' v s hv hs tv ts := by
  have h' := h
  obtain ⟨FP, h1, _⟩ := h'
  exact (K.get W v FP s n h1.env h1.at_ KS hn).mono fun e w' ⟨he, hb⟩ => ⟨he, h.quiet K hb⟩
theorem Cuts.head (K : StoreK a B EM SAt) (h : Cuts EM SAt B w0 W v s hv hs tv ts) (KS : Keeps s) : Calls Tryd.prog 14 #[v] W fun e w' => e = .returned (.string s.head) ∧ Cuts EM SAt B w0 w' v s hv hs tv ts := by
  have h' := h
  obtain ⟨FP, h1, _⟩ := h'
  exact (K.head W v FP s h1.env h1.at_ KS).mono fun e w' ⟨he, hb⟩ => ⟨he, h.quiet K hb⟩
theorem Cuts.power (K : StoreK a B EM SAt) (h : Cuts EM SAt B w0 W v s hv hs tv ts) (KS : Keeps s) : Calls Tryd.prog 11 #[v] W fun e w' => e = .returned (.bool (!s.off)) ∧ Cuts EM SAt B w0 w' v s hv hs tv ts := by
  have h' := h
  obtain ⟨FP, h1, _⟩ := h'
  exact (K.power W v FP s h1.env h1.at_ KS).mono fun e w' ⟨he, hb⟩ => ⟨he, h.quiet K hb⟩
theorem Cuts.names (K : StoreK a B EM SAt) (h : Cuts EM SAt B w0 W v s hv hs tv ts) (KS : Keeps s) : Calls Tryd.prog 20 #[v] W fun e w' => ∃ v', e = .returned v' ∧ TxsAt w' v' (s.obs.map fun o => o.1) ∧ Cuts EM SAt B w0 w' v s hv hs tv ts := by
  have h' := h
  obtain ⟨FP, h1, _⟩ := h'
  exact (K.names W v FP s h1.env h1.at_ KS).mono fun e w' ⟨v', he, ht, hb⟩ => ⟨v', he, ht, h.quiet K hb⟩
end

/-- What was put whole is there; one more at most; the head is the last one that was swapped. -/
structure CInv (s : St) (hs ts : List ByteArray) (hd : ByteArray) : Prop where
  keeps : Keeps s
  head : s.head = hd
  same : hs.length = ts.length
  nodup : hs.Nodup
  there : ∀ (j : Nat) (n t : ByteArray), hs[j]? = some n → ts[j]? = some t → ∃ d, getO s.obs n = some (n, t, d)
  low : hs.length ≤ s.obs.length
  high : s.obs.length ≤ hs.length + 1
  on : s.off = false → s.obs.length = hs.length
  nsz : ∀ n ∈ hs, n.size ≤ 40
  hsz : hd.size ≤ 40

theorem cinv_new (z : Int) : CInv (cutS newS z) [] [] ⟨#[]⟩ := by
  have ho : (cutS newS z).obs = [] := by unfold cutS; split <;> rfl
  have hh : (cutS newS z).head = ⟨#[]⟩ := by unfold cutS; split <;> rfl
  refine ⟨cutS_keeps newS_keeps z, hh, rfl, List.nodup_nil, fun j n t h => by simp at h, by simp, by rw [ho]; simp, fun _ => by rw [ho]; rfl, fun n hn => by simp at hn, by decide⟩

theorem put_off {s : St} {n t : ByteArray} (h : putC s n t = 0) : putE s n t = 0 ∧ (putS s n t).off = false ∧ (putS s n t).obs.length = s.obs.length + 1 ∧ (putS s n t).head = s.head := by
  have he : putE s n t = 0 := by
    by_cases e : putE s n t = 0
    · exact e
    · rw [(put_same e).2] at h; exact absurd h e
  obtain ⟨e1, e2⟩ := put_wrote he
  refine ⟨he, ?_, ?_, ?_⟩
  · rw [e1]
    show (wrtS s t.size).2.off = false
    rw [e2] at h
    cases ho : (wrtS s t.size).2.off
    · rfl
    · rw [ho] at h; simp at h
  · rw [e1]
    show (insO s.obs _).length = _
    rw [insO_len]
  · rw [e1]
    exact (wrtS_obs s t.size).2.1

/-- What a Put leaves of the others. -/
theorem put_others {s : St} (K : Keeps s) (n t : ByteArray) : putS s n t = s ∨ ((putS s n t).obs.length = s.obs.length + 1 ∧ (putS s n t).head = s.head ∧ (∀ m o, getO s.obs m = some o → getO (putS s n t).obs m = some o) ∧ ∀ o ∈ s.obs, o.1 ≠ n) := by
  by_cases h : putE s n t = 0
  · obtain ⟨e1, e2⟩ := put_wrote h
    obtain ⟨-, -, -, h4, -, -⟩ := put_free h
    refine Or.inr ⟨?_, ?_, fun m o hm => ?_, h4⟩
    · rw [e1]
      show (insO s.obs _).length = _
      rw [insO_len]
    · rw [e1]
      exact (wrtS_obs s t.size).2.1
    · rw [e1]
      show getO (insO s.obs _) m = some o
      have hne : m ≠ n := fun e => by
        obtain ⟨h5, h6⟩ := getO_some hm
        exact h4 o h5 (h6.trans e)
      rw [getO_other (o := (n, bytesOf (t.data.toList.take (wrtS s t.size).1), s.day)) K.rise h4 hne]
      exact hm
  · exact Or.inl (put_same h).1

theorem cinv_put0 {s : St} {hs ts : List ByteArray} {hd n t : ByteArray} (h : CInv s hs ts hd) (ho : s.off = false) (hc : putC s n t = 0) (hn : n.size ≤ 40) : CInv (putS s n t) (hs ++ [n]) (ts ++ [t]) hd := by
  obtain ⟨p1, p2, p3, p4⟩ := put_off hc
  obtain ⟨d, hd2⟩ := (put_once h.keeps n t).2.1 hc
  obtain ⟨-, -, -, h4, -, -⟩ := put_free p1
  have hnot : n ∉ hs := fun hm => by
    obtain ⟨j, hj, e⟩ := List.mem_iff_getElem.1 hm
    have hj2 : j < ts.length := by rw [← h.same]; exact hj
    obtain ⟨d', hd'⟩ := h.there j hs[j] ts[j] (List.getElem?_eq_getElem hj) (List.getElem?_eq_getElem hj2)
    rw [e] at hd'
    obtain ⟨h5, h6⟩ := getO_some hd'
    exact h4 _ h5 h6
  refine ⟨putS_keeps h.keeps n t, by rw [p4]; exact h.head, by simp [h.same], ?_, fun j m u hm hu => ?_, ?_, ?_, fun _ => ?_, fun m hm => ?_, h.hsz⟩
  · rw [List.nodup_append]
    refine ⟨h.nodup, by simp, fun x hx y hy e => ?_⟩
    simp at hy
    subst hy
    exact hnot (e ▸ hx)
  · by_cases hj : j < hs.length
    · rw [List.getElem?_append_left hj] at hm
      rw [List.getElem?_append_left (by rw [← h.same]; exact hj)] at hu
      obtain ⟨d', hd'⟩ := h.there j m u hm hu
      rcases put_others h.keeps n t with e | ⟨-, -, e, -⟩
      · rw [e]; exact ⟨d', hd'⟩
      · exact ⟨d', e _ _ hd'⟩
    · rw [List.getElem?_append_right (by omega)] at hm
      rw [List.getElem?_append_right (by rw [← h.same]; omega), ← h.same] at hu
      have h0 : j - hs.length = 0 := by
        by_cases e : j - hs.length = 0
        · exact e
        · rw [List.getElem?_eq_none (by simp; omega)] at hm; cases hm
      rw [h0] at hm hu
      simp at hm hu
      subst hm
      subst hu
      exact ⟨d, hd2⟩
  · have := h.on ho; rw [p3, List.length_append]; simp; omega
  · have := h.on ho; rw [p3, List.length_append]; simp; omega
  · have := h.on ho; rw [p3, List.length_append]; simp; omega
  · rw [List.mem_append] at hm
    rcases hm with hm | hm
    · exact h.nsz m hm
    · simp at hm; subst hm; exact hn

theorem cinv_put1 {s : St} {hs ts : List ByteArray} {hd n t : ByteArray} (h : CInv s hs ts hd) (ho : s.off = false) (hc : putC s n t ≠ 0) : CInv (putS s n t) hs ts hd := by
  rcases put_others h.keeps n t with e | ⟨e1, e2, e3, e4⟩
  · rw [e]; exact h
  · refine ⟨putS_keeps h.keeps n t, e2.trans h.head, h.same, h.nodup, fun j m u hm hu => ?_, ?_, ?_, fun hoff => ?_, h.nsz, h.hsz⟩
    · obtain ⟨d, hd'⟩ := h.there j m u hm hu
      exact ⟨d, e3 _ _ hd'⟩
    · have := h.on ho; omega
    · have := h.on ho; omega
    · have e5 := (put_once h.keeps n t).2.2.1 hc hoff
      rw [e5]; exact h.on ho

theorem swap_obs (s : St) (n t : ByteArray) : (swapS s n t).obs = s.obs := by
  have h := wrtS_obs s t.size
  unfold swapS
  repeat' split
  · rfl
  · exact h.1
  · exact h.1
theorem swap_off {s : St} {n t : ByteArray} (h : (swapS s n t).off = false) : s.off = false := by
  cases ho : s.off
  · rfl
  · have he : swapE s n t ≠ 0 := by
      unfold swapE
      repeat' split
      all_goals first | omega | (exfalso; simp_all)
    unfold swapS at h
    rw [if_pos he] at h
    rw [ho] at h
    exact h

theorem cinv_swap {s : St} {hs ts : List ByteArray} {hd n : ByteArray} (h : CInv s hs ts hd) (hn : n.size ≤ 40) : CInv (swapS s hd n) hs ts (if swapC s hd n = 0 then n else hd) := by
  have ho := swap_obs s hd n
  refine ⟨swapS_keeps h.keeps hd n, ?_, h.same, h.nodup, by rw [ho]; exact h.there, by rw [ho]; exact h.low, by rw [ho]; exact h.high, fun e => by rw [ho]; exact h.on (swap_off e), h.nsz, ?_⟩
  · rcases swap_legs s hd n with ⟨e1, -, e3⟩ | ⟨⟨m, e1⟩, e2⟩
    · rw [e1, if_pos rfl]; exact e3
    · rw [e1, if_neg (by omega), e2]; exact h.head
  · split
    · exact hn
    · exact h.hsz

/-- What is left to be looked at is there. -/
structure DInv (s : St) (hs ts : List ByteArray) (m : Nat) : Prop where
  keeps : Keeps s
  there : ∀ (j : Nat) (n t : ByteArray), m ≤ j → hs[j]? = some n → ts[j]? = some t → ∃ d, getO s.obs n = some (n, t, d)

theorem dinv_of {s : St} {hs ts : List ByteArray} {hd : ByteArray} (h : CInv s hs ts hd) : DInv s hs ts 0 := ⟨h.keeps, fun j n t _ => h.there j n t⟩
theorem dinv_drop {s : St} {hs ts : List ByteArray} {m : Nat} {n : ByteArray} (h : DInv s hs ts m) (hN : hs.Nodup) (hm : hs[m]? = some n) : DInv (dropS s n) hs ts (m + 1) := by
  refine ⟨dropS_keeps h.keeps n, fun j k t hj hk ht => ?_⟩
  obtain ⟨d, hd⟩ := h.there j k t (by omega) hk ht
  unfold dropS
  split
  · exact ⟨d, hd⟩
  · refine ⟨d, ?_⟩
    show getO (s.obs.filter _) k = _
    rw [getO_drop h.keeps.rise, if_neg]
    · exact hd
    · intro e
      have h1 : hs[j]? = hs[m]? := by rw [hk, hm, e]
      have hjl : j < hs.length := by
        by_cases hjl : j < hs.length
        · exact hjl
        · rw [List.getElem?_eq_none (by omega)] at hk; cases hk
      have := (List.getElem?_inj hjl hN).1 h1
      omega
theorem dinv_get {s : St} {hs ts : List ByteArray} {m : Nat} {n t : ByteArray} (h : DInv s hs ts m) (hm : hs[m]? = some n) (ht : ts[m]? = some t) : getT s.obs n = (t, 0) ∧ dropC s n = if s.off = true then 12 else 0 := by
  obtain ⟨d, hd⟩ := h.there m n t (Nat.le_refl _) hm ht
  refine ⟨getT_of hd, ?_⟩
  unfold dropC
  rw [hd]
  rfl
theorem drop_off (s : St) (n : ByteArray) : (dropS s n).off = s.off := by
  unfold dropS
  split <;> rfl
end Go.Proofs.YtmcfklkpdhgjdaaDoor
