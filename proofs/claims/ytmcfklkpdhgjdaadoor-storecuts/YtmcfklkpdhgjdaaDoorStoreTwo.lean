/-
  A store of the program's beside a copy of it, and an act in memory.
-/
import Derived.Test.YtmcfklkpdhgjdaaDoorStoreDo2
namespace Go.Proofs.YtmcfklkpdhgjdaaDoor
open Go.RowKit Go.Extern.Stop Go.Stop Go.Extern Go.Sort Go.Shelf Go.Lib

/-- Two stores of the program's in blocks apart, and an act that lies in neither's. -/
def Twin (EM : World → Prop) (SAt : World → Value → (Nat → Prop) → St → Prop) (B : Nat) (w0 W : World) (v : Value) (s : St) (u : Value) (r : St) (A : Nat) (x : Ac) : Prop :=
  ∃ FP GP, SOk EM SAt B w0 W v FP s ∧ SAt W u GP r ∧ (∀ k, GP k → B ≤ k) ∧ (∀ k, FP k → ¬ GP k) ∧ ¬ FP A ∧ ¬ GP A ∧ ActC W A x

theorem TxsAt.len {w : World} {v : Value} {ts : List ByteArray} (h : TxsAt w v ts) : ∃ q c, v = .slice q ts.length c := h.form

section
variable {a : Nat → Addr} {B : Nat} {EM : World → Prop} {SAt : World → Value → (Nat → Prop) → St → Prop} {w0 W w' : World} {v u : Value} {s s' r : St} {A : Nat} {x : Ac}

theorem Twin.cells (h : Twin EM SAt B w0 W v s u r A x) : ActC W A x := by
  obtain ⟨_, _, _, _, _, _, _, _, h⟩ := h
  exact h
theorem Twin.env (h : Twin EM SAt B w0 W v s u r A x) : EM W := by
  obtain ⟨_, _, h, _⟩ := h
  exact h.env
theorem Twin.quiet (K : StoreK a B EM SAt) (h : Twin EM SAt B w0 W v s u r A x) (hb : Below W.heap.size W w') : Twin EM SAt B w0 w' v s u r A x := by
  obtain ⟨FP, GP, h1, h2, h3, h4, h5, h6, c0, c1, c2, c3⟩ := h
  exact ⟨FP, GP, h1.quiet K hb, K.keep _ _ _ _ (fun _ => False) _ h2 (But.of_below hb) (fun _ _ h => h), h3, h4, h5, h6, below_keep hb c0, below_keep hb c1, below_keep hb c2, below_keep hb c3⟩
theorem Twin.drew (K : StoreK a B EM SAt) (h : Twin EM SAt B w0 W v s u r A x) : Twin EM SAt B w0 W.drew v s u r A x := h.quiet K (Below.drew (Below.refl _ _))
theorem Twin.call (K : StoreK a B EM SAt) {f : Nat} {vs : Array Value} {R : Value} (h : Twin EM SAt B w0 W v s u r A x) (hc : ∀ FP, SAt W v FP s → Calls Tryd.prog f vs W fun e w' => e = .returned R ∧ SPost SAt W v FP s' w') :
    Calls Tryd.prog f vs W fun e w' => e = .returned R ∧ Twin EM SAt B w0 w' v s' u r A x := by
  obtain ⟨FP, GP, h1, h2, h3, h4, h5, h6, c0, c1, c2, c3⟩ := h
  refine (hc FP h1.at_).mono fun e w' ⟨he, hp⟩ => ⟨he, ?_⟩
  obtain ⟨FP2, g1, g2, g3⟩ := h1.post K hp
  have hA : A < W.heap.size := cell_lt c0
  refine ⟨FP2, GP, g1, K.keep _ _ _ _ _ _ h2 g2 (fun k hk hF => h4 k hF hk), h3, fun k hk hG => ?_, fun hF => ?_, h6, g2.keep h5 c0, g2.keep h5 c1, g2.keep h5 c2, g2.keep h5 c3⟩
  · rcases g3 k hk with h7 | h7
    · exact h4 k h7 hG
    · have := K.lt _ _ _ _ _ h2 hG; omega
  · rcases g3 A hF with h7 | h7
    · exact h5 h7
    · omega
theorem Twin.new (K : StoreK a B EM SAt) {W1 : World} {FP GP : Nat → Prop} (h : SOk EM SAt B w0 W v FP s) (hA : A = W.heap.size) (hb1 : Below W.heap.size W W1) (hlt : W.heap.size < W1.heap.size) (hc : ActC W1 A x) (hu : SAt w' u GP r) (hn : ∀ k, GP k → W1.heap.size ≤ k) (hb2 : Below W1.heap.size W1 w') : Twin EM SAt B w0 w' v s u r A x := by
  subst hA
  have hB := K.size _ h.env
  obtain ⟨c0, c1, c2, c3⟩ := hc
  refine ⟨FP, GP, (h.quiet K hb1).quiet K hb2, hu, fun k hk => ?_, fun k hk hG => ?_, fun hF => Nat.lt_irrefl _ (K.lt _ _ _ _ _ h.at_ hF), fun hG => ?_, below_keep hb2 c0, below_keep hb2 c1, below_keep hb2 c2, below_keep hb2 c3⟩
  · have := hn k hk; omega
  · have h1 := hn k hG
    have h2 := K.lt _ _ _ _ _ h.at_ hk
    omega
  · have := hn _ hG; omega
theorem Twin.first (h : Twin EM SAt B w0 W v s u r A x) : ∃ FP, SOk EM SAt B w0 W v FP s := by
  obtain ⟨FP, _, h, _⟩ := h
  exact ⟨FP, h⟩

theorem Twin.get1 (K : StoreK a B EM SAt) (h : Twin EM SAt B w0 W v s u r A x) (KS : Keeps s) (n : ByteArray) (hn : n.size ≤ 1000) : Calls Tryd.prog 10 #[v, .string n] W fun e w' => e = .returned (.tuple #[.string (getT s.obs n).1, errV a (getT s.obs n).2]) ∧ Twin EM SAt B w0 w' v s u r A x := by
  have h' := h
  obtain ⟨FP, GP, h1, h2, _⟩ := h'
  exact (K.get W v FP s n h1.env h1.at_ KS hn).mono fun e w' ⟨he, hb⟩ => ⟨he, h.quiet K hb⟩
theorem Twin.get2 (K : StoreK a B EM SAt) (h : Twin EM SAt B w0 W v s u r A x) (KS : Keeps r) (n : ByteArray) (hn : n.size ≤ 1000) : Calls Tryd.prog 10 #[u, .string n] W fun e w' => e = .returned (.tuple #[.string (getT r.obs n).1, errV a (getT r.obs n).2]) ∧ Twin EM SAt B w0 w' v s u r A x := by
  have h' := h
  obtain ⟨FP, GP, h1, h2, _⟩ := h'
  exact (K.get W u GP r n h1.env h2 KS hn).mono fun e w' ⟨he, hb⟩ => ⟨he, h.quiet K hb⟩
theorem Twin.head1 (K : StoreK a B EM SAt) (h : Twin EM SAt B w0 W v s u r A x) (KS : Keeps s) : Calls Tryd.prog 14 #[v] W fun e w' => e = .returned (.string s.head) ∧ Twin EM SAt B w0 w' v s u r A x := by
  have h' := h
  obtain ⟨FP, GP, h1, h2, _⟩ := h'
  exact (K.head W v FP s h1.env h1.at_ KS).mono fun e w' ⟨he, hb⟩ => ⟨he, h.quiet K hb⟩
theorem Twin.head2 (K : StoreK a B EM SAt) (h : Twin EM SAt B w0 W v s u r A x) (KS : Keeps r) : Calls Tryd.prog 14 #[u] W fun e w' => e = .returned (.string r.head) ∧ Twin EM SAt B w0 w' v s u r A x := by
  have h' := h
  obtain ⟨FP, GP, h1, h2, _⟩ := h'
  exact (K.head W u GP r h1.env h2 KS).mono fun e w' ⟨he, hb⟩ => ⟨he, h.quiet K hb⟩
theorem Twin.head1b (K : StoreK a B EM SAt) (h : Twin EM SAt B w0 W v s u r A x) (KS : Keeps s) : Calls Tryd.prog 14 #[v] W fun e w' => e = .returned (.string s.head) ∧ Below W.heap.size W w' := by
  obtain ⟨FP, GP, h1, h2, _⟩ := h
  exact K.head W v FP s h1.env h1.at_ KS
theorem Twin.head2b (K : StoreK a B EM SAt) (h : Twin EM SAt B w0 W v s u r A x) (KS : Keeps r) : Calls Tryd.prog 14 #[u] W fun e w' => e = .returned (.string r.head) ∧ Below W.heap.size W w' := by
  obtain ⟨FP, GP, h1, h2, _⟩ := h
  exact K.head W u GP r h1.env h2 KS
theorem Twin.day1 (K : StoreK a B EM SAt) (h : Twin EM SAt B w0 W v s u r A x) (KS : Keeps s) : Calls Tryd.prog 19 #[v] W fun e w' => e = .returned (.int .i64 s.day) ∧ Twin EM SAt B w0 w' v s u r A x := by
  have h' := h
  obtain ⟨FP, GP, h1, h2, _⟩ := h'
  exact (K.day W v FP s h1.env h1.at_ KS).mono fun e w' ⟨he, hb⟩ => ⟨he, h.quiet K hb⟩
theorem Twin.day2 (K : StoreK a B EM SAt) (h : Twin EM SAt B w0 W v s u r A x) (KS : Keeps r) : Calls Tryd.prog 19 #[u] W fun e w' => e = .returned (.int .i64 r.day) ∧ Twin EM SAt B w0 w' v s u r A x := by
  have h' := h
  obtain ⟨FP, GP, h1, h2, _⟩ := h'
  exact (K.day W u GP r h1.env h2 KS).mono fun e w' ⟨he, hb⟩ => ⟨he, h.quiet K hb⟩
theorem Twin.power1 (K : StoreK a B EM SAt) (h : Twin EM SAt B w0 W v s u r A x) (KS : Keeps s) : Calls Tryd.prog 11 #[v] W fun e w' => e = .returned (.bool (!s.off)) ∧ Twin EM SAt B w0 w' v s u r A x := by
  have h' := h
  obtain ⟨FP, GP, h1, h2, _⟩ := h'
  exact (K.power W v FP s h1.env h1.at_ KS).mono fun e w' ⟨he, hb⟩ => ⟨he, h.quiet K hb⟩
theorem Twin.same21 (K : StoreK a B EM SAt) (h : Twin EM SAt B w0 W v s u s A x) : Calls Tryd.prog 12 #[u, v] W fun e w' => e = .returned (.bool true) ∧ Twin EM SAt B w0 w' v s u s A x := by
  have h' := h
  obtain ⟨FP, GP, h1, h2, _⟩ := h'
  have hs := K.same W u v GP FP s s h1.env h2 h1.at_
  rw [sameS_self] at hs
  exact hs.mono fun e w' ⟨he, hb⟩ => ⟨he, h.quiet K hb⟩
theorem Twin.names1 (K : StoreK a B EM SAt) (h : Twin EM SAt B w0 W v s u r A x) (KS : Keeps s) : Calls Tryd.prog 20 #[v] W fun e w' => ∃ q c, e = .returned (.slice q s.obs.length c) ∧ Twin EM SAt B w0 w' v s u r A x := by
  have h' := h
  obtain ⟨FP, GP, h1, h2, _⟩ := h'
  refine (K.names W v FP s h1.env h1.at_ KS).mono fun e w' ⟨v', he, ht, hb⟩ => ?_
  obtain ⟨q, c, hq⟩ := ht.form
  rw [List.length_map] at hq
  exact ⟨q, c, by rw [he, hq], h.quiet K hb⟩
theorem Twin.names2 (K : StoreK a B EM SAt) (h : Twin EM SAt B w0 W v s u r A x) (KS : Keeps r) : Calls Tryd.prog 20 #[u] W fun e w' => ∃ q c, e = .returned (.slice q r.obs.length c) ∧ Twin EM SAt B w0 w' v s u r A x := by
  have h' := h
  obtain ⟨FP, GP, h1, h2, _⟩ := h'
  refine (K.names W u GP r h1.env h2 KS).mono fun e w' ⟨v', he, ht, hb⟩ => ?_
  obtain ⟨q, c, hq⟩ := ht.form
  rw [List.length_map] at hq
  exact ⟨q, c, by rw [he, hq], h.quiet K hb⟩
theorem Twin.put (K : StoreK a B EM SAt) (h : Twin EM SAt B w0 W v s u r A x) (KS : Keeps s) (n t : ByteArray) (hn : n.size ≤ 1000) (ht : t.size ≤ 100000) : Calls Tryd.prog 9 #[v, .string n, .string t] W fun e w' => e = .returned (errV a (putC s n t)) ∧ Twin EM SAt B w0 w' v (putS s n t) u r A x := h.call K (fun FP hS => K.put W v FP s n t h.env hS KS hn ht)
theorem Twin.swap (K : StoreK a B EM SAt) (h : Twin EM SAt B w0 W v s u r A x) (KS : Keeps s) (n t : ByteArray) (hn : n.size ≤ 1000) (ht : t.size ≤ 100000) : Calls Tryd.prog 13 #[v, .string n, .string t] W fun e w' => e = .returned (errV a (swapC s n t)) ∧ Twin EM SAt B w0 w' v (swapS s n t) u r A x := h.call K (fun FP hS => K.swap W v FP s n t h.env hS KS hn ht)
theorem Twin.drop (K : StoreK a B EM SAt) (h : Twin EM SAt B w0 W v s u r A x) (KS : Keeps s) (n : ByteArray) (hn : n.size ≤ 1000) : Calls Tryd.prog 15 #[v, .string n] W fun e w' => e = .returned (errV a (dropC s n)) ∧ Twin EM SAt B w0 w' v (dropS s n) u r A x := h.call K (fun FP hS => K.drop W v FP s n h.env hS KS hn)
theorem Twin.cut (K : StoreK a B EM SAt) (h : Twin EM SAt B w0 W v s u r A x) (KS : Keeps s) (z : Int) (hz : -9223372036854775808 ≤ z ∧ z ≤ 9223372036854775807) : Calls Tryd.prog 16 #[v, .int .i64 z] W fun e w' => e = .returned (errV a (cutC s z)) ∧ Twin EM SAt B w0 w' v (cutS s z) u r A x := h.call K (fun FP hS => K.cut W v FP s z h.env hS KS hz)
theorem Twin.on (K : StoreK a B EM SAt) (h : Twin EM SAt B w0 W v s u r A x) (KS : Keeps s) : Calls Tryd.prog 17 #[v] W fun e w' => e = .returned (.tuple #[]) ∧ Twin EM SAt B w0 w' v (onS s) u r A x := h.call K (fun FP hS => K.on W v FP s h.env hS KS)
theorem Twin.next (K : StoreK a B EM SAt) (h : Twin EM SAt B w0 W v s u r A x) (KS : Keeps s) (z : Int) (hz : -9223372036854775808 ≤ z ∧ z ≤ 9223372036854775807) : Calls Tryd.prog 18 #[v, .int .i64 z] W fun e w' => e = .returned (.tuple #[.int .i64 (if nextC s z = 0 then s.day + z else 0), errV a (nextC s z)]) ∧ Twin EM SAt B w0 w' v (nextS s z) u r A x := h.call K (fun FP hS => K.next W v FP s z h.env hS KS hz)
end

/-- What every act leaves: no day is lost, one object more at most. -/
def TailOk (s s' : St) : Prop := s.day ≤ s'.day ∧ s'.obs.length ≤ s.obs.length + 1
theorem tail_same (s : St) : TailOk s s := ⟨Int.le_refl _, Nat.le_succ _⟩
theorem tail_put (s : St) (n t : ByteArray) : TailOk s (putS s n t) := by
  unfold putS
  split
  · exact tail_same s
  · have h := wrtS_obs s t.size
    refine ⟨by show s.day ≤ (wrtS s t.size).2.day; rw [h.2.2]; exact Int.le_refl _, ?_⟩
    show (insO s.obs _).length ≤ _
    rw [insO_len]
    exact Nat.le_refl _
theorem tail_drop (s : St) (n : ByteArray) : TailOk s (dropS s n) := by
  unfold dropS
  split
  · exact tail_same s
  · refine ⟨Int.le_refl _, ?_⟩
    have := List.length_filter_le (fun o : Ob => decide (o.1 ≠ n)) s.obs
    show (s.obs.filter _).length ≤ _
    omega
theorem tail_swap (s : St) (n t : ByteArray) : TailOk s (swapS s n t) := by
  have h := wrtS_obs s t.size
  unfold swapS
  repeat' split
  · exact tail_same s
  · exact ⟨by rw [h.2.2]; exact Int.le_refl _, by rw [h.1]; exact Nat.le_succ _⟩
  · exact ⟨by show s.day ≤ (wrtS s t.size).2.day; rw [h.2.2]; exact Int.le_refl _, by show (wrtS s t.size).2.obs.length ≤ _; rw [h.1]; exact Nat.le_succ _⟩
theorem tail_cut (s : St) (z : Int) : TailOk s (cutS s z) := by
  unfold cutS
  split
  · exact tail_same s
  · exact tail_same s
theorem tail_on (s : St) : TailOk s (onS s) := tail_same s
theorem tail_next (s : St) (z : Int) : TailOk s (nextS s z) := by
  unfold nextS
  split
  · exact tail_same s
  · rename_i h
    unfold nextC at h
    refine ⟨?_, Nat.le_succ _⟩
    show s.day ≤ s.day + z
    by_cases hz : z < 0 ∨ 100000 - s.day < z
    · rw [if_pos hz] at h; simp at h
    · omega

theorem getT_vals (l : List Ob) (n : ByteArray) : ((getT l n).2 = 0 ∧ (getO l n).isSome = true) ∨ ((getT l n).2 = 6 ∧ getO l n = none) := by
  unfold getT
  cases getO l n with
  | none => exact Or.inr ⟨rfl, rfl⟩
  | some o => exact Or.inl ⟨rfl, rfl⟩
theorem getT_of {l : List Ob} {n : ByteArray} {o : Ob} (h : getO l n = some o) : getT l n = (o.2.1, 0) := by
  unfold getT
  rw [h]

/-- The ways of a Put. -/
theorem put_legs {s : St} (K : Keeps s) (n t : ByteArray) :
    ((∃ m, putC s n t = m + 1) ∧ putS s n t = s ∧ (getT s.obs n).2 = 0) ∨
    (putC s n t = 0 ∧ (getT s.obs n).2 = 6 ∧ getT (putS s n t).obs n = (t, 0)) ∨
    ((∃ m, putC s n t = m + 1) ∧ (getT s.obs n).2 = 6 ∧ putS s n t = s) ∨
    ((∃ m, putC s n t = m + 1) ∧ (getT s.obs n).2 = 6 ∧ (getT (putS s n t).obs n).2 = 6 ∧ (putS s n t).off = true) ∨
    ((∃ m, putC s n t = m + 1) ∧ (getT s.obs n).2 = 6 ∧ (putS s n t).off = true ∧ ∃ k, k ≤ t.size ∧ getT (putS s n t).obs n = (bytesOf (t.data.toList.take k), 0)) := by
  obtain ⟨p1, p2, p3, p4⟩ := put_once K n t
  have hm : putC s n t ≠ 0 → ∃ m, putC s n t = m + 1 := fun h => ⟨putC s n t - 1, by omega⟩
  rcases getT_vals s.obs n with ⟨g1, g2⟩ | ⟨g1, g2⟩
  · obtain ⟨q1, q2⟩ := p1 g2
    exact Or.inl ⟨hm q1, q2, g1⟩
  · by_cases hc : putC s n t = 0
    · obtain ⟨d, hd⟩ := p2 hc
      exact Or.inr (Or.inl ⟨hc, g1, getT_of hd⟩)
    · cases ho : (putS s n t).off with
      | false => exact Or.inr (Or.inr (Or.inl ⟨hm hc, g1, p3 hc ho⟩))
      | true =>
        rcases getT_vals (putS s n t).obs n with ⟨e1, e2⟩ | ⟨e1, e2⟩
        · obtain ⟨o, ho2⟩ := Option.isSome_iff_exists.1 e2
          obtain ⟨k, hk, hk2⟩ := p4 g2 o ho2
          exact Or.inr (Or.inr (Or.inr (Or.inr ⟨hm hc, g1, rfl, k, hk, by rw [getT_of ho2, hk2]⟩)))
        · exact Or.inr (Or.inr (Or.inr (Or.inl ⟨hm hc, g1, e1, rfl⟩)))

/-- The ways of a Swap. -/
theorem swap_legs (s : St) (n t : ByteArray) : (swapC s n t = 0 ∧ s.head = n ∧ (swapS s n t).head = t) ∨ ((∃ m, swapC s n t = m + 1) ∧ (swapS s n t).head = s.head) := by
  by_cases h : swapE s n t = 0
  · obtain ⟨-, h2, h3⟩ := swap_size h
    have hn : ¬ swapE s n t ≠ 0 := by simpa using h
    have e1 : swapC s n t = if (wrtS s t.size).1 < t.size then 12 else 0 := by unfold swapC; rw [if_neg hn]
    have e2 : swapS s n t = if (wrtS s t.size).1 < t.size then (wrtS s t.size).2 else { (wrtS s t.size).2 with head := t } := by unfold swapS; rw [if_neg hn]
    by_cases hl : (wrtS s t.size).1 < t.size
    · rw [if_pos hl] at e1 e2
      rw [e1, e2]
      exact Or.inr ⟨⟨11, rfl⟩, (wrtS_obs s t.size).2.1⟩
    · rw [if_neg hl] at e1 e2
      rw [e1, e2]
      exact Or.inl ⟨rfl, h3, rfl⟩
  · have e1 : swapC s n t = swapE s n t := by unfold swapC; rw [if_pos h]
    have e2 : swapS s n t = s := by unfold swapS; rw [if_pos h]
    rw [e1, e2]
    exact Or.inr ⟨⟨swapE s n t - 1, by omega⟩, rfl⟩

/-- The ways of a Drop. -/
theorem drop_legs {s : St} (K : Keeps s) (n : ByteArray) : (dropC s n = 0 ∧ (getT (dropS s n).obs n).2 = 6) ∨ ((∃ m, dropC s n = m + 1) ∧ dropS s n = s) := by
  by_cases h : dropC s n = 0
  · refine Or.inl ⟨h, ?_⟩
    unfold dropS
    rw [if_neg (by simpa using h)]
    unfold getT
    have hg := getO_drop (m := n) (n := n) K.rise
    rw [if_pos rfl] at hg
    dsimp only
    rw [hg]
  · refine Or.inr ⟨⟨dropC s n - 1, by omega⟩, ?_⟩
    unfold dropS
    rw [if_pos h]

theorem next_legs (s : St) (z : Int) : (nextC s z = 0 ∧ (nextS s z).day = s.day + z ∧ 0 ≤ z ∧ s.day + z ≤ 100000) ∨ ∃ m, nextC s z = m + 1 := by
  by_cases h : nextC s z = 0
  · refine Or.inl ⟨h, ?_⟩
    unfold nextS
    rw [if_neg (by simpa using h)]
    refine ⟨rfl, ?_⟩
    unfold nextC at h
    by_cases hz : z < 0 ∨ 100000 - s.day < z
    · rw [if_pos hz] at h; simp at h
    · omega
  · exact Or.inr ⟨nextC s z - 1, by omega⟩

theorem take_size {t : ByteArray} {k : Nat} (hk : k ≤ t.size) : (bytesOf (t.data.toList.take k)).size = k := by
  rw [← size_list]
  have e : (bytesOf (t.data.toList.take k)).data.toList = t.data.toList.take k := by simp [bytesOf]
  rw [e, List.length_take, size_list]
  omega
theorem take_extract (t : ByteArray) (k : Nat) : bytesOf (t.data.toList.take k) = t.extract 0 k := by
  apply name_ext
  rw [ByteArray.data_extract]
  simp [bytesOf]
theorem eqL_of {s : ByteArray} {l : List UInt8} (h : s.data.toList = l) : (s.toList == l) = true := by
  rw [ByteArray.toList_eq]; simpa using h
theorem neL_of {s : ByteArray} {l : List UInt8} (h : s.data.toList ≠ l) : (s.toList == l) = false := by
  rw [ByteArray.toList_eq]; simpa using h
end Go.Proofs.YtmcfklkpdhgjdaaDoor
