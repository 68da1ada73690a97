/-
  The contract of the program's Copy.
-/
import Derived.Test.YtbdhdlloihkibaaGreatDoorStoPut3
namespace Go.Proofs.YtbdhdlloihkibaaGreatDoor
open Go.RowKit Go.Maps Go.Sort Go.Shelf
attribute [local go_sem] Oper.semAt_some

def noDefer (ops : Array Oper) : Bool := ops.toList.all fun o => match o.op with
  | .defer _ => false
  | _ => true
theorem noDefer_spec {ops : Array Oper} (h : noDefer ops = true) {i : Nat} {o : Oper} (ho : ops[i]? = some o) : ∀ c, o.op ≠ .defer c := by
  intro c e
  have hm : o ∈ ops.toList := by
    rw [← Array.getElem?_toList] at ho
    exact List.mem_of_getElem? ho
  have := List.all_eq_true.1 h o hm
  rw [e] at this
  cases this
theorem oper_round {n : Nat} {P : Program} {o : Oper} {a : Act} {w : World} {K K' : Act → World → Prop} {Q : Exit → Act → World → Prop} (l : Nat) (hd : ∀ c, o.op ≠ .defer c) (hk : ∀ a w, K a w → K' a w) (h : Oper.wpIn Fence.wide n P o a w K Q) : Oper.wpIn (Fence.wide.inRound l) n P o a w K' Q := by
  have h' := Oper.wpIn_mono hk h
  unfold Oper.wpIn at h' ⊢
  refine ⟨fun _ _ => trivial, ?_⟩
  have h2 := h'.2
  rw [Oper.semAt_plain _ _ _ hd] at h2 ⊢
  exact h2
theorem any_round {n : Nat} {P : Program} {md : Region.Mode} {ops : Array Oper} {Q : Exit → Act → World → Prop} (l : Nat) (hd : noDefer ops = true) : ∀ (fuel : Nat) (listed : Array Bool) (a : Act) (w : World), wpAnyIn Fence.wide n P md ops Q fuel listed a w → wpAnyIn (Fence.wide.inRound l) n P md ops Q fuel listed a w
  | 0, _, _, _, h => h
  | fuel + 1, listed, a, w, h => by
    refine ⟨h.1, fun i hi => ?_⟩
    have hw := h.2 i hi
    unfold wpOpIn at hw ⊢
    cases ho : ops[i]? with
    | none =>
      rw [ho] at hw
      exact any_round l hd fuel _ a w hw
    | some o =>
      rw [ho] at hw
      dsimp only at hw ⊢
      split
      · rename_i hwa
        rw [if_pos hwa] at hw
        exact oper_round l (noDefer_spec hd ho) (fun a w h => any_round l hd fuel _ a w h) hw
      · rename_i hwa
        rw [if_neg hwa] at hw
        exact ⟨fun _ _ => trivial, any_round l hd fuel _ _ _ hw.2⟩

theorem mapQ_over {q : ByteArray → Nat} {l : List Ob} {n : ByteArray} {k : Nat} (hr : RiseO l) (hn : (getO l n).isSome = true) (hc : Maps.Canon ((mapQ q l).put (keyL n) (ptrD k))) : (mapQ q l).put (keyL n) (ptrD k) = mapQ (setQ q n k) l := by
  have hm : Maps.IsMap (mapQ q l) := ⟨_, rfl⟩
  have hh : ∀ z, Maps.has ((mapQ q l).put (keyL n) (ptrD k)) z = Maps.has (mapQ (setQ q n k) l) z := fun z => by
    rcases lit_key z with ⟨m, rfl⟩ | hk
    · by_cases e : m = n
      · subst e
        rw [Maps.has_put_same hm (show WideAt.IsKeyLit (keyL m) from trivial), mapQ_has, hn]
      · rw [Maps.has_put_other (keyL_ne e), mapQ_has, mapQ_has]
    · rw [hk, Maps.has_put_other (fun e => ?_), hk]
      subst e
      have h1 := hk q l
      rw [mapQ_has, hn] at h1
      cases h1
  refine Maps.ext hc (mapQ_canon hr) hh (fun z u hk => ?_)
  rcases lit_key z with ⟨m, rfl⟩ | hk2
  · by_cases e : m = n
    · subst e
      rw [Maps.atKey_put_same hm (show WideAt.IsKeyLit (keyL m) from trivial), mapQ_at, if_pos hn, setQ_same]
    · rw [Maps.atKey_put_other (keyL_ne e), mapQ_at, mapQ_at, setQ_other _ _ e]
  · rw [hh, hk2] at hk
    cases hk
theorem PtrMap.over {w : World} {b : Nat} {q : ByteArray → Nat} {l : List Ob} (h : PtrMap w b q l) (hr : RiseO l) (hl : l.length < maxLen) {n : ByteArray} (hn : n.size ≤ maxLen) (hg : (getO l n).isSome = true) (k : Nat) :
    ∃ w', (Instr.mapUpdate 64 (.map (some b)) (.string n) (ptrV k)).run Tryz.prog w = .ok () w' ∧ PtrMap w' b (setQ q n k) l ∧ w.mapTurned w' b := by
  obtain ⟨w', hrun, ho, hm⟩ := World.ownsMap.store h Tryz.keyedS Tryz.underlying64 hl (keyOf_name hn) (ptrR_mk k)
  refine ⟨w', hrun, ?_, hm⟩
  have e := mapQ_over hr hg (World.ownsMap.canon ho Tryz.keyedS)
  rw [e] at ho
  unfold PtrMap
  have hs : Maps.size (mapQ (setQ q n k) l) ≤ l.length := by rw [mapQ_size]; exact Nat.le_refl _
  obtain ⟨es, clock, h1, h2, h3, h4⟩ := ho
  refine ⟨es, clock, h1, h2, ?_, h4⟩
  rw [h4] at hs
  simpa [Maps.size, length_sorted] using hs
theorem rise_same {l m : List Ob} (hl : RiseO l) (hm : RiseO m) (h : ∀ o, o ∈ l ↔ o ∈ m) : l = m := by
  have hp : l.Perm m := (List.perm_ext_iff_of_nodup (rise_nodup hl) (rise_nodup hm)).2 h
  exact hp.eq_of_pairwise (fun a b _ _ h1 h2 => absurd (lt_trans_l h1 h2) (lt_irr_l _)) hl hm

structure CopyIn (w : World) (N : Nat) {l : List Ob} (s : St) (pre : List (OneOf l)) (W : World) : Prop where
  block : SC W N (some (N + 1)) s.head s.day s.off (waitsB s) (leftI s)
  below : Below N w W
  has : ∃ m q, RiseO m ∧ (∀ o, o ∈ m ↔ ∃ p ∈ pre, p.1 = o) ∧ PtrMap W (N + 1) q m ∧ ObjsAt W q m ∧ (∀ o ∈ m, N ≤ q o.1) ∧ m.length ≤ pre.length
theorem CopyIn.keep {w W W' : World} {N : Nat} {l : List Ob} {s : St} {pre : List (OneOf l)} (h : CopyIn w N s pre W) (hb : ∀ k o, W.heap[k]? = some o → k < N + 2 ∨ o.isCells = true → W'.heap[k]? = some o) (hw : Below N W W') : CopyIn w N s pre W' := by
  obtain ⟨h1, h2, m, q, a1, a2, a3, a4, a5, a6⟩ := h
  refine ⟨hb _ _ h1 (Or.inr rfl), h2.trans hw, m, q, a1, a2, ?_, fun o ho => hb _ _ (a4 o ho) (Or.inr rfl), a5, a6⟩
  obtain ⟨es, clock, e⟩ := a3.block
  exact a3.keep ((hb _ _ e (Or.inl (by omega))).trans e.symm)

theorem copyO_step {w W : World} {N : Nat} {l : List Ob} {s : St} {pre : List (OneOf l)} (h : CopyIn w N s pre W) (hN : N ≤ w.heap.size) (hr : RiseO l) (x : OneOf l) (hlen : pre.length ≤ 1000) (hx : x.1.1.size ≤ maxLen) :
    ∃ w4, (Instr.mapUpdate 64 (.map (some (N + 1))) (.string x.1.1) (.pointer (some ⟨W.heap.size, 0, none⟩))).run Tryz.prog (W.alloc (.cells #[.string x.1.2.1, .int .i64 x.1.2.2] 101)).drew = .ok () w4 ∧ CopyIn w N s (pre ++ [x]) w4 ∧ But (fun k => k = N + 1) W w4 := by
  obtain ⟨h1, h2, m, q, a1, a2, a3, a4, a5, a6⟩ := h
  have hal : Below W.heap.size W (W.alloc (.cells #[.string x.1.2.1, .int .i64 x.1.2.2] 101)).drew := ((Below.refl _ _).alloc (Nat.le_refl _) _).drew
  have a3' : PtrMap (W.alloc (.cells #[.string x.1.2.1, .int .i64 x.1.2.2] 101)).drew (N + 1) q m := a3.keep (hal.block _ a3.lt)
  have hml := a3.lt
  have hbl := h1.lt
  have hoff := sc_off_map h1 a3
  have hNW : N ≤ W.heap.size := Nat.le_trans hN h2.size
  have fin : ∀ w4 m', PtrMap w4 (N + 1) (setQ q x.1.1 W.heap.size) m' → (W.alloc (.cells #[.string x.1.2.1, .int .i64 x.1.2.2] 101)).drew.mapTurned w4 (N + 1) → RiseO m' → (∀ o, o ∈ m' ↔ o ∈ m ∨ o = x.1) → m'.length ≤ m.length + 1 → CopyIn w N s (pre ++ [x]) w4 ∧ But (fun k => k = N + 1) W w4 := by
    intro w4 m' b1 b2 b3 b4 b5
    have hB4 := But.of_turned b2
    have hBW : But (fun k => k = N + 1) W w4 := (But.of_below hal).trans hB4 fun _ e _ => e
    refine ⟨⟨(hBW.block _ hbl (fun e => hoff e.symm)).trans h1, h2.trans (hBW.below hNW fun k e => by omega), m', setQ q x.1.1 W.heap.size, b3, fun o => ?_, b1, fun o ho => ?_, fun o ho => ?_, by simp; omega⟩, hBW⟩
    · rw [b4, a2]
      constructor
      · rintro (⟨p, hp, rfl⟩ | rfl)
        · exact ⟨p, by simp [hp], rfl⟩
        · exact ⟨x, by simp, rfl⟩
      · rintro ⟨p, hp, rfl⟩
        simp only [List.mem_append, List.mem_singleton] at hp
        rcases hp with hp | rfl
        · exact Or.inl ⟨p, hp, rfl⟩
        · exact Or.inr rfl
    · by_cases e : o.1 = x.1.1
      · have ox : o = x.1 := by
          rcases (b4 o).1 ho with hm | hm
          · obtain ⟨p, _, rfl⟩ := (a2 o).1 hm
            exact rise_name hr p.2 x.2 e
          · exact hm
        subst ox
        rw [setQ_same]
        exact (hB4.block W.heap.size (by simp [World.drew]) (fun e => by omega)).trans (heap_alloc_new W _)
      · rw [setQ_other _ _ e]
        rcases (b4 o).1 ho with hm | hm
        · exact (hBW.block _ (a4.lt hm) (map_off_obj a3 a4 hm)).trans (a4 o hm)
        · exact absurd (by rw [hm]) e
    · by_cases e : o.1 = x.1.1
      · rw [e, setQ_same]; exact hNW
      · rw [setQ_other _ _ e]
        rcases (b4 o).1 ho with hm | hm
        · exact a5 o hm
        · exact absurd (by rw [hm]) e
  cases hg : getO m x.1.1 with
  | none =>
    have hne := getO_none.1 hg
    obtain ⟨w4, hrun, hm4, ht⟩ := a3'.store a1 (by unfold maxLen; omega) hx hne x.1.2.1 x.1.2.2 W.heap.size
    refine ⟨w4, hrun, fin w4 _ hm4 ht (insO_rise (o := x.1) a1 hne) (fun o => ?_) (by rw [insO_len]; exact Nat.le_refl _)⟩
    rw [insO_mem]
    exact or_comm
  | some o =>
    obtain ⟨ho, hn⟩ := getO_some hg
    have ox : o = x.1 := by
      obtain ⟨p, _, rfl⟩ := (a2 o).1 ho
      exact rise_name hr p.2 x.2 hn
    obtain ⟨w4, hrun, hm4, ht⟩ := a3'.over a1 (by unfold maxLen; omega) hx (by rw [hg]; rfl) W.heap.size
    refine ⟨w4, hrun, fin w4 _ hm4 ht a1 (fun o' => ⟨Or.inl, fun h => ?_⟩) (Nat.le_succ _)⟩
    rcases h with h | h
    · exact h
    · rw [h, ← ox]; exact ho
theorem objB_small {l : List UInt8} (h : objB l = true) : l.length ≤ 16 := by
  unfold objB at h
  simp only [Bool.and_eq_true, decide_eq_true_eq] at h
  exact h.2

theorem copyO_own {w : World} {N B : Nat} {l : List Ob} {s : St} (hN : N + 3 ≤ B) (hNw : N ≤ w.heap.size) : OwnFrom B (fun pre W => CopyIn w N (l := l) s pre W) := by
  intro pre W W' row hs hg hr
  have hne : ∀ k o, W.heap[k]? = some o → k < N + 2 ∨ o.isCells = true → some k ≠ row := fun k o hk h e => by
    obtain ⟨h1, o', h2, h3⟩ := hr k e.symm
    rcases h with h | h
    · omega
    · rw [hk] at h2; cases h2; rw [h] at h3; cases h3
  refine hs.keep (fun k o hk h => (hg.block k (Array.getElem?_eq_some_iff.1 hk).1 (hne k o hk h)).trans hk) ?_
  exact (Below.refl N W).grown hg (Nat.le_trans hNw hs.below.size) (fun k e => by have := (hr k e).1; omega)
theorem copyO_keeps {w W w4 : World} {N B : Nat} {l : List Ob} {s : St} {pre : List (OneOf l)} (h : CopyIn w N s pre W) (hB : But (fun k => k = N + 1) W w4) (hN : N + 3 ≤ B) (hNw : N ≤ w.heap.size) : KeepsFrom B W w4 ∧ KpM N W w4 := by
  obtain ⟨h1, h2, m, q, a1, a2, a3, a4, a5, a6⟩ := h
  obtain ⟨es, clock, e⟩ := a3.block
  refine ⟨⟨hB.size, fun k o hk ho _ => (hB.block k (Array.getElem?_eq_some_iff.1 ho).1 (by omega)).trans ho⟩, hB.size, fun k hk => ?_, fun k p s e' c hk => (hB.block k (Array.getElem?_eq_some_iff.1 hk).1 (fun ek => ?_)).trans hk⟩
  · exact hB.block k (Nat.lt_of_lt_of_le hk (Nat.le_trans hNw h2.size)) (by omega)
  · subst ek
    rw [e] at hk
    cases hk
theorem copyO_done {w W : World} {s : St} {pre : List (OneOf s.obs)} (h : CopyIn w w.heap.size s pre W) (hp : (pre.map (·.1)).Perm s.obs) (hr : RiseO s.obs) (hc : s.cut ≤ 9223372036854775807) : ∃ q', SIn W w.heap.size (some (w.heap.size + 1)) q' s ∧ ∀ k, fpS w.heap.size (some (w.heap.size + 1)) q' s.obs k → w.heap.size ≤ k := by
  obtain ⟨h1, h2, m, q, a1, a2, a3, a4, a5, a6⟩ := h
  have hm : m = s.obs := rise_same a1 hr fun o => by
    rw [a2, ← hp.mem_iff, List.mem_map]
  subst hm
  refine ⟨q, ⟨h1, Or.inr ⟨_, rfl, a3⟩, a4, a1, hc⟩, fun k hk => ?_⟩
  rcases hk with rfl | hk | ⟨o, ho, rfl⟩
  · exact Nat.le_refl _
  · cases hk; omega
  · exact a5 o ho

set_option maxRecDepth 100000 in
set_option maxHeartbeats 2000000 in
theorem scopy_any {w : World} {b : Nat} {mo : Option Nat} {q : ByteArray → Nat} {s : St} (h : SIn w b mo q s) (hk : Keeps s) :
    Calls Tryz.prog 49 #[.pointer (some ⟨b, 0, none⟩)] w fun e w' => ∃ b' mb q', e = .returned (.pointer (some ⟨b', 0, none⟩)) ∧ SIn w' b' (some mb) q' s ∧ (∀ k, fpS b' (some mb) q' s.obs k → w.heap.size ≤ k) ∧ Below w.heap.size w w' := by
  obtain ⟨c0, c1, c2, c3, c4, c5, _⟩ := h.block.cells
  have hmm := @run_makeMap Tryz.prog
  obtain ⟨hd, hhd⟩ : ∃ hd, s.head = hd := ⟨_, rfl⟩
  obtain ⟨dd, hdd⟩ : ∃ dd, s.day = dd := ⟨_, rfl⟩
  obtain ⟨oo, hoo⟩ : ∃ oo, s.off = oo := ⟨_, rfl⟩
  obtain ⟨ww, hww⟩ : ∃ ww, waitsB s = ww := ⟨_, rfl⟩
  obtain ⟨ll, hll⟩ : ∃ ll, leftI s = ll := ⟨_, rfl⟩
  rw [hhd] at c1
  rw [hdd] at c2
  rw [hoo] at c3
  rw [hww] at c4
  rw [hll] at c5
  have HEQ : Hid (s.head = hd ∧ s.day = dd ∧ s.off = oo ∧ waitsB s = ww ∧ leftI s = ll) := ⟨hhd, hdd, hoo, hww, hll⟩
  clear hhd hdd hoo hww hll
  have hB1 : Below w.heap.size w ((w.alloc (.cells #[.map (some (w.heap.size + 1)), .string hd, .int .i64 dd, .bool oo, .bool ww, .int .i64 ll] 68)).alloc (.map #[] 0)) := ((Below.refl _ _).alloc (Nat.le_refl _) _).alloc (by simp) _
  have c0' := below_keep hB1 c0
  have HB : Hid _ := hB1
  clear hB1
  refine (callsIn_wide (n := 5)).1 ?_
  refine callsIn_of_wp_marks Tryz.func49 rfl trivial ?_ rfl
  simp only [Tryz.ntmps49, List.size_toArray, List.length_cons, List.length_nil, Nat.reduceAdd, Nat.reduceSub, Array.replicate_succ, Array.replicate_zero, List.push_toArray, List.append_toArray, List.nil_append, List.cons_append]
  gi_wp2_with (refine ⟨trivial, ?_⟩; gi_at_call 71; refine (all_any _ _ _).mono ?_; rintro e w' ⟨rfl, rfl⟩)
  obtain ⟨g1, g2, g3, g4, g5⟩ := HEQ.out
  have hbx := Boxed.new ((w.alloc (.cells #[.map (some (w.heap.size + 1)), .string hd, .int .i64 dd, .bool oo, .bool ww, .int .i64 ll] 68)).alloc (.map #[] 0)) 64 (.map mo)
  have hal : Below ((w.alloc (.cells #[.map (some (w.heap.size + 1)), .string hd, .int .i64 dd, .bool oo, .bool ww, .int .i64 ll] 68)).alloc (.map #[] 0)).heap.size ((w.alloc (.cells #[.map (some (w.heap.size + 1)), .string hd, .int .i64 dd, .bool oo, .bool ww, .int .i64 ll] 68)).alloc (.map #[] 0)) (((w.alloc (.cells #[.map (some (w.heap.size + 1)), .string hd, .int .i64 dd, .bool oo, .bool ww, .int .i64 ll] 68)).alloc (.map #[] 0)).alloc (.cells #[.map mo] 64)) := (Below.refl _ _).alloc (Nat.le_refl _) _
  have hB0 := HB.out.trans (hal.mono (by simp; omega))
  have hsz : (((w.alloc (.cells #[.map (some (w.heap.size + 1)), .string hd, .int .i64 dd, .bool oo, .bool ww, .int .i64 ll] 68)).alloc (.map #[] 0)).alloc (.cells #[.map mo] 64)).heap.size = w.heap.size + 3 := by simp
  have hsc : SC (((w.alloc (.cells #[.map (some (w.heap.size + 1)), .string hd, .int .i64 dd, .bool oo, .bool ww, .int .i64 ll] 68)).alloc (.map #[] 0)).alloc (.cells #[.map mo] 64)) w.heap.size (some (w.heap.size + 1)) s.head s.day s.off (waitsB s) (leftI s) := by
    rw [g1, g2, g3, g4, g5]
    exact (Below.heap_alloc _ _ _ (by simp; omega)).trans ((Below.heap_alloc _ _ _ (by simp)).trans (heap_alloc_new w _))
  have hpm : PtrMap (((w.alloc (.cells #[.map (some (w.heap.size + 1)), .string hd, .int .i64 dd, .bool oo, .bool ww, .int .i64 ll] 68)).alloc (.map #[] 0)).alloc (.cells #[.map mo] 64)) (w.heap.size + 1) (fun _ => 0) [] := by
    have := PtrMap.made (w.alloc (.cells #[.map (some (w.heap.size + 1)), .string hd, .int .i64 dd, .bool oo, .bool ww, .int .i64 ll] 68)) (fun _ => 0)
    rw [World.size_alloc] at this
    exact this.keep (Below.heap_alloc _ _ _ (by simp))
  simp only [World.size_alloc] at hbx
  have h2 := h.below hB0
  generalize ((w.alloc (.cells #[.map (some (w.heap.size + 1)), .string hd, .int .i64 dd, .bool oo, .bool ww, .int .i64 ll] 68)).alloc (.map #[] 0)).alloc (.cells #[.map mo] 64) = W0 at hbx hB0 hsz hsc hpm h2 ⊢
  clear hal HB HEQ g1 g2 g3 g4 g5 c0 c0' hmm
  have hmo : ∀ mb, mo = some mb → mb < w.heap.size := fun mb e => h.lt (Or.inr (Or.inl e))
  refine wpIn_rangeFunc_ownG (F := Fence.wide) rfl (by decide) (gf := 96) (lb := #[.pointer (some ⟨w.heap.size + 1 + 1, 0, none⟩)]) rfl trivial (enters_of Tryz.func96 (by kernel_rfl) rfl)
    (all_seq _ (by decide) w.heap.size (w.heap.size + 1 + 1) mo hmo q s.obs h.rise _ hbx.cell h2.map) (fun h k => h.trans k) (fun W l o o' hl ho _ hw => KpM.put W l o o' (by omega) ho hw) (Below.refl _ _) (fun _ => rfl)
    (fun pre W => CopyIn w w.heap.size s pre W) (fun _ _ _ => False) (copyO_own (by omega) (Nat.le_refl _)) (fun _ _ _ _ _ hs _ _ => hs.elim) ?start ?a1 ?assign ?body ?done ?stop
  case assign =>
    intro l x W K hK
    gi_wp2
    exact hK
  case start => exact ⟨hsc, hB0, [], fun _ => 0, List.Pairwise.nil, fun o => by simp, hpm, fun _ h => (nomatch h), fun _ h => (nomatch h), Nat.le_refl _⟩
  case stop =>
    rintro D' c pre W _ _ hf _
    exact hf.elim
  case body =>
    rintro l pre x W hI hlen
    have hnm := objB_small (hk.names _ x.2)
    obtain ⟨w4, hrun, hI4, hBut⟩ := copyO_step hI (Nat.le_refl _) h.rise x (by have := hk.many; omega) (by rw [← size_list]; unfold maxLen; omega)
    obtain ⟨hkf, hkm⟩ := copyO_keeps hI hBut (B := W0.heap.size) (by omega) (Nat.le_refl _)
    have k0 := hI.block.cells.1
    have k1 := below_keep hI.below (h.objs.cells x.2).1
    have k2 := below_keep hI.below (h.objs.cells x.2).2
    have hal : Below W.heap.size W (W.alloc (.cells #[.string x.1.2.1, .int .i64 x.1.2.2] 101)).drew := ((Below.refl _ _).alloc (Nat.le_refl _) _).drew
    have k0' := below_keep hal k0
    have k1' := below_keep hal k1
    have k2' := below_keep hal k2
    have HF : Hid (KeepsFrom W0.heap.size W w4 ∧ KpM w.heap.size W w4 ∧ CopyIn w w.heap.size s (pre ++ [x]) w4) := ⟨hkf, hkm, hI4⟩
    clear hkf hkm hI4 hBut hI hlen hnm hal h2 hsc hpm hB0 hbx h hk hmo
    generalize x.1.1 = nx at hrun k1 k2 k1' k2' ⊢
    generalize x.1.2.1 = tx at hrun k1 k1' k0' k2'
    generalize x.1.2.2 = dx at hrun k2 k2' k0' k1'
    generalize q nx = kx at k1 k2 k1' k2' ⊢
    gi_wp2
    refine wpIn_region_any (by kernel_rfl) ?_
    refine any_round l (by kernel_rfl) _ _ _ _ ?_
    change wpAnyIn _ _ _ _ _ _ _ _ _ (World.drew _)
    refine wpAnyIn_take (i := 0) (v := ?_) rfl rfl (by kernel_rfl) (by kernel_rfl) (by kernel_rfl) (fun _ _ _ h => h) ⟨Or.inl ⟨by rfl, ?_⟩, fun _ => rfl⟩ ?_
    rotate_left
    focus ((intro w; go_simp) <;> with_reducible rfl)
    refine wpAnyIn_take (i := 2) (v := ?_) rfl rfl (by kernel_rfl) (by kernel_rfl) (by kernel_rfl) (fun _ _ _ h => h) ⟨Or.inl ⟨by rfl, ?_⟩, fun _ => rfl⟩ ?_
    rotate_left
    focus ((intro w; go_simp) <;> with_reducible rfl)
    refine wpAnyIn_take (i := 3) (v := ?_) rfl rfl (by kernel_rfl) (by kernel_rfl) (by kernel_rfl) (fun _ _ _ h => h) ⟨Or.inl ⟨by rfl, ?_⟩, fun _ => rfl⟩ ?_
    rotate_left
    focus ((intro w; go_simp) <;> with_reducible rfl)
    refine wpAnyIn_take (i := 4) (v := ?_) rfl rfl (by kernel_rfl) (by kernel_rfl) (by kernel_rfl) (fun _ _ _ h => h) ⟨Or.inl ⟨by rfl, ?_⟩, fun _ => rfl⟩ ?_
    rotate_left
    focus ((intro w; go_simp) <;> with_reducible rfl)
    refine wpAnyIn_take (i := 5) (v := ?_) rfl rfl (by kernel_rfl) (by kernel_rfl) (by kernel_rfl) (fun _ _ _ h => h) ⟨Or.inl ⟨by rfl, ?_⟩, fun _ => rfl⟩ ?_
    rotate_left
    focus ((intro w; go_simp) <;> with_reducible rfl)
    refine wpAnyIn_take (i := 7) (v := ?_) rfl rfl (by kernel_rfl) (by kernel_rfl) (by kernel_rfl) (fun _ _ _ h => h) ⟨Or.inl ⟨by rfl, ?_⟩, fun _ => rfl⟩ ?_
    rotate_left
    focus ((intro w; go_simp) <;> with_reducible rfl)
    refine wpAnyIn_take (i := 8) (v := ?_) rfl rfl (by kernel_rfl) (by kernel_rfl) (by kernel_rfl) (fun _ _ _ h => h) ⟨Or.inl ⟨by rfl, ?_⟩, fun _ => rfl⟩ ?_
    rotate_left
    focus ((intro w; go_simp) <;> with_reducible rfl)
    refine wpAnyIn_take (i := 9) (v := ?_) rfl rfl (by kernel_rfl) (by kernel_rfl) (by kernel_rfl) (fun _ _ _ h => h) ⟨Or.inl ⟨by rfl, ?_⟩, fun _ => rfl⟩ ?_
    rotate_left
    focus ((intro w; go_simp) <;> with_reducible rfl)
    refine wpAnyIn_ready (rs := [1, 6, 10]) (by kernel_rfl) (by simp) ?_
    refine AllReadyIn.cons rfl (fun K hK => ?_) ?_
    · go_simp
      refine hK _ _ ?_
      clear hK K
      refine wpAnyIn_ready (rs := [6, 10]) (by kernel_rfl) (by simp) ?_
      refine AllReadyIn.cons rfl (fun K hK => ?_) ?_
      · go_simp
        refine hK _ _ ?_
        clear hK K
        refine wpAnyIn_ready (rs := [10]) (by kernel_rfl) (by simp) ?_
        refine AllReadyIn.cons rfl (fun K hK => ?_) ?_
        · go_simp
          refine hK _ _ ?_
          clear hK K
          refine wpAnyIn_take (i := 11) (v := ?_) rfl rfl (by kernel_rfl) (by kernel_rfl) (by kernel_rfl) (fun _ _ _ h => h) ⟨Or.inl ⟨by rfl, ?_⟩, fun _ => rfl⟩ ?_
          rotate_left
          focus ((intro w; go_simp) <;> with_reducible rfl)
          refine wpAnyIn_ready (rs := [12]) (by kernel_rfl) (by simp) ?_
          refine AllReadyIn.cons rfl (fun K hK => ?_) ?_
          · go_simp
            refine hK _ _ ?_
            clear hK K
            refine wpAnyIn_ready (rs := [13]) (by kernel_rfl) (by simp) ?_
            refine AllReadyIn.cons rfl (fun K hK => ?_) ?_
            · go_simp
              refine hK _ _ ?_
              clear hK K
              refine wpAnyIn_done (by kernel_rfl) ?_ _
              exact HF.out
            exact AllReadyIn.nil
          exact AllReadyIn.nil
        exact AllReadyIn.nil
      refine AllReadyIn.cons rfl (fun K hK => ?_) ?_
      · go_simp
        refine hK _ _ ?_
        clear hK K
        refine wpAnyIn_ready (rs := [6]) (by kernel_rfl) (by simp) ?_
        refine AllReadyIn.cons rfl (fun K hK => ?_) ?_
        · go_simp
          refine hK _ _ ?_
          clear hK K
          refine wpAnyIn_take (i := 11) (v := ?_) rfl rfl (by kernel_rfl) (by kernel_rfl) (by kernel_rfl) (fun _ _ _ h => h) ⟨Or.inl ⟨by rfl, ?_⟩, fun _ => rfl⟩ ?_
          rotate_left
          focus ((intro w; go_simp) <;> with_reducible rfl)
          refine wpAnyIn_ready (rs := [12]) (by kernel_rfl) (by simp) ?_
          refine AllReadyIn.cons rfl (fun K hK => ?_) ?_
          · go_simp
            refine hK _ _ ?_
            clear hK K
            refine wpAnyIn_ready (rs := [13]) (by kernel_rfl) (by simp) ?_
            refine AllReadyIn.cons rfl (fun K hK => ?_) ?_
            · go_simp
              refine hK _ _ ?_
              clear hK K
              refine wpAnyIn_done (by kernel_rfl) ?_ _
              exact HF.out
            exact AllReadyIn.nil
          exact AllReadyIn.nil
        exact AllReadyIn.nil
      exact AllReadyIn.nil
    refine AllReadyIn.cons rfl (fun K hK => ?_) ?_
    · go_simp
      refine hK _ _ ?_
      clear hK K
      refine wpAnyIn_ready (rs := [1, 10]) (by kernel_rfl) (by simp) ?_
      refine AllReadyIn.cons rfl (fun K hK => ?_) ?_
      · go_simp
        refine hK _ _ ?_
        clear hK K
        refine wpAnyIn_ready (rs := [10]) (by kernel_rfl) (by simp) ?_
        refine AllReadyIn.cons rfl (fun K hK => ?_) ?_
        · go_simp
          refine hK _ _ ?_
          clear hK K
          refine wpAnyIn_take (i := 11) (v := ?_) rfl rfl (by kernel_rfl) (by kernel_rfl) (by kernel_rfl) (fun _ _ _ h => h) ⟨Or.inl ⟨by rfl, ?_⟩, fun _ => rfl⟩ ?_
          rotate_left
          focus ((intro w; go_simp) <;> with_reducible rfl)
          refine wpAnyIn_ready (rs := [12]) (by kernel_rfl) (by simp) ?_
          refine AllReadyIn.cons rfl (fun K hK => ?_) ?_
          · go_simp
            refine hK _ _ ?_
            clear hK K
            refine wpAnyIn_ready (rs := [13]) (by kernel_rfl) (by simp) ?_
            refine AllReadyIn.cons rfl (fun K hK => ?_) ?_
            · go_simp
              refine hK _ _ ?_
              clear hK K
              refine wpAnyIn_done (by kernel_rfl) ?_ _
              exact HF.out
            exact AllReadyIn.nil
          exact AllReadyIn.nil
        exact AllReadyIn.nil
      refine AllReadyIn.cons rfl (fun K hK => ?_) ?_
      · go_simp
        refine hK _ _ ?_
        clear hK K
        refine wpAnyIn_take (i := 11) (v := ?_) rfl rfl (by kernel_rfl) (by kernel_rfl) (by kernel_rfl) (fun _ _ _ h => h) ⟨Or.inl ⟨by rfl, ?_⟩, fun _ => rfl⟩ ?_
        rotate_left
        focus ((intro w; go_simp) <;> with_reducible rfl)
        refine wpAnyIn_ready (rs := [1, 12]) (by kernel_rfl) (by simp) ?_
        refine AllReadyIn.cons rfl (fun K hK => ?_) ?_
        · go_simp
          refine hK _ _ ?_
          clear hK K
          refine wpAnyIn_ready (rs := [12]) (by kernel_rfl) (by simp) ?_
          refine AllReadyIn.cons rfl (fun K hK => ?_) ?_
          · go_simp
            refine hK _ _ ?_
            clear hK K
            refine wpAnyIn_ready (rs := [13]) (by kernel_rfl) (by simp) ?_
            refine AllReadyIn.cons rfl (fun K hK => ?_) ?_
            · go_simp
              refine hK _ _ ?_
              clear hK K
              refine wpAnyIn_done (by kernel_rfl) ?_ _
              exact HF.out
            exact AllReadyIn.nil
          exact AllReadyIn.nil
        refine AllReadyIn.cons rfl (fun K hK => ?_) ?_
        · go_simp
          refine hK _ _ ?_
          clear hK K
          refine wpAnyIn_ready (rs := [1]) (by kernel_rfl) (by simp) ?_
          refine AllReadyIn.cons rfl (fun K hK => ?_) ?_
          · go_simp
            refine hK _ _ ?_
            clear hK K
            refine wpAnyIn_ready (rs := [13]) (by kernel_rfl) (by simp) ?_
            refine AllReadyIn.cons rfl (fun K hK => ?_) ?_
            · go_simp
              refine hK _ _ ?_
              clear hK K
              refine wpAnyIn_done (by kernel_rfl) ?_ _
              exact HF.out
            exact AllReadyIn.nil
          exact AllReadyIn.nil
        exact AllReadyIn.nil
      exact AllReadyIn.nil
    refine AllReadyIn.cons rfl (fun K hK => ?_) ?_
    · go_simp
      refine hK _ _ ?_
      clear hK K
      refine wpAnyIn_ready (rs := [1, 6]) (by kernel_rfl) (by simp) ?_
      refine AllReadyIn.cons rfl (fun K hK => ?_) ?_
      · go_simp
        refine hK _ _ ?_
        clear hK K
        refine wpAnyIn_ready (rs := [6]) (by kernel_rfl) (by simp) ?_
        refine AllReadyIn.cons rfl (fun K hK => ?_) ?_
        · go_simp
          refine hK _ _ ?_
          clear hK K
          refine wpAnyIn_take (i := 11) (v := ?_) rfl rfl (by kernel_rfl) (by kernel_rfl) (by kernel_rfl) (fun _ _ _ h => h) ⟨Or.inl ⟨by rfl, ?_⟩, fun _ => rfl⟩ ?_
          rotate_left
          focus ((intro w; go_simp) <;> with_reducible rfl)
          refine wpAnyIn_ready (rs := [12]) (by kernel_rfl) (by simp) ?_
          refine AllReadyIn.cons rfl (fun K hK => ?_) ?_
          · go_simp
            refine hK _ _ ?_
            clear hK K
            refine wpAnyIn_ready (rs := [13]) (by kernel_rfl) (by simp) ?_
            refine AllReadyIn.cons rfl (fun K hK => ?_) ?_
            · go_simp
              refine hK _ _ ?_
              clear hK K
              refine wpAnyIn_done (by kernel_rfl) ?_ _
              exact HF.out
            exact AllReadyIn.nil
          exact AllReadyIn.nil
        exact AllReadyIn.nil
      refine AllReadyIn.cons rfl (fun K hK => ?_) ?_
      · go_simp
        refine hK _ _ ?_
        clear hK K
        refine wpAnyIn_take (i := 11) (v := ?_) rfl rfl (by kernel_rfl) (by kernel_rfl) (by kernel_rfl) (fun _ _ _ h => h) ⟨Or.inl ⟨by rfl, ?_⟩, fun _ => rfl⟩ ?_
        rotate_left
        focus ((intro w; go_simp) <;> with_reducible rfl)
        refine wpAnyIn_ready (rs := [1, 12]) (by kernel_rfl) (by simp) ?_
        refine AllReadyIn.cons rfl (fun K hK => ?_) ?_
        · go_simp
          refine hK _ _ ?_
          clear hK K
          refine wpAnyIn_ready (rs := [12]) (by kernel_rfl) (by simp) ?_
          refine AllReadyIn.cons rfl (fun K hK => ?_) ?_
          · go_simp
            refine hK _ _ ?_
            clear hK K
            refine wpAnyIn_ready (rs := [13]) (by kernel_rfl) (by simp) ?_
            refine AllReadyIn.cons rfl (fun K hK => ?_) ?_
            · go_simp
              refine hK _ _ ?_
              clear hK K
              refine wpAnyIn_done (by kernel_rfl) ?_ _
              exact HF.out
            exact AllReadyIn.nil
          exact AllReadyIn.nil
        refine AllReadyIn.cons rfl (fun K hK => ?_) ?_
        · go_simp
          refine hK _ _ ?_
          clear hK K
          refine wpAnyIn_ready (rs := [1]) (by kernel_rfl) (by simp) ?_
          refine AllReadyIn.cons rfl (fun K hK => ?_) ?_
          · go_simp
            refine hK _ _ ?_
            clear hK K
            refine wpAnyIn_ready (rs := [13]) (by kernel_rfl) (by simp) ?_
            refine AllReadyIn.cons rfl (fun K hK => ?_) ?_
            · go_simp
              refine hK _ _ ?_
              clear hK K
              refine wpAnyIn_done (by kernel_rfl) ?_ _
              exact HF.out
            exact AllReadyIn.nil
          exact AllReadyIn.nil
        exact AllReadyIn.nil
      exact AllReadyIn.nil
    exact AllReadyIn.nil
  case done =>
    rintro D' xs W hD hS hI hK
    have hI2 : CopyIn w w.heap.size s xs (W.putObj D' (.deferred none)) := copyO_own (B := W0.heap.size) (by omega) (Nat.le_refl _) xs W _ (some D') hI (grownBy_putObj' W D' _) (fun r e => by cases e; exact ⟨hD, _, hK, rfl⟩)
    obtain ⟨q', hq1, hq2⟩ := copyO_done hI2 hS h.rise h.cut
    gi_wp2
    refine ⟨by simp, .inl ⟨_, _, rfl, run_takeDeferred hK, ?_⟩⟩
    exact ⟨_, results_tmp rfl _ _ _, w.heap.size, w.heap.size + 1, q', rfl, hq1, hq2, hI2.below⟩
end Go.Proofs.YtbdhdlloihkibaaGreatDoor
