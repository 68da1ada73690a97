/-
  The contracts of maps.All and maps.Values, and of their iterators, at a map of pointers to objects.
-/
import Derived.Test.YtmcfklkpdhgjdaaDoorStoMem
import Derived.RangeFuncNested
import Derived.RangeFuncBound
import Derived.RangeFuncCalls
import Derived.RangeFuncLeaves
import Derived.Sort.MapsRangeIn
import Derived.Sort.KeysCollected
import Derived.Shelf.Abstract
import Derived.Shelf.RegionOpen
import Derived.WalkKit
import Derived.OwnWalkIn
import Derived.TacticsInMore
import Derived.RegionIn
import Derived.LoopNIn
import Derived.LoopIn
namespace Go.Proofs.YtmcfklkpdhgjdaaDoor
open Go.RowKit Go.Maps Go.Sort Go.Shelf

/-- One of a store's objects. -/
abbrev OneOf (l : List Ob) := { o : Ob // o ∈ l }

/-- Which objects have come, and which are left. -/
structure Came (l : List Ob) (left : Lit → Bool) (ps : List (OneOf l)) : Prop where
  once : ps.Nodup
  left : ∀ o : OneOf l, left (keyL o.1.1) = true ↔ o ∉ ps

theorem rise_name {l : List Ob} (hr : RiseO l) {o p : Ob} (ho : o ∈ l) (hp : p ∈ l) (h : o.1 = p.1) : o = p := by
  have h1 := getO_mem hr ho
  rw [h, getO_mem hr hp] at h1
  exact (Option.some.inj h1).symm
theorem rise_nodup {l : List Ob} (hr : RiseO l) : l.Nodup := hr.imp fun h e => by subst e; exact lt_irr_l _ h

theorem Came.start {l : List Ob} (q : ByteArray → Nat) (hr : RiseO l) : Came l (Maps.has (mapQ q l)) [] :=
  ⟨List.nodup_nil, fun o => by rw [mapQ_has, getO_mem hr o.2]; simp⟩
theorem Came.step {l : List Ob} {left : Lit → Bool} {ps : List (OneOf l)} (h : Came l left ps) (hr : RiseO l) (o : OneOf l) (hl : left (keyL o.1.1) = true) : Came l (fun z => left z && !z.sameKey (keyL o.1.1)) (ps ++ [o]) := by
  have hn := (h.left o).1 hl
  refine ⟨?_, fun p => ?_⟩
  · rw [List.nodup_append]
    refine ⟨h.once, by simp, fun a ha b hb => ?_⟩
    simp only [List.mem_singleton] at hb
    subst hb
    exact fun e => hn (e ▸ ha)
  · rw [keyL_same]
    by_cases e : p = o
    · subst e; simp
    · have : p.1.1 ≠ o.1.1 := fun e' => e (Subtype.ext (rise_name hr p.2 o.2 e'))
      simp [this, h.left p, e]
theorem Came.done {l : List Ob} {left : Lit → Bool} {ps : List (OneOf l)} (h : Came l left ps) (hr : RiseO l) (hl : ∀ z, left z = false) : (ps.map (·.1)).Perm l := by
  rw [List.perm_ext_iff_of_nodup]
  · intro o
    constructor
    · intro ho
      obtain ⟨p, _, rfl⟩ := List.mem_map.1 ho
      exact p.2
    · intro ho
      refine List.mem_map.2 ⟨⟨o, ho⟩, ?_, rfl⟩
      have := h.left ⟨o, ho⟩
      rw [hl] at this
      simpa using this
  · show List.Pairwise _ _
    rw [List.pairwise_map]
    exact h.once.imp fun h e => h (Subtype.ext e)
  · exact rise_nodup hr

/-- What has come of the map is one of its objects. -/
theorem came_one {l : List Ob} {q : ByteArray → Nat} {x : List UInt8} {c : Option Addr} {y : DataW Unit × List MemPlace} (hv : ptrR (.pointer c) = some y) (hat : ∀ zd, (mapQ q l).atKey (.string x) zd = y.1) :
    ∃ o : OneOf l, x = o.1.1.data.toList ∧ encStr x = .string o.1.1 ∧ c = some ⟨q o.1.1, 0, none⟩ := by
  have hx : Lit.string x = keyL (bytesOf x) := by simp [keyL, bytesOf]
  rw [hx] at hat
  have h1 := hat (ptrD (-7))
  have h2 := hat (ptrD (-8))
  rw [mapQ_at] at h1 h2
  cases hg : getO l (bytesOf x) with
  | none =>
    rw [hg] at h1 h2
    simp at h1 h2
    have := ptrD_inj (h1.trans h2.symm)
    omega
  | some o =>
    obtain ⟨ho, hn⟩ := getO_some hg
    rw [hg] at h1
    simp at h1
    refine ⟨⟨o, ho⟩, ?_, ?_, ?_⟩
    · simp [hn, bytesOf]
    · simp [hn, bytesOf, encStr]
    · rcases ptrR_inv hv with ⟨k, e, hz⟩ | ⟨e, hz⟩
      · rw [hz] at h1
        have := ptrD_inj h1
        have hk : q (bytesOf x) = k := by omega
        simp only [Value.pointer.injEq] at e
        rw [e]
        simp [hn, hk]
      · rw [hz] at h1
        have := ptrD_inj h1
        omega

/-- What a round keeps: whatever is older than a place, and walks over maps. -/
structure KpM (n₀ : Nat) (W W' : World) : Prop where
  size : W.heap.size ≤ W'.heap.size
  old : ∀ k : Nat, k < n₀ → W'.heap[k]? = W.heap[k]?
  iter : ∀ (k : Nat) p s e c, W.heap[k]? = some (Obj.mapIter p s e c) → W'.heap[k]? = some (Obj.mapIter p s e c)
theorem KpM.trans {n₀ : Nat} {X Y Z : World} (h : KpM n₀ X Y) (k : KpM n₀ Y Z) : KpM n₀ X Z := ⟨Nat.le_trans h.size k.size, fun i hi => (k.old i hi).trans (h.old i hi), fun i p s e c hi => k.iter i p s e c (h.iter i p s e c hi)⟩
theorem KpM.put {n₀ : Nat} (W : World) (l : Nat) (o o' : Obj) (hl : n₀ ≤ l) (h : W.heap[l]? = some o) (hw : o.isWalk = false) : KpM n₀ W (W.putObj l o') :=
  ⟨by simp, fun k hk => World.putObj_heap_other (by omega), fun k p s e c hk => (World.putObj_heap_other (fun e' => by subst e'; rw [h] at hk; cases hk; cases hw)).trans hk⟩
theorem ranges_of_kpM {k : TypeId} {R : Value → Option (DataW Unit × List MemPlace)} {w w' : World} {b r n n₀ : Nat} {D : DataW Unit} {left : Lit → Bool} {cnt : Nat}
    (h : w.ranges Tryd.prog k R b r n D left cnt) (hk : KpM n₀ w w') (hb : b < n₀) : w'.ranges Tryd.prog k R b r n D left cnt := by
  obtain ⟨es, clock, since, seen, c0, hb', F, hs, hD, hr, rest⟩ := h
  exact ⟨es, clock, since, seen, c0, (hk.old b hb).trans hb', F, hs, hD, hk.iter r _ _ _ _ hr, rest⟩

abbrev encAll {l : List Ob} (q : ByteArray → Nat) (o : OneOf l) : Array Value := #[.string o.1.1, .pointer (some ⟨q o.1.1, 0, none⟩)]
abbrev encV {l : List Ob} (q : ByteArray → Nat) (o : OneOf l) : Array Value := #[.pointer (some ⟨q o.1.1, 0, none⟩)]

set_option maxRecDepth 100000 in
set_option maxHeartbeats 1000000 in
theorem all1_any (n : Nat) (hn : 1 ≤ n) (n₀ r Bm b : Nat) (hb₀ : b < n₀) (q : ByteArray → Nat) (l : List Ob) (hr : RiseO l) (J Jx : List (OneOf l) → World → Prop)
    (hY : ∀ pre x W, J pre W → pre.length < l.length → YieldAt Fence.wide (n - 1) Tryd.prog r (encAll q x) W fun e W' =>
      (e = .returned (.bool true) ∧ J (pre ++ [x]) W' ∧ KpM n₀ W W') ∨ (e = .returned (.bool false) ∧ Jx (pre ++ [x]) W'))
    (W : World) (hJ : AbidesFrom W.heap.size J) (hm : W.cell? ⟨Bm, 0, none⟩ = some (.map (some b))) (hown : PtrMap W b q l) (h0 : J [] W) :
    CallsIn Fence.wide n Tryd.prog 31 #[.func (.yield r) #[] #[], .pointer (some ⟨Bm, 0, none⟩)] W fun e W' => (∃ v, e = .returned v) ∧
      ((∃ ps, (ps.map (·.1)).Perm l ∧ J ps W') ∨ (∃ pre, True ∧ Jx pre W')) := by
  have hro : Fence.wide.round = none := rfl
  have hN := mapQ_size q l
  refine callsIn_of_wp Tryd.func31 rfl trivial ?_ hro
  simp only [Tryd.ntmps31, List.size_toArray, List.length_cons, List.length_nil, Nat.reduceAdd, Nat.reduceSub, Array.replicate_succ, Array.replicate_zero, List.push_toArray, List.append_toArray, List.nil_append, List.cons_append]
  gi_wp2_with (first
    | (gi_at_range; refine wpListIn_range_own _ rfl _ 47 rfl 9 55 Tryd.keyedS Tryd.underlying47 ptrR b l.length _ rfl hown ?_; intro w0 hrg0 hg0 hs0)
    | gi_in)
  go_frame
  gi_loopw [3, 4] (fun _ _ wr => ∃ (left : Lit → Bool) (cnt : Nat) (ps : List (OneOf l)), wr.ranges Tryd.prog 9 ptrR b W.heap.size l.length (mapQ q l) left cnt ∧ ps.length + cnt ≤ l.length ∧ Came l left ps ∧ J ps wr)
    (fun _ _ wr => wr.rangeLeft b W.heap.size)
  case atStart =>
    exact ⟨_, _, [], hrg0, by simp [hN], Came.start q hr, hJ [] W w0 none h0 hg0 (fun r e => by cases e)⟩
  case round =>
    obtain ⟨left, cnt, ps, hrg, hcs, hC, hJs⟩ := hrel
    gi_wp2_with (first
      | (gi_at_next; refine wpListIn_next_ranges _ rfl _ rfl 9 Tryd.keyedS ptrR encStr (fun c : Option Addr => Value.pointer c) (fun key kl hk => by obtain ⟨x, hx, _⟩ := Maps.keyOf_str Tryd.underlying9 hk; exact ⟨x, hx⟩) (fun v y hv => by rcases ptrR_inv hv with ⟨k, rfl, _⟩ | ⟨rfl, _⟩ <;> exact ⟨_, rfl⟩) b W.heap.size l.length _ _ _ rfl hrg ?_ ?_)
      | gi_in)
    · intro hc0 hl0
      gi_wp2
      go_end0
      exact ⟨⟨_, rfl⟩, .inl ⟨ps, hC.done hr hl0, hJs⟩⟩
    · intro x c kl yd yp w2 cnt2 hkey hlk hv hat hrg2 hlt hg2 hs2 hen
      obtain ⟨x', ex, rfl, _⟩ := Maps.keyOf_str Tryd.underlying9 hkey
      obtain rfl : x = x' := encStr_inj ex
      obtain ⟨o, ex2, exs, rfl⟩ := came_one hv hat
      rw [exs] at hen
      rw [exs]
      have ekl : Lit.string x = keyL o.1.1 := by rw [ex2]; rfl
      rw [ekl] at hlk hrg2
      have hJ2 : J ps w2 := hJ ps wr w2 (some W.heap.size) hJs hg2 (fun r e => by cases e; exact ⟨Nat.le_refl _, hrg.iter_walk⟩)
      obtain ⟨fn, tmps, assign, body, hy, hR⟩ := hY ps o w2 hJ2 (by omega)
      dsimp only [encAll] at hy
      have hC2 := hC.step hr o hlk
      clear hs2 ex ex2 exs ekl hkey hv hat
      obtain ⟨⟨on, ot, od⟩, ho⟩ := o
      dsimp only at hen hy hrg2 hC2 hR hlk ⊢
      gi_wp2
      refine hR.mono ?_
      rintro e W3 (⟨rfl, hJ3, hk3⟩ | ⟨rfl, hJx3⟩)
      · gi_wp2
        have hrg3 := ranges_of_kpM hrg2 hk3 hb₀
        go_roundw
        case rel => exact ⟨_, cnt2, _, hrg3, by simp; omega, hC2, hJ3⟩
        case measure => rw [hrg3.left_eq, hrg.left_eq]; exact hlt
      · gi_wp2
        refine bodyPost_ret (results_none rfl _ _ _) rfl ?_
        exact ⟨⟨_, rfl⟩, .inr ⟨_, trivial, hJx3⟩⟩
set_option maxRecDepth 100000 in
set_option maxHeartbeats 1000000 in
theorem values1_any (n : Nat) (hn : 1 ≤ n) (r Bm b : Nat) (q : ByteArray → Nat) (l : List Ob) (hr : RiseO l) (J Jx : List (OneOf l) → World → Prop)
    (hY : ∀ pre x W, J pre W → pre.length < l.length → YieldAt Fence.wide (n - 1) Tryd.prog r (encV q x) W fun e W' =>
      (e = .returned (.bool true) ∧ J (pre ++ [x]) W' ∧ KeepsWalks W W') ∨ (e = .returned (.bool false) ∧ Jx (pre ++ [x]) W'))
    (W : World) (hJ : AbidesFrom W.heap.size J) (hm : W.cell? ⟨Bm, 0, none⟩ = some (.map (some b))) (hown : PtrMap W b q l) (h0 : J [] W) :
    CallsIn Fence.wide n Tryd.prog 53 #[.func (.yield r) #[] #[], .pointer (some ⟨Bm, 0, none⟩)] W fun e W' => (∃ v, e = .returned v) ∧
      ((∃ ps, (ps.map (·.1)).Perm l ∧ J ps W') ∨ (∃ pre, True ∧ Jx pre W')) := by
  have hro : Fence.wide.round = none := rfl
  have hN := mapQ_size q l
  refine callsIn_of_wp Tryd.func53 rfl trivial ?_ hro
  simp only [Tryd.ntmps53, List.size_toArray, List.length_cons, List.length_nil, Nat.reduceAdd, Nat.reduceSub, Array.replicate_succ, Array.replicate_zero, List.push_toArray, List.append_toArray, List.nil_append, List.cons_append]
  gi_wp2_with (first
    | (gi_at_range; refine wpListIn_range_own _ rfl _ 47 rfl 9 55 Tryd.keyedS Tryd.underlying47 ptrR b l.length _ rfl hown ?_; intro w0 hrg0 hg0 hs0)
    | gi_in)
  go_frame
  gi_loopw [4] (fun _ wr => ∃ (left : Lit → Bool) (cnt : Nat) (ps : List (OneOf l)), wr.ranges Tryd.prog 9 ptrR b W.heap.size l.length (mapQ q l) left cnt ∧ ps.length + cnt ≤ l.length ∧ Came l left ps ∧ J ps wr)
    (fun _ wr => wr.rangeLeft b W.heap.size)
  case atStart =>
    exact ⟨_, _, [], hrg0, by simp [hN], Came.start q hr, hJ [] W w0 none h0 hg0 (fun r e => by cases e)⟩
  case round =>
    obtain ⟨left, cnt, ps, hrg, hcs, hC, hJs⟩ := hrel
    gi_wp2_with (first
      | (gi_at_next; refine wpListIn_next_ranges _ rfl _ rfl 9 Tryd.keyedS ptrR encStr (fun c : Option Addr => Value.pointer c) (fun key kl hk => by obtain ⟨x, hx, _⟩ := Maps.keyOf_str Tryd.underlying9 hk; exact ⟨x, hx⟩) (fun v y hv => by rcases ptrR_inv hv with ⟨k, rfl, _⟩ | ⟨rfl, _⟩ <;> exact ⟨_, rfl⟩) b W.heap.size l.length _ _ _ rfl hrg ?_ ?_)
      | gi_in)
    · intro hc0 hl0
      gi_wp2
      go_end0
      exact ⟨⟨_, rfl⟩, .inl ⟨ps, hC.done hr hl0, hJs⟩⟩
    · intro x c kl yd yp w2 cnt2 hkey hlk hv hat hrg2 hlt hg2 hs2 hen
      obtain ⟨x', ex, rfl, _⟩ := Maps.keyOf_str Tryd.underlying9 hkey
      obtain rfl : x = x' := encStr_inj ex
      obtain ⟨o, ex2, exs, rfl⟩ := came_one hv hat
      rw [exs] at hen
      rw [exs]
      have ekl : Lit.string x = keyL o.1.1 := by rw [ex2]; rfl
      rw [ekl] at hlk hrg2
      have hJ2 : J ps w2 := hJ ps wr w2 (some W.heap.size) hJs hg2 (fun r e => by cases e; exact ⟨Nat.le_refl _, hrg.iter_walk⟩)
      obtain ⟨fn, tmps, assign, body, hy, hR⟩ := hY ps o w2 hJ2 (by omega)
      dsimp only [encV] at hy
      have hC2 := hC.step hr o hlk
      clear hs2 ex ex2 exs ekl hkey hv hat
      obtain ⟨⟨on, ot, od⟩, ho⟩ := o
      dsimp only at hen hy hrg2 hC2 hR hlk ⊢
      gi_wp2
      refine hR.mono ?_
      rintro e W3 (⟨rfl, hJ3, hk3⟩ | ⟨rfl, hJx3⟩)
      · gi_wp2
        have hrg3 := hrg2.of_walks hk3
        go_roundw
        case rel => exact ⟨_, cnt2, _, hrg3, by simp; omega, hC2, hJ3⟩
        case measure => rw [hrg3.left_eq, hrg.left_eq]; exact hlt
      · gi_wp2
        refine bodyPost_ret (results_none rfl _ _ _) rfl ?_
        exact ⟨⟨_, rfl⟩, .inr ⟨_, trivial, hJx3⟩⟩

/-- The iterators over a map that is there. -/
theorem all_stops (n : Nat) (hn : 1 ≤ n) (n₀ Bm b : Nat) (hb₀ : b < n₀) (q : ByteArray → Nat) (l : List Ob) (hr : RiseO l) (w : World) (hm : w.cell? ⟨Bm, 0, none⟩ = some (.map (some b))) (hown : PtrMap w b q l) :
    SeqStopsK Fence.wide n Tryd.prog 31 #[.pointer (some ⟨Bm, 0, none⟩)] (encAll q) (KpM n₀) (fun ps : List (OneOf l) => (ps.map (·.1)).Perm l) (fun _ => True) l.length w := fun r J Jx W hW hJ _ hY h0 =>
  all1_any n hn n₀ r Bm b hb₀ q l hr J Jx hY W hJ ((hW.cell (p := ⟨Bm, 0, none⟩) (cell_lt hm)).trans hm) (hown.keep (hW.block b hown.lt)) h0
theorem values_stops (n : Nat) (hn : 1 ≤ n) (Bm b : Nat) (q : ByteArray → Nat) (l : List Ob) (hr : RiseO l) (w : World) (hm : w.cell? ⟨Bm, 0, none⟩ = some (.map (some b))) (hown : PtrMap w b q l) :
    SeqStopsK Fence.wide n Tryd.prog 53 #[.pointer (some ⟨Bm, 0, none⟩)] (encV q) KeepsWalks (fun ps : List (OneOf l) => (ps.map (·.1)).Perm l) (fun _ => True) l.length w := fun r J Jx W hW hJ _ hY h0 =>
  values1_any n hn r Bm b q l hr J Jx hY W hJ ((hW.cell (p := ⟨Bm, 0, none⟩) (cell_lt hm)).trans hm) (hown.keep (hW.block b hown.lt)) h0

set_option maxRecDepth 100000 in
set_option maxHeartbeats 1000000 in
theorem all_nil (n : Nat) (n₀ Bm : Nat) (q : ByteArray → Nat) (w : World) (hm : w.cell? ⟨Bm, 0, none⟩ = some (.map none)) :
    SeqStopsK Fence.wide n Tryd.prog 31 #[.pointer (some ⟨Bm, 0, none⟩)] (encAll q) (KpM n₀) (fun ps : List (OneOf []) => (ps.map (·.1)).Perm []) (fun _ => True) 0 w := fun r J Jx W hW hJ _ hY h0 => by
  have hm' : W.cell? ⟨Bm, 0, none⟩ = some (.map none) := (hW.cell (p := ⟨Bm, 0, none⟩) (cell_lt hm)).trans hm
  have hro : Fence.wide.round = none := rfl
  show CallsIn _ _ _ _ #[.func (.yield r) #[] #[], .pointer (some ⟨Bm, 0, none⟩)] _ _
  refine callsIn_of_wp Tryd.func31 rfl trivial ?_ hro
  simp only [Tryd.ntmps31, List.size_toArray, List.length_cons, List.length_nil, Nat.reduceAdd, Nat.reduceSub, Array.replicate_succ, Array.replicate_zero, List.push_toArray, List.append_toArray, List.nil_append, List.cons_append]
  have hrg := run_range_nilMap (P := Tryd.prog) W 47 9 55 Tryd.underlying47
  have hnx : ∀ ty, (Instr.next (.pointer (some ⟨W.heap.size, 0, none⟩)) false ty).run Tryd.prog (W.alloc (.mapIter none 0 #[] 0)) = _ := fun ty => run_next_nilMap _ ty 0 0 #[]
  clear hm hW
  gi_wp2
  refine wpIn_loop_rounds 1 ?_
  rw [roundsIn_succ]
  gi_wp2
  go_end0
  exact ⟨⟨_, rfl⟩, .inl ⟨[], List.Perm.nil, hJ [] W _ none h0 (World.grownBy_alloc W _ none) (fun r e => by cases e)⟩⟩
set_option maxRecDepth 100000 in
set_option maxHeartbeats 1000000 in
theorem values_nil (n : Nat) (Bm : Nat) (q : ByteArray → Nat) (w : World) (hm : w.cell? ⟨Bm, 0, none⟩ = some (.map none)) :
    SeqStopsK Fence.wide n Tryd.prog 53 #[.pointer (some ⟨Bm, 0, none⟩)] (encV q) KeepsWalks (fun ps : List (OneOf []) => (ps.map (·.1)).Perm []) (fun _ => True) 0 w := fun r J Jx W hW hJ _ hY h0 => by
  have hm' : W.cell? ⟨Bm, 0, none⟩ = some (.map none) := (hW.cell (p := ⟨Bm, 0, none⟩) (cell_lt hm)).trans hm
  have hro : Fence.wide.round = none := rfl
  show CallsIn _ _ _ _ #[.func (.yield r) #[] #[], .pointer (some ⟨Bm, 0, none⟩)] _ _
  refine callsIn_of_wp Tryd.func53 rfl trivial ?_ hro
  simp only [Tryd.ntmps53, List.size_toArray, List.length_cons, List.length_nil, Nat.reduceAdd, Nat.reduceSub, Array.replicate_succ, Array.replicate_zero, List.push_toArray, List.append_toArray, List.nil_append, List.cons_append]
  have hrg := run_range_nilMap (P := Tryd.prog) W 47 9 55 Tryd.underlying47
  have hnx : ∀ ty, (Instr.next (.pointer (some ⟨W.heap.size, 0, none⟩)) false ty).run Tryd.prog (W.alloc (.mapIter none 0 #[] 0)) = _ := fun ty => run_next_nilMap _ ty 0 0 #[]
  clear hm hW
  gi_wp2
  refine wpIn_loop_rounds 1 ?_
  rw [roundsIn_succ]
  gi_wp2
  go_end0
  exact ⟨⟨_, rfl⟩, .inl ⟨[], List.Perm.nil, hJ [] W _ none h0 (World.grownBy_alloc W _ none) (fun r e => by cases e)⟩⟩

/-- The map is there, or it is not. -/
theorem all_seq (n : Nat) (hn : 1 ≤ n) (n₀ Bm : Nat) (mo : Option Nat) (hmo : ∀ mb, mo = some mb → mb < n₀) (q : ByteArray → Nat) (l : List Ob) (hr : RiseO l) (w : World) (hm : w.cell? ⟨Bm, 0, none⟩ = some (.map mo)) (hown : MapAt w mo q l) :
    SeqStopsK Fence.wide n Tryd.prog 31 #[.pointer (some ⟨Bm, 0, none⟩)] (encAll q) (KpM n₀) (fun ps : List (OneOf l) => (ps.map (·.1)).Perm l) (fun _ => True) l.length w := by
  rcases hown with ⟨rfl, rfl⟩ | ⟨b, rfl, hown⟩
  · exact all_nil n n₀ Bm q w hm
  · exact all_stops n hn n₀ Bm b (hmo b rfl) q l hr w hm hown
theorem values_seq (n : Nat) (hn : 1 ≤ n) (Bm : Nat) (mo : Option Nat) (q : ByteArray → Nat) (l : List Ob) (hr : RiseO l) (w : World) (hm : w.cell? ⟨Bm, 0, none⟩ = some (.map mo)) (hown : MapAt w mo q l) :
    SeqStopsK Fence.wide n Tryd.prog 53 #[.pointer (some ⟨Bm, 0, none⟩)] (encV q) KeepsWalks (fun ps : List (OneOf l) => (ps.map (·.1)).Perm l) (fun _ => True) l.length w := by
  rcases hown with ⟨rfl, rfl⟩ | ⟨b, rfl, hown⟩
  · exact values_nil n Bm q w hm
  · exact values_stops n hn Bm b q l hr w hm hown

set_option maxHeartbeats 1000000 in
theorem all_any (n : Nat) (mo : Option Nat) (w : World) : CallsIn Fence.wide n Tryd.prog 23 #[.map mo] w fun e w' => e = .returned (.func (.func 31) #[] #[.pointer (some ⟨w.heap.size, 0, none⟩)]) ∧ w' = w.alloc (.cells #[.map mo] 47) := by
  refine callsIn_of_wp Tryd.func23 rfl trivial ?_ rfl
  simp only [Tryd.ntmps23, List.size_toArray, List.length_cons, List.length_nil, Nat.reduceAdd, Nat.reduceSub, Array.replicate_succ, Array.replicate_zero, List.push_toArray, List.append_toArray, List.nil_append, List.cons_append]
  gi_wp2
  go_ret
  exact ⟨rfl, rfl⟩
set_option maxHeartbeats 1000000 in
theorem values_any (n : Nat) (mo : Option Nat) (w : World) : CallsIn Fence.wide n Tryd.prog 41 #[.map mo] w fun e w' => e = .returned (.func (.func 53) #[] #[.pointer (some ⟨w.heap.size, 0, none⟩)]) ∧ w' = w.alloc (.cells #[.map mo] 47) := by
  refine callsIn_of_wp Tryd.func41 rfl trivial ?_ rfl
  simp only [Tryd.ntmps41, List.size_toArray, List.length_cons, List.length_nil, Nat.reduceAdd, Nat.reduceSub, Array.replicate_succ, Array.replicate_zero, List.push_toArray, List.append_toArray, List.nil_append, List.cons_append]
  gi_wp2
  go_ret
  exact ⟨rfl, rfl⟩
end Go.Proofs.YtmcfklkpdhgjdaaDoor
