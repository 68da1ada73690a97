/-
  Every world behind the statement's beginning: the errors are as they were; coded tells an error by its number.
-/
import Derived.Test.YtbdhdlloihkibaaGreatDoorStoMem
import Derived.RangeFuncNested
import Derived.RangeFuncBound
import Derived.RangeFuncCalls
import Derived.RangeFuncLeaves
import Derived.Sort.MapsRangeIn
import Derived.Sort.KeysCollected
import Derived.Shelf.RegionOpen
import Derived.OwnWalkIn
import Derived.TacticsInMore
import Derived.RegionIn
import Derived.LoopNIn
import Derived.LoopIn
import Derived.Test.YtbdhdlloihkibaaGreatDoorStoShelf
import Derived.Test.YtbdhdlloihkibaaGreatDoorExpSn
namespace Go.Proofs.YtbdhdlloihkibaaGreatDoor
open Go.RowKit Go.Maps Go.Sort Go.Shelf

abbrev OneOf (l : List Ob) := { o : Ob // o ∈ l }

structure Came (l : List Ob) (left : Lit → Bool) (ps : List (OneOf l)) : Prop where
  once : ps.Nodup
  left : ∀ o : OneOf l, left (keyL o.1.1) = true ↔ o ∉ ps

theorem rise_name {l : List Ob} (hr : RiseO l) {o p : Ob} (ho : o ∈ l) (hp : p ∈ l) (h : o.1 = p.1) : o = p := by
  have h1 := getO_mem hr ho
  rw [h, getO_mem hr hp] at h1
  exact (Option.some.inj h1).symm
theorem rise_nodup {l : List Ob} (hr : RiseO l) : l.Nodup := hr.imp fun h e => by subst e; exact lt_irr_l _ h

theorem Came.start {l : List Ob} (q : ByteArray → Nat) (hr : RiseO l) : Came l (Maps.has (mapQ q l)) [] :=
  ⟨List.nodup_nil, fun o => by rw [mapQ_has, getO_mem hr o.2]; simp⟩
theorem Came.step {l : List Ob} {left : Lit → Bool} {ps : List (OneOf l)} (h : Came l left ps) (hr : RiseO l) (o : OneOf l) (hl : left (keyL o.1.1) = true) : Came l (fun z => left z && !z.sameKey (keyL o.1.1)) (ps ++ [o]) := by
  have hn := (h.left o).1 hl
  refine ⟨?_, fun p => ?_⟩
  · rw [List.nodup_append]
    refine ⟨h.once, by simp, fun a ha b hb => ?_⟩
    simp only [List.mem_singleton] at hb
    subst hb
    exact fun e => hn (e ▸ ha)
  · rw [keyL_same]
    by_cases e : p = o
    · subst e; simp
    · have : p.1.1 ≠ o.1.1 := fun e' => e (Subtype.ext (rise_name hr p.2 o.2 e'))
      simp [this, h.left p, e]
theorem Came.done {l : List Ob} {left : Lit → Bool} {ps : List (OneOf l)} (h : Came l left ps) (hr : RiseO l) (hl : ∀ z, left z = false) : (ps.map (·.1)).Perm l := by
  rw [List.perm_ext_iff_of_nodup]
  · intro o
    constructor
    · intro ho
      obtain ⟨p, _, rfl⟩ := List.mem_map.1 ho
      exact p.2
    · intro ho
      refine List.mem_map.2 ⟨⟨o, ho⟩, ?_, rfl⟩
      have := h.left ⟨o, ho⟩
      rw [hl] at this
      simpa using this
  · show List.Pairwise _ _
    rw [List.pairwise_map]
    exact h.once.imp fun h e => h (Subtype.ext e)
  · exact rise_nodup hr

theorem came_one {l : List Ob} {q : ByteArray → Nat} {x : List UInt8} {c : Option Addr} {y : DataW Unit × List MemPlace} (hv : ptrR (.pointer c) = some y) (hat : ∀ zd, (mapQ q l).atKey (.string x) zd = y.1) :
    ∃ o : OneOf l, x = o.1.1.data.toList ∧ encStr x = .string o.1.1 ∧ c = some ⟨q o.1.1, 0, none⟩ := by
  have hx : Lit.string x = keyL (bytesOf x) := by simp [keyL, bytesOf]
  rw [hx] at hat
  have h1 := hat (ptrD (-7))
  have h2 := hat (ptrD (-8))
  rw [mapQ_at] at h1 h2
  cases hg : getO l (bytesOf x) with
  | none =>
    rw [hg] at h1 h2
    simp at h1 h2
    have := ptrD_inj (h1.trans h2.symm)
    omega
  | some o =>
    obtain ⟨ho, hn⟩ := getO_some hg
    rw [hg] at h1
    simp at h1
    refine ⟨⟨o, ho⟩, ?_, ?_, ?_⟩
    · simp [hn, bytesOf]
    · simp [hn, bytesOf, encStr]
    · rcases ptrR_inv hv with ⟨k, e, hz⟩ | ⟨e, hz⟩
      · rw [hz] at h1
        have := ptrD_inj h1
        have hk : q (bytesOf x) = k := by omega
        simp only [Value.pointer.injEq] at e
        rw [e]
        simp [hn, hk]
      · rw [hz] at h1
        have := ptrD_inj h1
        omega

structure KpM (n₀ : Nat) (W W' : World) : Prop where
  size : W.heap.size ≤ W'.heap.size
  old : ∀ k : Nat, k < n₀ → W'.heap[k]? = W.heap[k]?
  iter : ∀ (k : Nat) p s e c, W.heap[k]? = some (Obj.mapIter p s e c) → W'.heap[k]? = some (Obj.mapIter p s e c)
theorem KpM.trans {n₀ : Nat} {X Y Z : World} (h : KpM n₀ X Y) (k : KpM n₀ Y Z) : KpM n₀ X Z := ⟨Nat.le_trans h.size k.size, fun i hi => (k.old i hi).trans (h.old i hi), fun i p s e c hi => k.iter i p s e c (h.iter i p s e c hi)⟩
theorem KpM.put {n₀ : Nat} (W : World) (l : Nat) (o o' : Obj) (hl : n₀ ≤ l) (h : W.heap[l]? = some o) (hw : o.isWalk = false) : KpM n₀ W (W.putObj l o') :=
  ⟨by simp, fun k hk => World.putObj_heap_other (by omega), fun k p s e c hk => (World.putObj_heap_other (fun e' => by subst e'; rw [h] at hk; cases hk; cases hw)).trans hk⟩
theorem ranges_of_kpM {k : TypeId} {R : Value → Option (DataW Unit × List MemPlace)} {w w' : World} {b r n n₀ : Nat} {D : DataW Unit} {left : Lit → Bool} {cnt : Nat}
    (h : w.ranges Tryz.prog k R b r n D left cnt) (hk : KpM n₀ w w') (hb : b < n₀) : w'.ranges Tryz.prog k R b r n D left cnt := by
  obtain ⟨es, clock, since, seen, c0, hb', F, hs, hD, hr, rest⟩ := h
  exact ⟨es, clock, since, seen, c0, (hk.old b hb).trans hb', F, hs, hD, hk.iter r _ _ _ _ hr, rest⟩

abbrev encAll {l : List Ob} (q : ByteArray → Nat) (o : OneOf l) : Array Value := #[.string o.1.1, .pointer (some ⟨q o.1.1, 0, none⟩)]
abbrev encV {l : List Ob} (q : ByteArray → Nat) (o : OneOf l) : Array Value := #[.pointer (some ⟨q o.1.1, 0, none⟩)]

set_option maxRecDepth 100000 in
set_option maxHeartbeats 1000000 in
theorem all1_any (n : Nat) (hn : 1 ≤ n) (n₀ r Bm b : Nat) (hb₀ : b < n₀) (q : ByteArray → Nat) (l : List Ob) (hr : RiseO l) (J Jx : List (OneOf l) → World → Prop)
    (hY : ∀ pre x W, J pre W → pre.length < l.length → YieldAt Fence.wide (n - 1) Tryz.prog r (encAll q x) W fun e W' =>
      (e = .returned (.bool true) ∧ J (pre ++ [x]) W' ∧ KpM n₀ W W') ∨ (e = .returned (.bool false) ∧ Jx (pre ++ [x]) W'))
    (W : World) (hJ : AbidesFrom W.heap.size J) (hm : W.cell? ⟨Bm, 0, none⟩ = some (.map (some b))) (hown : PtrMap W b q l) (h0 : J [] W) :
    CallsIn Fence.wide n Tryz.prog 96 #[.func (.yield r) #[] #[], .pointer (some ⟨Bm, 0, none⟩)] W fun e W' => (∃ v, e = .returned v) ∧
      ((∃ ps, (ps.map (·.1)).Perm l ∧ J ps W') ∨ (∃ pre, True ∧ Jx pre W')) := by
  have hro : Fence.wide.round = none := rfl
  have hN := mapQ_size q l
  refine callsIn_of_wp Tryz.func96 rfl trivial ?_ hro
  simp only [Tryz.ntmps96, List.size_toArray, List.length_cons, List.length_nil, Nat.reduceAdd, Nat.reduceSub, Array.replicate_succ, Array.replicate_zero, List.push_toArray, List.append_toArray, List.nil_append, List.cons_append]
  gi_wp2_with (first
    | (gi_at_range; refine wpListIn_range_own _ rfl _ 64 rfl 9 99 Tryz.keyedS Tryz.underlying64 ptrR b l.length _ rfl hown ?_; intro w0 hrg0 hg0 hs0)
    | gi_in)
  go_frame
  gi_loopw [3, 4] (fun _ _ wr => ∃ (left : Lit → Bool) (cnt : Nat) (ps : List (OneOf l)), wr.ranges Tryz.prog 9 ptrR b W.heap.size l.length (mapQ q l) left cnt ∧ ps.length + cnt ≤ l.length ∧ Came l left ps ∧ J ps wr)
    (fun _ _ wr => wr.rangeLeft b W.heap.size)
  case atStart =>
    exact ⟨_, _, [], hrg0, by simp [hN], Came.start q hr, hJ [] W w0 none h0 hg0 (fun r e => by cases e)⟩
  case round =>
    obtain ⟨left, cnt, ps, hrg, hcs, hC, hJs⟩ := hrel
    gi_wp2_with (first
      | (gi_at_next; refine wpListIn_next_ranges _ rfl _ rfl 9 Tryz.keyedS ptrR encStr (fun c : Option Addr => Value.pointer c) (fun key kl hk => by obtain ⟨x, hx, _⟩ := Maps.keyOf_str Tryz.underlying9 hk; exact ⟨x, hx⟩) (fun v y hv => by rcases ptrR_inv hv with ⟨k, rfl, _⟩ | ⟨rfl, _⟩ <;> exact ⟨_, rfl⟩) b W.heap.size l.length _ _ _ rfl hrg ?_ ?_)
      | gi_in)
    · intro hc0 hl0
      gi_wp2
      go_end0
      exact ⟨⟨_, rfl⟩, .inl ⟨ps, hC.done hr hl0, hJs⟩⟩
    · intro x c kl yd yp w2 cnt2 hkey hlk hv hat hrg2 hlt hg2 hs2 hen
      obtain ⟨x', ex, rfl, _⟩ := Maps.keyOf_str Tryz.underlying9 hkey
      obtain rfl : x = x' := encStr_inj ex
      obtain ⟨o, ex2, exs, rfl⟩ := came_one hv hat
      rw [exs] at hen
      rw [exs]
      have ekl : Lit.string x = keyL o.1.1 := by rw [ex2]; rfl
      rw [ekl] at hlk hrg2
      have hJ2 : J ps w2 := hJ ps wr w2 (some W.heap.size) hJs hg2 (fun r e => by cases e; exact ⟨Nat.le_refl _, hrg.iter_walk⟩)
      obtain ⟨fn, tmps, assign, body, hy, hR⟩ := hY ps o w2 hJ2 (by omega)
      dsimp only [encAll] at hy
      have hC2 := hC.step hr o hlk
      clear hs2 ex ex2 exs ekl hkey hv hat
      obtain ⟨⟨on, ot, od⟩, ho⟩ := o
      dsimp only at hen hy hrg2 hC2 hR hlk ⊢
      gi_wp2
      refine hR.mono ?_
      rintro e W3 (⟨rfl, hJ3, hk3⟩ | ⟨rfl, hJx3⟩)
      · gi_wp2
        have hrg3 := ranges_of_kpM hrg2 hk3 hb₀
        go_roundw
        case rel => exact ⟨_, cnt2, _, hrg3, by simp; omega, hC2, hJ3⟩
        case measure => rw [hrg3.left_eq, hrg.left_eq]; exact hlt
      · gi_wp2
        refine bodyPost_ret (results_none rfl _ _ _) rfl ?_
        exact ⟨⟨_, rfl⟩, .inr ⟨_, trivial, hJx3⟩⟩
set_option maxRecDepth 100000 in
set_option maxHeartbeats 1000000 in
theorem values1_any (n : Nat) (hn : 1 ≤ n) (r Bm b : Nat) (q : ByteArray → Nat) (l : List Ob) (hr : RiseO l) (J Jx : List (OneOf l) → World → Prop)
    (hY : ∀ pre x W, J pre W → pre.length < l.length → YieldAt Fence.wide (n - 1) Tryz.prog r (encV q x) W fun e W' =>
      (e = .returned (.bool true) ∧ J (pre ++ [x]) W' ∧ KeepsWalks W W') ∨ (e = .returned (.bool false) ∧ Jx (pre ++ [x]) W'))
    (W : World) (hJ : AbidesFrom W.heap.size J) (hm : W.cell? ⟨Bm, 0, none⟩ = some (.map (some b))) (hown : PtrMap W b q l) (h0 : J [] W) :
    CallsIn Fence.wide n Tryz.prog 126 #[.func (.yield r) #[] #[], .pointer (some ⟨Bm, 0, none⟩)] W fun e W' => (∃ v, e = .returned v) ∧
      ((∃ ps, (ps.map (·.1)).Perm l ∧ J ps W') ∨ (∃ pre, True ∧ Jx pre W')) := by
  have hro : Fence.wide.round = none := rfl
  have hN := mapQ_size q l
  refine callsIn_of_wp Tryz.func126 rfl trivial ?_ hro
  simp only [Tryz.ntmps126, List.size_toArray, List.length_cons, List.length_nil, Nat.reduceAdd, Nat.reduceSub, Array.replicate_succ, Array.replicate_zero, List.push_toArray, List.append_toArray, List.nil_append, List.cons_append]
  gi_wp2_with (first
    | (gi_at_range; refine wpListIn_range_own _ rfl _ 64 rfl 9 99 Tryz.keyedS Tryz.underlying64 ptrR b l.length _ rfl hown ?_; intro w0 hrg0 hg0 hs0)
    | gi_in)
  go_frame
  gi_loopw [4] (fun _ wr => ∃ (left : Lit → Bool) (cnt : Nat) (ps : List (OneOf l)), wr.ranges Tryz.prog 9 ptrR b W.heap.size l.length (mapQ q l) left cnt ∧ ps.length + cnt ≤ l.length ∧ Came l left ps ∧ J ps wr)
    (fun _ wr => wr.rangeLeft b W.heap.size)
  case atStart =>
    exact ⟨_, _, [], hrg0, by simp [hN], Came.start q hr, hJ [] W w0 none h0 hg0 (fun r e => by cases e)⟩
  case round =>
    obtain ⟨left, cnt, ps, hrg, hcs, hC, hJs⟩ := hrel
    gi_wp2_with (first
      | (gi_at_next; refine wpListIn_next_ranges _ rfl _ rfl 9 Tryz.keyedS ptrR encStr (fun c : Option Addr => Value.pointer c) (fun key kl hk => by obtain ⟨x, hx, _⟩ := Maps.keyOf_str Tryz.underlying9 hk; exact ⟨x, hx⟩) (fun v y hv => by rcases ptrR_inv hv with ⟨k, rfl, _⟩ | ⟨rfl, _⟩ <;> exact ⟨_, rfl⟩) b W.heap.size l.length _ _ _ rfl hrg ?_ ?_)
      | gi_in)
    · intro hc0 hl0
      gi_wp2
      go_end0
      exact ⟨⟨_, rfl⟩, .inl ⟨ps, hC.done hr hl0, hJs⟩⟩
    · intro x c kl yd yp w2 cnt2 hkey hlk hv hat hrg2 hlt hg2 hs2 hen
      obtain ⟨x', ex, rfl, _⟩ := Maps.keyOf_str Tryz.underlying9 hkey
      obtain rfl : x = x' := encStr_inj ex
      obtain ⟨o, ex2, exs, rfl⟩ := came_one hv hat
      rw [exs] at hen
      rw [exs]
      have ekl : Lit.string x = keyL o.1.1 := by rw [ex2]; rfl
      rw [ekl] at hlk hrg2
      have hJ2 : J ps w2 := hJ ps wr w2 (some W.heap.size) hJs hg2 (fun r e => by cases e; exact ⟨Nat.le_refl _, hrg.iter_walk⟩)
      obtain ⟨fn, tmps, assign, body, hy, hR⟩ := hY ps o w2 hJ2 (by omega)
      dsimp only [encV] at hy
      have hC2 := hC.step hr o hlk
      clear hs2 ex ex2 exs ekl hkey hv hat
      obtain ⟨⟨on, ot, od⟩, ho⟩ := o
      dsimp only at hen hy hrg2 hC2 hR hlk ⊢
      gi_wp2
      refine hR.mono ?_
      rintro e W3 (⟨rfl, hJ3, hk3⟩ | ⟨rfl, hJx3⟩)
      · gi_wp2
        have hrg3 := hrg2.of_walks hk3
        go_roundw
        case rel => exact ⟨_, cnt2, _, hrg3, by simp; omega, hC2, hJ3⟩
        case measure => rw [hrg3.left_eq, hrg.left_eq]; exact hlt
      · gi_wp2
        refine bodyPost_ret (results_none rfl _ _ _) rfl ?_
        exact ⟨⟨_, rfl⟩, .inr ⟨_, trivial, hJx3⟩⟩

theorem all_stops (n : Nat) (hn : 1 ≤ n) (n₀ Bm b : Nat) (hb₀ : b < n₀) (q : ByteArray → Nat) (l : List Ob) (hr : RiseO l) (w : World) (hm : w.cell? ⟨Bm, 0, none⟩ = some (.map (some b))) (hown : PtrMap w b q l) :
    SeqStopsK Fence.wide n Tryz.prog 96 #[.pointer (some ⟨Bm, 0, none⟩)] (encAll q) (KpM n₀) (fun ps : List (OneOf l) => (ps.map (·.1)).Perm l) (fun _ => True) l.length w := fun r J Jx W hW hJ _ hY h0 =>
  all1_any n hn n₀ r Bm b hb₀ q l hr J Jx hY W hJ ((hW.cell (p := ⟨Bm, 0, none⟩) (cell_lt hm)).trans hm) (hown.keep (hW.block b hown.lt)) h0
theorem values_stops (n : Nat) (hn : 1 ≤ n) (Bm b : Nat) (q : ByteArray → Nat) (l : List Ob) (hr : RiseO l) (w : World) (hm : w.cell? ⟨Bm, 0, none⟩ = some (.map (some b))) (hown : PtrMap w b q l) :
    SeqStopsK Fence.wide n Tryz.prog 126 #[.pointer (some ⟨Bm, 0, none⟩)] (encV q) KeepsWalks (fun ps : List (OneOf l) => (ps.map (·.1)).Perm l) (fun _ => True) l.length w := fun r J Jx W hW hJ _ hY h0 =>
  values1_any n hn r Bm b q l hr J Jx hY W hJ ((hW.cell (p := ⟨Bm, 0, none⟩) (cell_lt hm)).trans hm) (hown.keep (hW.block b hown.lt)) h0

set_option maxRecDepth 100000 in
set_option maxHeartbeats 1000000 in
theorem all_nil (n : Nat) (n₀ Bm : Nat) (q : ByteArray → Nat) (w : World) (hm : w.cell? ⟨Bm, 0, none⟩ = some (.map none)) :
    SeqStopsK Fence.wide n Tryz.prog 96 #[.pointer (some ⟨Bm, 0, none⟩)] (encAll q) (KpM n₀) (fun ps : List (OneOf []) => (ps.map (·.1)).Perm []) (fun _ => True) 0 w := fun r J Jx W hW hJ _ hY h0 => by
  have hm' : W.cell? ⟨Bm, 0, none⟩ = some (.map none) := (hW.cell (p := ⟨Bm, 0, none⟩) (cell_lt hm)).trans hm
  have hro : Fence.wide.round = none := rfl
  show CallsIn _ _ _ _ #[.func (.yield r) #[] #[], .pointer (some ⟨Bm, 0, none⟩)] _ _
  refine callsIn_of_wp Tryz.func96 rfl trivial ?_ hro
  simp only [Tryz.ntmps96, List.size_toArray, List.length_cons, List.length_nil, Nat.reduceAdd, Nat.reduceSub, Array.replicate_succ, Array.replicate_zero, List.push_toArray, List.append_toArray, List.nil_append, List.cons_append]
  have hrg := run_range_nilMap (P := Tryz.prog) W 64 9 99 Tryz.underlying64
  have hnx : ∀ ty, (Instr.next (.pointer (some ⟨W.heap.size, 0, none⟩)) false ty).run Tryz.prog (W.alloc (.mapIter none 0 #[] 0)) = _ := fun ty => run_next_nilMap _ ty 0 0 #[]
  clear hm hW
  gi_wp2
  refine wpIn_loop_rounds 1 ?_
  rw [roundsIn_succ]
  gi_wp2
  go_end0
  exact ⟨⟨_, rfl⟩, .inl ⟨[], List.Perm.nil, hJ [] W _ none h0 (World.grownBy_alloc W _ none) (fun r e => by cases e)⟩⟩
set_option maxRecDepth 100000 in
set_option maxHeartbeats 1000000 in
theorem values_nil (n : Nat) (Bm : Nat) (q : ByteArray → Nat) (w : World) (hm : w.cell? ⟨Bm, 0, none⟩ = some (.map none)) :
    SeqStopsK Fence.wide n Tryz.prog 126 #[.pointer (some ⟨Bm, 0, none⟩)] (encV q) KeepsWalks (fun ps : List (OneOf []) => (ps.map (·.1)).Perm []) (fun _ => True) 0 w := fun r J Jx W hW hJ _ hY h0 => by
  have hm' : W.cell? ⟨Bm, 0, none⟩ = some (.map none) := (hW.cell (p := ⟨Bm, 0, none⟩) (cell_lt hm)).trans hm
  have hro : Fence.wide.round = none := rfl
  show CallsIn _ _ _ _ #[.func (.yield r) #[] #[], .pointer (some ⟨Bm, 0, none⟩)] _ _
  refine callsIn_of_wp Tryz.func126 rfl trivial ?_ hro
  simp only [Tryz.ntmps126, List.size_toArray, List.length_cons, List.length_nil, Nat.reduceAdd, Nat.reduceSub, Array.replicate_succ, Array.replicate_zero, List.push_toArray, List.append_toArray, List.nil_append, List.cons_append]
  have hrg := run_range_nilMap (P := Tryz.prog) W 64 9 99 Tryz.underlying64
  have hnx : ∀ ty, (Instr.next (.pointer (some ⟨W.heap.size, 0, none⟩)) false ty).run Tryz.prog (W.alloc (.mapIter none 0 #[] 0)) = _ := fun ty => run_next_nilMap _ ty 0 0 #[]
  clear hm hW
  gi_wp2
  refine wpIn_loop_rounds 1 ?_
  rw [roundsIn_succ]
  gi_wp2
  go_end0
  exact ⟨⟨_, rfl⟩, .inl ⟨[], List.Perm.nil, hJ [] W _ none h0 (World.grownBy_alloc W _ none) (fun r e => by cases e)⟩⟩

theorem all_seq (n : Nat) (hn : 1 ≤ n) (n₀ Bm : Nat) (mo : Option Nat) (hmo : ∀ mb, mo = some mb → mb < n₀) (q : ByteArray → Nat) (l : List Ob) (hr : RiseO l) (w : World) (hm : w.cell? ⟨Bm, 0, none⟩ = some (.map mo)) (hown : MapAt w mo q l) :
    SeqStopsK Fence.wide n Tryz.prog 96 #[.pointer (some ⟨Bm, 0, none⟩)] (encAll q) (KpM n₀) (fun ps : List (OneOf l) => (ps.map (·.1)).Perm l) (fun _ => True) l.length w := by
  rcases hown with ⟨rfl, rfl⟩ | ⟨b, rfl, hown⟩
  · exact all_nil n n₀ Bm q w hm
  · exact all_stops n hn n₀ Bm b (hmo b rfl) q l hr w hm hown
theorem values_seq (n : Nat) (hn : 1 ≤ n) (Bm : Nat) (mo : Option Nat) (q : ByteArray → Nat) (l : List Ob) (hr : RiseO l) (w : World) (hm : w.cell? ⟨Bm, 0, none⟩ = some (.map mo)) (hown : MapAt w mo q l) :
    SeqStopsK Fence.wide n Tryz.prog 126 #[.pointer (some ⟨Bm, 0, none⟩)] (encV q) KeepsWalks (fun ps : List (OneOf l) => (ps.map (·.1)).Perm l) (fun _ => True) l.length w := by
  rcases hown with ⟨rfl, rfl⟩ | ⟨b, rfl, hown⟩
  · exact values_nil n Bm q w hm
  · exact values_stops n hn Bm b q l hr w hm hown

set_option maxHeartbeats 1000000 in
theorem all_any (n : Nat) (mo : Option Nat) (w : World) : CallsIn Fence.wide n Tryz.prog 71 #[.map mo] w fun e w' => e = .returned (.func (.func 96) #[] #[.pointer (some ⟨w.heap.size, 0, none⟩)]) ∧ w' = w.alloc (.cells #[.map mo] 64) := by
  refine callsIn_of_wp Tryz.func71 rfl trivial ?_ rfl
  simp only [Tryz.ntmps71, List.size_toArray, List.length_cons, List.length_nil, Nat.reduceAdd, Nat.reduceSub, Array.replicate_succ, Array.replicate_zero, List.push_toArray, List.append_toArray, List.nil_append, List.cons_append]
  gi_wp2
  go_ret
  exact ⟨rfl, rfl⟩
set_option maxHeartbeats 1000000 in
theorem values_any (n : Nat) (mo : Option Nat) (w : World) : CallsIn Fence.wide n Tryz.prog 116 #[.map mo] w fun e w' => e = .returned (.func (.func 126) #[] #[.pointer (some ⟨w.heap.size, 0, none⟩)]) ∧ w' = w.alloc (.cells #[.map mo] 64) := by
  refine callsIn_of_wp Tryz.func116 rfl trivial ?_ rfl
  simp only [Tryz.ntmps116, List.size_toArray, List.length_cons, List.length_nil, Nat.reduceAdd, Nat.reduceSub, Array.replicate_succ, Array.replicate_zero, List.push_toArray, List.append_toArray, List.nil_append, List.cons_append]
  gi_wp2
  go_ret
  exact ⟨rfl, rfl⟩
end Go.Proofs.YtbdhdlloihkibaaGreatDoor
namespace Go.Proofs.YtbdhdlloihkibaaGreatDoor
open Go.RowKit Go.Maps Go.Sort Go.Shelf

theorem Tryz.sortsIt (m : Nat) : AnyZ.SortsIn Tryz.prog Tryz.sortedIt_ren Fence.wide m :=
  ⟨fun blk off cap ss W hH hblk hsz => callsIn_wide.2 (AnyM.slices_Sort_string Tryz.sortIt blk off cap ss W hH hblk hsz),
   fun p cap W => callsIn_wide.2 (AnyM.slices_Sort_string_none Tryz.sortIt p cap W)⟩
theorem Tryz.mapsKeys (mb : Option Nat) (W : World) : CallsIn Fence.wide 5 Tryz.prog 57 #[.map mb] W fun e w' => e = .returned (.func (.func 79) #[] #[.pointer (some ⟨W.heap.size, 0, none⟩)]) ∧ w' = W.alloc (.cells #[.map mb] 64) :=
  AnyZ.keys_in Tryz.keysIt Fence.wide 5 trivial rfl mb W

def namesL (l : List Ob) : List (List UInt8) := l.map fun o => o.1.data.toList
theorem keys_names (q : ByteArray → Nat) (l : List Ob) : strKeys (mapQ q l) = namesL l := by simp [strKeys, mapQ, namesL, keyL, strOf]
theorem names_sorted {l : List Ob} (hr : RiseO l) {ss : List (List UInt8)} (hs : ss.Perm (namesL l)) : ss.mergeSort (fun x y => decide (x ≤ y)) = namesL l := by
  have h1 : (namesL l).Pairwise fun x y => x ≤ y := by
    unfold namesL
    rw [List.pairwise_map]
    exact hr.imp fun h => List.le_of_lt h
  have h2 := List.pairwise_mergeSort (le := fun x y : List UInt8 => decide (x ≤ y)) (fun a b c h1 h2 => by simp only [decide_eq_true_eq] at *; exact List.le_trans h1 h2) (fun a b => by simp only [Bool.or_eq_true, decide_eq_true_eq]; exact List.le_total a b) ss
  have h3 : (ss.mergeSort (fun x y => decide (x ≤ y))).Pairwise fun x y => x ≤ y := h2.imp fun h => by simpa using h
  exact ((List.mergeSort_perm _ _).trans hs).eq_of_pairwise (fun a b _ _ h h' => List.le_antisymm h h') h3 h1
theorem names_enc (l : List Ob) : (namesL l).map encStr = (l.map fun o => o.1).map Value.string := by
  unfold namesL
  rw [List.map_map, List.map_map]
  apply List.map_congr_left
  intro o _
  simp [encStr]

set_option maxHeartbeats 1000000 in
theorem sortedN_any (mo : Option Nat) (q : ByteArray → Nat) (l : List Ob) (w : World) (h : MapAt w mo q l) (hr : RiseO l) (hl : l.length ≤ 200) :
    CallsIn Fence.wide 5 Tryz.prog 56 #[.func (.func 79) #[] #[.pointer (some ⟨w.heap.size, 0, none⟩)]] (w.alloc (.cells #[.map mo] 64)) fun e w' => ∃ v, e = .returned v ∧ w'.ownsRow w.heap.size 9 1 v (l.map fun o => o.1).length ((l.map fun o => o.1).map Value.string) ∧ Below w.heap.size w w' := by
  have hal : Below w.heap.size w (w.alloc (.cells #[.map mo] 64)) := (Below.refl _ _).alloc (Nat.le_refl _) _
  have hseq : ∃ N, N ≤ 200 ∧ SeqGives Fence.wide 2 Tryz.prog 79 #[.pointer (some ⟨w.heap.size, 0, none⟩)] encStr (fun ss => ss.Perm (namesL l)) N (w.alloc (.cells #[.map mo] 64)) := by
    rcases h with ⟨rfl, rfl⟩ | ⟨b, rfl, hown⟩
    · refine ⟨0, by decide, ?_⟩
      have g : SeqGives Fence.wide 2 Tryz.prog 79 #[.pointer (some ⟨w.heap.size, 0, none⟩)] encStr (fun ss : List (List UInt8) => ss = []) 0 (w.alloc (.cells #[.map none] 64)) :=
        AnyZ.keys_gives_nil (ρ := Tryz.keysIt_ren) { Tryz.keysIt with } Fence.wide _ trivial rfl w.heap.size _ (by simp) (by simp)
      intro r J W hW hJ hY h0
      refine (g r J W hW hJ hY h0).mono ?_
      rintro e W' ⟨hv, ss, rfl, hJ'⟩
      exact ⟨hv, [], List.Perm.nil, hJ'⟩
    · refine ⟨Maps.size (mapQ q l), by rw [mapQ_size]; exact hl, ?_⟩
      rw [← keys_names q l]
      exact AnyZ.keys_gives (ρ := Tryz.keysIt_ren) { Tryz.keysIt with } Fence.wide _ trivial rfl (by omega) w.heap.size b l.length (mapQ q l) _ (by simp) (by simp) (hown.keep (Below.heap_alloc _ _ b hown.lt))
  obtain ⟨N, hN, hseq⟩ := hseq
  have cS := AnyZ.sorted_in Tryz.sortedIt Fence.wide 5 trivial trivial trivial trivial rfl (by omega) (Tryz.sortsIt _) (enters_of Tryz.func30 (by kernel_rfl) rfl) 79 #[.pointer (some ⟨w.heap.size, 0, none⟩)] trivial (enters_of Tryz.func79 (by kernel_rfl) rfl) _ N (by unfold maxLen; omega) (by omega) _ hseq
  change CallsIn _ _ Tryz.prog 56 _ _ _ at cS
  refine cS.mono ?_
  rintro e w' ⟨v, ss, rfl, hS, hrow, hnil, hb⟩
  refine ⟨v, rfl, ?_, hal.trans (hb.mono (by simp))⟩
  rw [names_sorted hr hS, names_enc] at hrow
  have hlen : ss.length = (l.map fun o => o.1).length := by rw [hS.length_eq]; simp [namesL]
  rw [hlen] at hrow
  exact World.ownsRow.mono hrow (by simp)

set_option maxRecDepth 100000 in
set_option maxHeartbeats 1000000 in
theorem snamesN_any {w : World} {b : Nat} {mo : Option Nat} {q : ByteArray → Nat} {s : St} (h : SIn w b mo q s) (hk : Keeps s) : Calls Tryz.prog 22 #[.pointer (some ⟨b, 0, none⟩)] w fun e w' => ∃ v, e = .returned v ∧ w'.ownsRow w.heap.size 9 1 v (s.obs.map fun o => o.1).length ((s.obs.map fun o => o.1).map Value.string) ∧ Below w.heap.size w w' := by
  have c0 := h.block.cells.1
  have cS := sortedN_any mo q s.obs w h.map h.rise hk.many
  have cK := Tryz.mapsKeys mo w
  refine (callsIn_wide (n := 6)).1 ?_
  have hfK : Fence.wide.fn 57 := trivial
  have hfS : Fence.wide.fn 56 := trivial
  refine callsIn_of_wp Tryz.func22 rfl trivial ?_ rfl
  simp only [Tryz.ntmps22, List.size_toArray, List.length_cons, List.length_nil, Nat.reduceAdd, Nat.reduceSub, Array.replicate_succ, Array.replicate_zero, List.push_toArray, List.append_toArray, List.nil_append, List.cons_append]
  clear h hk
  gi_wp2_with (first
    | (gi_at_call 57; refine cK.mono ?_; rintro e w' ⟨rfl, rfl⟩)
    | (gi_at_call 56; refine cS.mono ?_; rintro e w' ⟨v, rfl, hT, hb⟩))
  go_ret
  exact ⟨v, rfl, hT, hb⟩
theorem snames_any {w : World} {b : Nat} {mo : Option Nat} {q : ByteArray → Nat} {s : St} (h : SIn w b mo q s) (hk : Keeps s) : Calls Tryz.prog 22 #[.pointer (some ⟨b, 0, none⟩)] w fun e w' => ∃ v, e = .returned v ∧ TxsAt w' v (s.obs.map fun o => o.1) ∧ Below w.heap.size w w' :=
  (snamesN_any h hk).mono fun _ _ ⟨v, he, ho, hb⟩ => ⟨v, he, txs_of_own ho, hb⟩
end Go.Proofs.YtbdhdlloihkibaaGreatDoor
namespace Go.Proofs.YtbdhdlloihkibaaGreatDoor
open Go.RowKit Go.Extern.Stop Go.Stop Go.Extern

def EMw (w : World) : World → Prop := fun W => Below w.heap.size w W
theorem EMw.errs {w W : World} {a : Nat → Addr} (h : EMw w W) (hE : Errs w a) : Errs W a := hE.below h

theorem coded2_of (v : Value) (c : Int) (w : World) (w1 : World → Prop)
    (hc : Calls Tryz.prog 66 #[v] w fun e w' => e = .returned (.tuple #[.int .i64 c, .int .i64 (-1)]) ∧ w1 w') :
    Calls Tryz.prog 34 #[v, .int .i64 c] w fun e w' => e = .returned (.bool true) ∧ w1 w' := by
  go_enter Tryz.func34, Tryz.ntmps34
  go_wp2_with (go_at_call 66; refine hc.mono ?_; rintro e w' ⟨rfl, hw⟩)
  go_ret
  exact ⟨by simp, hw⟩

theorem coded2_any (W : World) (a : Nat → Addr) (h : Errs W a) (n : Nat) (hn : n ≤ 12) :
    Calls Tryz.prog 34 #[errV a n, .int .i64 n] W fun e w' => e = .returned (.bool true) ∧ Below W.heap.size W w' := by
  cases n with
  | zero =>
    refine (coded2_of .nilIface 0 W (fun w' => w' = W) (code_nil W)).mono fun e w' ⟨he, hw⟩ => ⟨he, ?_⟩
    subst hw
    exact Below.refl _ _
  | succ i =>
    have hi : i < 12 := by omega
    obtain ⟨cp, tp, hp⟩ := h.block i hi
    have hcn : codeNum i = ((i + 1 : Nat) : Int) := by unfold codeNum; rw [if_pos hi]; rfl
    have hc := code_bare W a h (a i) cp tp hp i (fun n hn => ⟨fun e => (h.inj i n hi hn e).symm, fun e => e ▸ rfl⟩)
    rw [hcn] at hc
    exact coded2_of _ _ W _ hc
end Go.Proofs.YtbdhdlloihkibaaGreatDoor
