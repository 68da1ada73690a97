/-
  The program's store in memory: a block of its own, a map of pointers, a block for each object.
-/
import Derived.Test.YtbdhdlloihkibaaGreatDoorRefStore1
import Derived.Maps.OwnSet
import Derived.Maps.Views
import Derived.Maps.Ext
import Derived.Maps.RangeWalk
namespace Go.Proofs.YtbdhdlloihkibaaGreatDoor
open Go.RowKit Go.Extern.Stop Go.Stop Go.Extern Go.Sort Go.Shelf Go.Lib

def ptrD (k : Int) : DataW Unit := .lit (.int .i64 k)
abbrev ptrV (k : Nat) : Value := .pointer (some ⟨k, 0, none⟩)
def ptrR (v : Value) : Option (DataW Unit × List MemPlace) := match v with
  | .pointer (some ⟨k, 0, none⟩) => some (ptrD k, [])
  | .pointer none => some (ptrD (-1), [])
  | _ => none
theorem ptrR_mk (k : Nat) : ptrR (ptrV k) = some (ptrD k, []) := rfl
theorem ptrR_nil : ptrR (.pointer none) = some (ptrD (-1), []) := rfl
theorem ptrR_inv {v : Value} {z : DataW Unit × List MemPlace} (h : ptrR v = some z) : (∃ k : Nat, v = ptrV k ∧ z = (ptrD k, [])) ∨ (v = .pointer none ∧ z = (ptrD (-1), [])) := by
  unfold ptrR at h
  split at h
  · exact Or.inl ⟨_, rfl, (Option.some.inj h).symm⟩
  · exact Or.inr ⟨rfl, (Option.some.inj h).symm⟩
  · cases h
theorem ptrD_inj {k j : Int} (h : ptrD k = ptrD j) : k = j := by simpa [ptrD] using h

def keyL (n : ByteArray) : Lit := .string n.data.toList
def mapQ (q : ByteArray → Nat) (l : List Ob) : DataW Unit := .map (l.map fun o => (keyL o.1, ptrD (q o.1)))
def setQ (q : ByteArray → Nat) (n : ByteArray) (k : Nat) : ByteArray → Nat := fun m => if m = n then k else q m
theorem setQ_same (q : ByteArray → Nat) (n : ByteArray) (k : Nat) : setQ q n k n = k := by simp [setQ]
theorem setQ_other (q : ByteArray → Nat) {n m : ByteArray} (k : Nat) (h : m ≠ n) : setQ q n k m = q m := by simp [setQ, h]
abbrev RiseO (l : List Ob) : Prop := l.Pairwise fun a b => a.1.data.toList < b.1.data.toList

theorem keyL_same (n m : ByteArray) : (keyL n).sameKey (keyL m) = decide (n = m) := by
  show (n.data.toList == m.data.toList) = _
  by_cases h : n = m
  · subst h; simp
  · rw [decide_eq_false h]
    simp only [beq_eq_false_iff_ne]
    exact fun e => h (name_ext e)
theorem keyL_ne {n m : ByteArray} (h : n ≠ m) : keyL n ≠ keyL m := fun e => h (name_ext (by simpa [keyL] using e))

theorem mapQ_has (q : ByteArray → Nat) (l : List Ob) (n : ByteArray) : Maps.has (mapQ q l) (keyL n) = (getO l n).isSome := by
  unfold mapQ getO
  rw [Maps.has_eq, List.any_map]
  have e : ((fun p : Lit × DataW Unit => p.1.sameKey (keyL n)) ∘ fun o : Ob => (keyL o.1, ptrD (q o.1))) = fun o => decide (o.1 = n) := by
    funext o
    exact keyL_same o.1 n
  rw [e, Bool.eq_iff_iff, List.any_eq_true, List.find?_isSome]
theorem mapQ_at (q : ByteArray → Nat) (l : List Ob) (n : ByteArray) (z : DataW Unit) : (mapQ q l).atKey (keyL n) z = if (getO l n).isSome = true then ptrD (q n) else z := by
  unfold mapQ getO DataW.atKey
  dsimp only
  rw [List.find?_map]
  have e : ((fun p : Lit × DataW Unit => p.1.sameKey (keyL n)) ∘ fun o : Ob => (keyL o.1, ptrD (q o.1))) = fun o => decide (o.1 = n) := by
    funext o
    exact keyL_same o.1 n
  rw [e]
  cases h : l.find? fun o => decide (o.1 = n) with
  | none => rfl
  | some o =>
    have := List.find?_some h
    simp only [decide_eq_true_eq] at this
    simp [this]

theorem before_lt : ∀ (a b : List UInt8), a < b → bytesBefore a b = true
  | [], [], h => absurd h (List.lt_irrefl _)
  | [], _ :: _, _ => rfl
  | _ :: _, [], h => by cases h
  | x :: r, y :: s, h => by
    unfold bytesBefore
    rw [List.cons_lt_cons_iff] at h
    rcases h with h | ⟨rfl, h⟩
    · simp [h]
    · simp [before_lt r s h]
theorem mapQ_canon {q : ByteArray → Nat} {l : List Ob} (h : RiseO l) : Maps.Canon (mapQ q l) := by
  refine ⟨_, rfl, ?_, ?_⟩
  · rw [List.pairwise_map]
    exact h.imp fun h' => before_lt _ _ h'
  · intro p hp
    obtain ⟨o, _, rfl⟩ := List.mem_map.1 hp
    exact trivial

theorem lit_key (k : Lit) : (∃ n, k = keyL n) ∨ ∀ q l, Maps.has (mapQ q l) k = false := by
  cases k with
  | string x => exact Or.inl ⟨bytesOf x, by simp [keyL, bytesOf]⟩
  | _ =>
    refine Or.inr fun q l => ?_
    unfold mapQ
    rw [Maps.has_eq, List.any_map]
    apply List.any_eq_false.2
    intro o _
    simp [keyL, Lit.sameKey]

theorem mapQ_put {q : ByteArray → Nat} {l : List Ob} {n t : ByteArray} {d : Int} {k : Nat} (hr : RiseO l) (hn : ∀ p ∈ l, p.1 ≠ n) (hc : Maps.Canon ((mapQ q l).put (keyL n) (ptrD k))) : (mapQ q l).put (keyL n) (ptrD k) = mapQ (setQ q n k) (insO l (n, t, d)) := by
  have hm : Maps.IsMap (mapQ q l) := ⟨_, rfl⟩
  have hh : ∀ z, Maps.has ((mapQ q l).put (keyL n) (ptrD k)) z = Maps.has (mapQ (setQ q n k) (insO l (n, t, d))) z := fun z => by
    rcases lit_key z with ⟨m, rfl⟩ | hk
    · by_cases e : m = n
      · subst e
        rw [Maps.has_put_same hm (show WideAt.IsKeyLit (keyL m) from trivial), mapQ_has, getO_ins (o := (m, t, d)) hr hn]
        rfl
      · rw [Maps.has_put_other (keyL_ne e), mapQ_has, mapQ_has, getO_other (o := (n, t, d)) hr hn e]
    · rw [hk, Maps.has_put_other (fun e => ?_), hk]
      subst e
      have h1 := hk q (insO l (n, t, d))
      rw [mapQ_has, getO_ins (o := (n, t, d)) hr hn] at h1
      cases h1
  refine Maps.ext hc (mapQ_canon (insO_rise (o := (n, t, d)) hr hn)) hh (fun z u hk => ?_)
  rcases lit_key z with ⟨m, rfl⟩ | hk2
  · by_cases e : m = n
    · subst e
      rw [Maps.atKey_put_same hm (show WideAt.IsKeyLit (keyL m) from trivial), mapQ_at, getO_ins (o := (m, t, d)) hr hn, setQ_same]
      rfl
    · rw [Maps.atKey_put_other (keyL_ne e), mapQ_at, mapQ_at, getO_other (o := (n, t, d)) hr hn e, setQ_other _ _ e]
  · rw [hh, hk2] at hk
    cases hk

theorem filter_rise {l : List Ob} {f : Ob → Bool} (h : RiseO l) : RiseO (l.filter f) := h.sublist List.filter_sublist
theorem mapQ_del {q : ByteArray → Nat} {l : List Ob} {n : ByteArray} (hr : RiseO l) (hc : Maps.Canon ((mapQ q l).del (keyL n))) : (mapQ q l).del (keyL n) = mapQ q (l.filter fun o => decide (o.1 ≠ n)) := by
  have hh : ∀ z, Maps.has ((mapQ q l).del (keyL n)) z = Maps.has (mapQ q (l.filter fun o => decide (o.1 ≠ n))) z := fun z => by
    rcases lit_key z with ⟨m, rfl⟩ | hk
    · by_cases e : m = n
      · subst e
        rw [Maps.has_del_same, mapQ_has, getO_drop hr, if_pos rfl]
        rfl
      · rw [Maps.has_del_other (keyL_ne e), mapQ_has, mapQ_has, getO_drop hr, if_neg e]
    · by_cases e : z = keyL n
      · subst e
        rw [Maps.has_del_same, hk]
      · rw [Maps.has_del_other e, hk, hk]
  refine Maps.ext hc (mapQ_canon (filter_rise hr)) hh (fun z u hk => ?_)
  rcases lit_key z with ⟨m, rfl⟩ | hk2
  · by_cases e : m = n
    · subst e
      rw [hh, mapQ_has, getO_drop hr, if_pos rfl] at hk
      cases hk
    · rw [Maps.atKey_del_other (keyL_ne e), mapQ_at, mapQ_at, getO_drop hr, if_neg e]
  · rw [hh, hk2] at hk
    cases hk

theorem mapQ_size (q : ByteArray → Nat) (l : List Ob) : Maps.size (mapQ q l) = l.length := by unfold mapQ; rw [Maps.size_eq, List.length_map]
def PtrMap (w : World) (b : Nat) (q : ByteArray → Nat) (l : List Ob) : Prop := w.ownsMap Tryz.prog 9 ptrR b l.length (mapQ q l)

theorem Tryz.keyedS : Maps.Keyed Tryz.prog 9 := Maps.string_keyed Tryz.underlying9
theorem keyOf_name {n : ByteArray} (h : n.size ≤ maxLen) : keyOf Tryz.prog 9 (.string n) = some (keyL n) := WideMaps.keyOf_string_mk Tryz.underlying9 h

theorem PtrMap.block {w : World} {b : Nat} {q : ByteArray → Nat} {l : List Ob} (h : PtrMap w b q l) : ∃ es clock, w.heap[b]? = some (.map es clock) := by
  obtain ⟨es, clock, hb, _⟩ := h
  exact ⟨es, clock, hb⟩
theorem PtrMap.lt {w : World} {b : Nat} {q : ByteArray → Nat} {l : List Ob} (h : PtrMap w b q l) : b < w.heap.size := World.ownsMap.lt h
theorem PtrMap.keep {w w' : World} {b : Nat} {q : ByteArray → Nat} {l : List Ob} (h : PtrMap w b q l) (hb : w'.heap[b]? = w.heap[b]?) : PtrMap w' b q l := by
  obtain ⟨es, clock, h1, h2, h3, h4⟩ := h
  exact ⟨es, clock, hb.trans h1, h2, h3, h4⟩
def lookP (q : ByteArray → Nat) (l : List Ob) (n : ByteArray) : Value := if (getO l n).isSome = true then ptrV (q n) else .pointer none

theorem Tryz.zeroObj (w : World) : (zeroValue 99).run Tryz.prog w = .ok (.pointer none) w := Tryz.zeroValue99 w

section
variable {w : World} {b : Nat} {q : ByteArray → Nat} {l : List Ob}
theorem PtrMap.look (h : PtrMap w b q l) {n : ByteArray} (hn : n.size ≤ maxLen) :
    (Instr.lookup 64 (.map (some b)) (.string n) false).run Tryz.prog w = .ok (lookP q l n) w := by
  obtain ⟨v, ps, hrun, hv⟩ := World.ownsMap.lookup h Tryz.keyedS Tryz.underlying64 (Tryz.zeroObj w) ptrR_nil (keyOf_name hn)
  rw [hrun]
  rw [mapQ_at] at hv
  unfold lookP
  by_cases hg : (getO l n).isSome = true
  · rw [if_pos hg] at hv ⊢
    rcases ptrR_inv hv with ⟨k, rfl, hz⟩ | ⟨rfl, hz⟩
    · have := ptrD_inj (Prod.mk.inj hz).1
      have : q n = k := by omega
      rw [this]
    · have := ptrD_inj (Prod.mk.inj hz).1
      omega
  · rw [if_neg hg] at hv ⊢
    rcases ptrR_inv hv with ⟨k, rfl, hz⟩ | ⟨rfl, hz⟩
    · have := ptrD_inj (Prod.mk.inj hz).1
      omega
    · rfl
theorem PtrMap.len (h : PtrMap w b q l) (ty : TypeId) : (Builtin.len_ #[64] ty #[.map (some b)]).run Tryz.prog w = .ok (.int .i64 l.length) w := by
  rw [World.ownsMap.len h Tryz.underlying64 ty, mapQ_size]
theorem PtrMap.store (h : PtrMap w b q l) (hr : RiseO l) (hl : l.length < maxLen) {n : ByteArray} (hn : n.size ≤ maxLen) (hne : ∀ p ∈ l, p.1 ≠ n) (t : ByteArray) (d : Int) (k : Nat) :
    ∃ w', (Instr.mapUpdate 64 (.map (some b)) (.string n) (ptrV k)).run Tryz.prog w = .ok () w' ∧ PtrMap w' b (setQ q n k) (insO l (n, t, d)) ∧ w.mapTurned w' b := by
  obtain ⟨w', hrun, ho, hm⟩ := World.ownsMap.store h Tryz.keyedS Tryz.underlying64 hl (keyOf_name hn) (ptrR_mk k)
  refine ⟨w', hrun, ?_, hm⟩
  unfold PtrMap
  rw [← mapQ_put hr hne (World.ownsMap.canon ho Tryz.keyedS), insO_len]
  exact ho
theorem PtrMap.drop (h : PtrMap w b q l) (hr : RiseO l) {n : ByteArray} (hn : n.size ≤ maxLen) (ty : TypeId) :
    ∃ w', (Builtin.delete_ #[64, 9] ty #[.map (some b), .string n]).run Tryz.prog w = .ok (.tuple #[]) w' ∧ PtrMap w' b q (l.filter fun o => decide (o.1 ≠ n)) ∧ w.mapTurned w' b := by
  obtain ⟨w', hrun, ho, hm⟩ := World.ownsMap.drop h Tryz.keyedS Tryz.underlying64 (keyOf_name hn) ty
  refine ⟨w', hrun, ?_, hm⟩
  have e := mapQ_del hr (World.ownsMap.canon ho Tryz.keyedS)
  rw [e] at ho
  unfold PtrMap
  have hs : Maps.size (mapQ q (l.filter fun o => decide (o.1 ≠ n))) ≤ (l.filter fun o => decide (o.1 ≠ n)).length := by rw [mapQ_size]; exact Nat.le_refl _
  obtain ⟨es, clock, h1, h2, h3, h4⟩ := ho
  refine ⟨es, clock, h1, h2, ?_, h4⟩
  rw [h4] at hs
  simpa [Maps.size, length_sorted] using hs
end
theorem PtrMap.made (w : World) (q : ByteArray → Nat) : PtrMap (w.alloc (.map #[] 0)) w.heap.size q [] := World.ownsMap_made w _ _ _

theorem But.of_turned {w w' : World} {b : Nat} (h : w.mapTurned w' b) : But (fun k => k = b) w w' := by
  have g := World.mapTurned.grown h
  exact ⟨g.os, g.tape, g.output, g.size, fun k hk hP => g.block k hk (fun e => hP (Option.some.inj e))⟩

def waitsB (s : St) : Bool := !s.off && decide (0 ≤ s.cut)
def leftI (s : St) : Int := if waitsB s = true then s.cut else 0
def SC (W : World) (b : Nat) (mo : Option Nat) (h : ByteArray) (d : Int) (off waits : Bool) (left : Int) : Prop := W.heap[b]? = some (.cells #[.map mo, .string h, .int .i64 d, .bool off, .bool waits, .int .i64 left] 68 (0, 0))
def ObjsAt (W : World) (q : ByteArray → Nat) (l : List Ob) : Prop := ∀ o ∈ l, W.heap[q o.1]? = some (.cells #[.string o.2.1, .int .i64 o.2.2] 101 (0, 0))
def MapAt (W : World) (mo : Option Nat) (q : ByteArray → Nat) (l : List Ob) : Prop := (mo = none ∧ l = []) ∨ ∃ mb, mo = some mb ∧ PtrMap W mb q l
structure SIn (W : World) (b : Nat) (mo : Option Nat) (q : ByteArray → Nat) (s : St) : Prop where
  block : SC W b mo s.head s.day s.off (waitsB s) (leftI s)
  map : MapAt W mo q s.obs
  objs : ObjsAt W q s.obs
  rise : RiseO s.obs
  cut : s.cut ≤ 9223372036854775807
def fpS (b : Nat) (mo : Option Nat) (q : ByteArray → Nat) (l : List Ob) : Nat → Prop := fun k => k = b ∨ mo = some k ∨ ∃ o ∈ l, q o.1 = k
def SAtP (W : World) (v : Value) (FP : Nat → Prop) (s : St) : Prop := ∃ b mo q, v = .pointer (some ⟨b, 0, none⟩) ∧ FP = fpS b mo q s.obs ∧ SIn W b mo q s

theorem SC.lt {W : World} {b : Nat} {mo : Option Nat} {h : ByteArray} {d : Int} {off waits : Bool} {left : Int} (hs : SC W b mo h d off waits left) : b < W.heap.size := lt_of_block hs
theorem SC.cells {W : World} {b : Nat} {mo : Option Nat} {h : ByteArray} {d : Int} {off waits : Bool} {left : Int} (hs : SC W b mo h d off waits left) : W.cell? ⟨b, 0, none⟩ = some (.map mo) ∧ W.cell? ⟨b, 1, none⟩ = some (.string h) ∧ W.cell? ⟨b, 2, none⟩ = some (.int .i64 d) ∧ W.cell? ⟨b, 3, none⟩ = some (.bool off) ∧ W.cell? ⟨b, 4, none⟩ = some (.bool waits) ∧ W.cell? ⟨b, 5, none⟩ = some (.int .i64 left) ∧ ∀ o, W.frozen? ⟨b, o, none⟩ = false := by
  refine ⟨?_, ?_, ?_, ?_, ?_, ?_, fun o => frozen_of_row _ _ _ _ _ hs⟩ <;> rw [cell_of_row _ _ _ _ _ _ hs] <;> rfl
theorem ObjsAt.cells {W : World} {q : ByteArray → Nat} {l : List Ob} (h : ObjsAt W q l) {o : Ob} (ho : o ∈ l) : W.cell? ⟨q o.1, 0, none⟩ = some (.string o.2.1) ∧ W.cell? ⟨q o.1, 1, none⟩ = some (.int .i64 o.2.2) := by
  refine ⟨?_, ?_⟩ <;> rw [cell_of_row _ _ _ _ _ _ (h o ho)] <;> rfl
theorem ObjsAt.lt {W : World} {q : ByteArray → Nat} {l : List Ob} (h : ObjsAt W q l) {o : Ob} (ho : o ∈ l) : q o.1 < W.heap.size := lt_of_block (h o ho)
theorem ObjsAt.keep {W W' : World} {q : ByteArray → Nat} {l : List Ob} (h : ObjsAt W q l) (hk : ∀ o ∈ l, W'.heap[q o.1]? = W.heap[q o.1]?) : ObjsAt W' q l := fun o ho => (hk o ho).trans (h o ho)
theorem MapAt.keep {W W' : World} {mo : Option Nat} {q : ByteArray → Nat} {l : List Ob} (h : MapAt W mo q l) (hk : ∀ mb, mo = some mb → W'.heap[mb]? = W.heap[mb]?) : MapAt W' mo q l := by
  rcases h with h | ⟨mb, rfl, h⟩
  · exact Or.inl h
  · exact Or.inr ⟨mb, rfl, h.keep (hk mb rfl)⟩
theorem SIn.lt {W : World} {b : Nat} {mo : Option Nat} {q : ByteArray → Nat} {s : St} (h : SIn W b mo q s) {k : Nat} (hk : fpS b mo q s.obs k) : k < W.heap.size := by
  rcases hk with rfl | hk | ⟨o, ho, rfl⟩
  · exact h.block.lt
  · rcases h.map with ⟨e, _⟩ | ⟨mb, rfl, hm⟩
    · rw [e] at hk; cases hk
    · cases hk; exact hm.lt
  · exact h.objs.lt ho
theorem SIn.keep {W W' : World} {b : Nat} {mo : Option Nat} {q : ByteArray → Nat} {s : St} {P : Nat → Prop} (h : SIn W b mo q s) (hB : But P W W') (hP : ∀ k, fpS b mo q s.obs k → ¬ P k) : SIn W' b mo q s := by
  have g : ∀ k, fpS b mo q s.obs k → W'.heap[k]? = W.heap[k]? := fun k hk => hB.block k (h.lt hk) (hP k hk)
  refine ⟨(g b (Or.inl rfl)).trans h.block, h.map.keep fun mb e => g mb (Or.inr (Or.inl e)), h.objs.keep fun o ho => g _ (Or.inr (Or.inr ⟨o, ho, rfl⟩)), h.rise, h.cut⟩
theorem SIn.below {W W' : World} {b : Nat} {mo : Option Nat} {q : ByteArray → Nat} {s : St} (h : SIn W b mo q s) (hB : Below W.heap.size W W') : SIn W' b mo q s :=
  h.keep (But.of_below (P := fun _ => False) hB) fun _ _ h => h

theorem sc_off_map {W : World} {b mb : Nat} {mo : Option Nat} {h : ByteArray} {d : Int} {off waits : Bool} {left : Int} {q : ByteArray → Nat} {l : List Ob} (hs : SC W b mo h d off waits left) (hm : PtrMap W mb q l) : mb ≠ b := by
  rintro rfl
  obtain ⟨es, c, e⟩ := hm.block
  rw [hs] at e
  cases e
theorem sc_off_obj {W : World} {b : Nat} {mo : Option Nat} {h : ByteArray} {d : Int} {off waits : Bool} {left : Int} {q : ByteArray → Nat} {l : List Ob} (hs : SC W b mo h d off waits left) (ho : ObjsAt W q l) {o : Ob} (hm : o ∈ l) : q o.1 ≠ b := by
  rintro rfl
  have e := ho o hm
  rw [hs] at e
  simp at e
theorem map_off_obj {W : World} {mb : Nat} {q : ByteArray → Nat} {l : List Ob} (hm : PtrMap W mb q l) {l' : List Ob} {q' : ByteArray → Nat} (ho : ObjsAt W q' l') {o : Ob} (h : o ∈ l') : q' o.1 ≠ mb := by
  rintro rfl
  obtain ⟨es, c, e⟩ := hm.block
  rw [ho o h] at e
  cases e
theorem SIn.turned {W W' : World} {b : Nat} {mo : Option Nat} {q : ByteArray → Nat} {s s' : St} (h : SIn W b mo q s) (hB : But (fun k => k = b) W W') (hb : SC W' b mo s'.head s'.day s'.off (waitsB s') (leftI s')) (ho : s'.obs = s.obs) (hc : s'.cut ≤ 9223372036854775807) : SIn W' b mo q s' := by
  refine ⟨hb, ?_, ?_, by rw [ho]; exact h.rise, hc⟩
  · rw [ho]
    refine h.map.keep fun mb e => ?_
    rcases h.map with ⟨e', _⟩ | ⟨mb', e', hm⟩
    · rw [e'] at e; cases e
    · rw [e'] at e; cases e
      exact hB.block _ hm.lt (sc_off_map h.block hm)
  · rw [ho]
    exact h.objs.keep fun o hm => hB.block _ (h.objs.lt hm) (sc_off_obj h.block h.objs hm)
theorem spost_of {W w' : World} {b : Nat} {mo mo' : Option Nat} {q q' : ByteArray → Nat} {s s' : St} (h : SIn w' b mo' q' s') (hB : But (fpS b mo q s.obs) W w') (hn : ∀ k, fpS b mo' q' s'.obs k → fpS b mo q s.obs k ∨ W.heap.size ≤ k) :
    ∃ FP', SAtP w' (.pointer (some ⟨b, 0, none⟩)) FP' s' ∧ But (fpS b mo q s.obs) W w' ∧ ∀ k, FP' k → fpS b mo q s.obs k ∨ W.heap.size ≤ k := ⟨_, ⟨b, mo', q', rfl, rfl, h⟩, hB, hn⟩
theorem spost_turned {W w' : World} {b : Nat} {mo : Option Nat} {q : ByteArray → Nat} {s s' : St} (h : SIn W b mo q s) (hB : But (fun k => k = b) W w') (hb : SC w' b mo s'.head s'.day s'.off (waitsB s') (leftI s')) (ho : s'.obs = s.obs) (hc : s'.cut ≤ 9223372036854775807) :
    ∃ FP', SAtP w' (.pointer (some ⟨b, 0, none⟩)) FP' s' ∧ But (fpS b mo q s.obs) W w' ∧ ∀ k, FP' k → fpS b mo q s.obs k ∨ W.heap.size ≤ k :=
  spost_of (h.turned hB hb ho hc) (hB.mono fun _ e => Or.inl e) fun k hk => Or.inl (by rw [ho] at hk; exact hk)
end Go.Proofs.YtbdhdlloihkibaaGreatDoor
