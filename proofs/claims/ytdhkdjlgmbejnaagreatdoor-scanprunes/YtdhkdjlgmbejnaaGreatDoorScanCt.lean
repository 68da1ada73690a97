/-
  What the program's scan has read, in memory: a map of rows by the numbers of their files, a map of keys to numbers; what a file more turns.
-/
import Derived.Maps.OwnSet
import Derived.Maps.Views
import Derived.Maps.Ext
import Derived.Maps.RangeWalk
import Derived.Test.YtdhkdjlgmbejnaaGreatDoorScanMem
import Derived.Maps.OwnIn
import Derived.Sort.KeysCollected
namespace Go.Proofs.YtdhkdjlgmbejnaaGreatDoor
open Go.RowKit Go.Extern.Stop Go.Stop Go.Extern Go.Sort Go.Shelf Go.Lib

def ptrD (k : Int) : DataW Unit := .lit (.int .i64 k)
abbrev ptrV (k : Nat) : Value := .pointer (some ⟨k, 0, none⟩)
def ptrR (v : Value) : Option (DataW Unit × List MemPlace) := match v with
  | .pointer (some ⟨k, 0, none⟩) => some (ptrD k, [])
  | .pointer none => some (ptrD (-1), [])
  | _ => none
theorem ptrR_mk (k : Nat) : ptrR (ptrV k) = some (ptrD k, []) := rfl
theorem ptrR_nil : ptrR (.pointer none) = some (ptrD (-1), []) := rfl
theorem ptrR_inv {v : Value} {z : DataW Unit × List MemPlace} (h : ptrR v = some z) : (∃ k : Nat, v = ptrV k ∧ z = (ptrD k, [])) ∨ (v = .pointer none ∧ z = (ptrD (-1), [])) := by
  unfold ptrR at h
  split at h
  · exact Or.inl ⟨_, rfl, (Option.some.inj h).symm⟩
  · exact Or.inr ⟨rfl, (Option.some.inj h).symm⟩
  · cases h
theorem ptrD_inj {k j : Int} (h : ptrD k = ptrD j) : k = j := by simpa [ptrD] using h

def keyL (n : ByteArray) : Lit := .string n.data.toList
def mapQ (q : ByteArray → Nat) (l : List Ob) : DataW Unit := .map (l.map fun o => (keyL o.1, ptrD (q o.1)))
def setQ (q : ByteArray → Nat) (n : ByteArray) (k : Nat) : ByteArray → Nat := fun m => if m = n then k else q m
theorem setQ_same (q : ByteArray → Nat) (n : ByteArray) (k : Nat) : setQ q n k n = k := by simp [setQ]
theorem setQ_other (q : ByteArray → Nat) {n m : ByteArray} (k : Nat) (h : m ≠ n) : setQ q n k m = q m := by simp [setQ, h]
abbrev RiseO (l : List Ob) : Prop := l.Pairwise fun a b => a.1.data.toList < b.1.data.toList

theorem keyL_same (n m : ByteArray) : (keyL n).sameKey (keyL m) = decide (n = m) := by
  show (n.data.toList == m.data.toList) = _
  by_cases h : n = m
  · subst h; simp
  · rw [decide_eq_false h]
    simp only [beq_eq_false_iff_ne]
    exact fun e => h (name_ext e)
theorem keyL_ne {n m : ByteArray} (h : n ≠ m) : keyL n ≠ keyL m := fun e => h (name_ext (by simpa [keyL] using e))

theorem mapQ_has (q : ByteArray → Nat) (l : List Ob) (n : ByteArray) : Maps.has (mapQ q l) (keyL n) = (getO l n).isSome := by
  unfold mapQ getO
  rw [Maps.has_eq, List.any_map]
  have e : ((fun p : Lit × DataW Unit => p.1.sameKey (keyL n)) ∘ fun o : Ob => (keyL o.1, ptrD (q o.1))) = fun o => decide (o.1 = n) := by
    funext o
    exact keyL_same o.1 n
  rw [e, Bool.eq_iff_iff, List.any_eq_true, List.find?_isSome]
theorem mapQ_at (q : ByteArray → Nat) (l : List Ob) (n : ByteArray) (z : DataW Unit) : (mapQ q l).atKey (keyL n) z = if (getO l n).isSome = true then ptrD (q n) else z := by
  unfold mapQ getO DataW.atKey
  dsimp only
  rw [List.find?_map]
  have e : ((fun p : Lit × DataW Unit => p.1.sameKey (keyL n)) ∘ fun o : Ob => (keyL o.1, ptrD (q o.1))) = fun o => decide (o.1 = n) := by
    funext o
    exact keyL_same o.1 n
  rw [e]
  cases h : l.find? fun o => decide (o.1 = n) with
  | none => rfl
  | some o =>
    have := List.find?_some h
    simp only [decide_eq_true_eq] at this
    simp [this]

theorem before_lt : ∀ (a b : List UInt8), a < b → bytesBefore a b = true
  | [], [], h => absurd h (List.lt_irrefl _)
  | [], _ :: _, _ => rfl
  | _ :: _, [], h => by cases h
  | x :: r, y :: s, h => by
    unfold bytesBefore
    rw [List.cons_lt_cons_iff] at h
    rcases h with h | ⟨rfl, h⟩
    · simp [h]
    · simp [before_lt r s h]
theorem mapQ_canon {q : ByteArray → Nat} {l : List Ob} (h : RiseO l) : Maps.Canon (mapQ q l) := by
  refine ⟨_, rfl, ?_, ?_⟩
  · rw [List.pairwise_map]
    exact h.imp fun h' => before_lt _ _ h'
  · intro p hp
    obtain ⟨o, _, rfl⟩ := List.mem_map.1 hp
    exact trivial

theorem lit_key (k : Lit) : (∃ n, k = keyL n) ∨ ∀ q l, Maps.has (mapQ q l) k = false := by
  cases k with
  | string x => exact Or.inl ⟨bytesOf x, by simp [keyL, bytesOf]⟩
  | _ =>
    refine Or.inr fun q l => ?_
    unfold mapQ
    rw [Maps.has_eq, List.any_map]
    apply List.any_eq_false.2
    intro o _
    simp [keyL, Lit.sameKey]

theorem mapQ_put {q : ByteArray → Nat} {l : List Ob} {n t : ByteArray} {d : Int} {k : Nat} (hr : RiseO l) (hn : ∀ p ∈ l, p.1 ≠ n) (hc : Maps.Canon ((mapQ q l).put (keyL n) (ptrD k))) : (mapQ q l).put (keyL n) (ptrD k) = mapQ (setQ q n k) (insO l (n, t, d)) := by
  have hm : Maps.IsMap (mapQ q l) := ⟨_, rfl⟩
  have hh : ∀ z, Maps.has ((mapQ q l).put (keyL n) (ptrD k)) z = Maps.has (mapQ (setQ q n k) (insO l (n, t, d))) z := fun z => by
    rcases lit_key z with ⟨m, rfl⟩ | hk
    · by_cases e : m = n
      · subst e
        rw [Maps.has_put_same hm (show WideAt.IsKeyLit (keyL m) from trivial), mapQ_has, getO_ins (o := (m, t, d)) hr hn]
        rfl
      · rw [Maps.has_put_other (keyL_ne e), mapQ_has, mapQ_has, getO_other (o := (n, t, d)) hr hn e]
    · rw [hk, Maps.has_put_other (fun e => ?_), hk]
      subst e
      have h1 := hk q (insO l (n, t, d))
      rw [mapQ_has, getO_ins (o := (n, t, d)) hr hn] at h1
      cases h1
  refine Maps.ext hc (mapQ_canon (insO_rise (o := (n, t, d)) hr hn)) hh (fun z u hk => ?_)
  rcases lit_key z with ⟨m, rfl⟩ | hk2
  · by_cases e : m = n
    · subst e
      rw [Maps.atKey_put_same hm (show WideAt.IsKeyLit (keyL m) from trivial), mapQ_at, getO_ins (o := (m, t, d)) hr hn, setQ_same]
      rfl
    · rw [Maps.atKey_put_other (keyL_ne e), mapQ_at, mapQ_at, getO_other (o := (n, t, d)) hr hn e, setQ_other _ _ e]
  · rw [hh, hk2] at hk
    cases hk

theorem mapQ_size (q : ByteArray → Nat) (l : List Ob) : Maps.size (mapQ q l) = l.length := by unfold mapQ; rw [Maps.size_eq, List.length_map]
def PtrMap (w : World) (b : Nat) (q : ByteArray → Nat) (l : List Ob) : Prop := w.ownsMap Tryz.prog 9 ptrR b l.length (mapQ q l)

theorem Tryz.keyedS : Maps.Keyed Tryz.prog 9 := Maps.string_keyed Tryz.underlying9
theorem keyOf_name {n : ByteArray} (h : n.size ≤ maxLen) : keyOf Tryz.prog 9 (.string n) = some (keyL n) := WideMaps.keyOf_string_mk Tryz.underlying9 h

theorem PtrMap.block {w : World} {b : Nat} {q : ByteArray → Nat} {l : List Ob} (h : PtrMap w b q l) : ∃ es clock, w.heap[b]? = some (.map es clock) := by
  obtain ⟨es, clock, hb, _⟩ := h
  exact ⟨es, clock, hb⟩
theorem PtrMap.lt {w : World} {b : Nat} {q : ByteArray → Nat} {l : List Ob} (h : PtrMap w b q l) : b < w.heap.size := World.ownsMap.lt h
theorem PtrMap.keep {w w' : World} {b : Nat} {q : ByteArray → Nat} {l : List Ob} (h : PtrMap w b q l) (hb : w'.heap[b]? = w.heap[b]?) : PtrMap w' b q l := by
  obtain ⟨es, clock, h1, h2, h3, h4⟩ := h
  exact ⟨es, clock, hb.trans h1, h2, h3, h4⟩
def lookP (q : ByteArray → Nat) (l : List Ob) (n : ByteArray) : Value := if (getO l n).isSome = true then ptrV (q n) else .pointer none

theorem Tryz.zeroObj (w : World) : (zeroValue 140).run Tryz.prog w = .ok (.pointer none) w := Tryz.zeroValue140 w

section
variable {w : World} {b : Nat} {q : ByteArray → Nat} {l : List Ob}
theorem PtrMap.look (h : PtrMap w b q l) {n : ByteArray} (hn : n.size ≤ maxLen) :
    (Instr.lookup 123 (.map (some b)) (.string n) false).run Tryz.prog w = .ok (lookP q l n) w := by
  obtain ⟨v, ps, hrun, hv⟩ := World.ownsMap.lookup h Tryz.keyedS Tryz.underlying123 (Tryz.zeroObj w) ptrR_nil (keyOf_name hn)
  rw [hrun]
  rw [mapQ_at] at hv
  unfold lookP
  by_cases hg : (getO l n).isSome = true
  · rw [if_pos hg] at hv ⊢
    rcases ptrR_inv hv with ⟨k, rfl, hz⟩ | ⟨rfl, hz⟩
    · have := ptrD_inj (Prod.mk.inj hz).1
      have : q n = k := by omega
      rw [this]
    · have := ptrD_inj (Prod.mk.inj hz).1
      omega
  · rw [if_neg hg] at hv ⊢
    rcases ptrR_inv hv with ⟨k, rfl, hz⟩ | ⟨rfl, hz⟩
    · have := ptrD_inj (Prod.mk.inj hz).1
      omega
    · rfl
theorem PtrMap.len (h : PtrMap w b q l) (ty : TypeId) : (Builtin.len_ #[123] ty #[.map (some b)]).run Tryz.prog w = .ok (.int .i64 l.length) w := by
  rw [World.ownsMap.len h Tryz.underlying123 ty, mapQ_size]
theorem PtrMap.store (h : PtrMap w b q l) (hr : RiseO l) (hl : l.length < maxLen) {n : ByteArray} (hn : n.size ≤ maxLen) (hne : ∀ p ∈ l, p.1 ≠ n) (t : ByteArray) (d : Int) (k : Nat) :
    ∃ w', (Instr.mapUpdate 123 (.map (some b)) (.string n) (ptrV k)).run Tryz.prog w = .ok () w' ∧ PtrMap w' b (setQ q n k) (insO l (n, t, d)) ∧ w.mapTurned w' b := by
  obtain ⟨w', hrun, ho, hm⟩ := World.ownsMap.store h Tryz.keyedS Tryz.underlying123 hl (keyOf_name hn) (ptrR_mk k)
  refine ⟨w', hrun, ?_, hm⟩
  unfold PtrMap
  rw [← mapQ_put hr hne (World.ownsMap.canon ho Tryz.keyedS), insO_len]
  exact ho
end
theorem PtrMap.made (w : World) (q : ByteArray → Nat) : PtrMap (w.alloc (.map #[] 0)) w.heap.size q [] := World.ownsMap_made w _ _ _

theorem But.of_turned {w w' : World} {b : Nat} (h : w.mapTurned w' b) : But (fun k => k = b) w w' := by
  have g := World.mapTurned.grown h
  exact ⟨g.os, g.tape, g.output, g.size, fun k hk hP => g.block k hk (fun e => hP (Option.some.inj e))⟩

def waitsB (s : St) : Bool := !s.off && decide (0 ≤ s.cut)
def leftI (s : St) : Int := if waitsB s = true then s.cut else 0
def SC (W : World) (b : Nat) (mo : Option Nat) (h : ByteArray) (d : Int) (off waits : Bool) (left : Int) : Prop := W.heap[b]? = some (.cells #[.map mo, .string h, .int .i64 d, .bool off, .bool waits, .int .i64 left] 127 (0, 0))
def ObjsAt (W : World) (q : ByteArray → Nat) (l : List Ob) : Prop := ∀ o ∈ l, W.heap[q o.1]? = some (.cells #[.string o.2.1, .int .i64 o.2.2] 142 (0, 0))
def MapAt (W : World) (mo : Option Nat) (q : ByteArray → Nat) (l : List Ob) : Prop := (mo = none ∧ l = []) ∨ ∃ mb, mo = some mb ∧ PtrMap W mb q l
structure SIn (W : World) (b : Nat) (mo : Option Nat) (q : ByteArray → Nat) (s : St) : Prop where
  block : SC W b mo s.head s.day s.off (waitsB s) (leftI s)
  map : MapAt W mo q s.obs
  objs : ObjsAt W q s.obs
  rise : RiseO s.obs
  cut : s.cut ≤ 9223372036854775807
def fpS (b : Nat) (mo : Option Nat) (q : ByteArray → Nat) (l : List Ob) : Nat → Prop := fun k => k = b ∨ mo = some k ∨ ∃ o ∈ l, q o.1 = k
def SAtP (W : World) (v : Value) (FP : Nat → Prop) (s : St) : Prop := ∃ b mo q, v = .pointer (some ⟨b, 0, none⟩) ∧ FP = fpS b mo q s.obs ∧ SIn W b mo q s

theorem SC.lt {W : World} {b : Nat} {mo : Option Nat} {h : ByteArray} {d : Int} {off waits : Bool} {left : Int} (hs : SC W b mo h d off waits left) : b < W.heap.size := lt_of_block hs
theorem SC.cells {W : World} {b : Nat} {mo : Option Nat} {h : ByteArray} {d : Int} {off waits : Bool} {left : Int} (hs : SC W b mo h d off waits left) : W.cell? ⟨b, 0, none⟩ = some (.map mo) ∧ W.cell? ⟨b, 1, none⟩ = some (.string h) ∧ W.cell? ⟨b, 2, none⟩ = some (.int .i64 d) ∧ W.cell? ⟨b, 3, none⟩ = some (.bool off) ∧ W.cell? ⟨b, 4, none⟩ = some (.bool waits) ∧ W.cell? ⟨b, 5, none⟩ = some (.int .i64 left) ∧ ∀ o, W.frozen? ⟨b, o, none⟩ = false := by
  refine ⟨?_, ?_, ?_, ?_, ?_, ?_, fun o => frozen_of_row _ _ _ _ _ hs⟩ <;> rw [cell_of_row _ _ _ _ _ _ hs] <;> rfl
theorem ObjsAt.cells {W : World} {q : ByteArray → Nat} {l : List Ob} (h : ObjsAt W q l) {o : Ob} (ho : o ∈ l) : W.cell? ⟨q o.1, 0, none⟩ = some (.string o.2.1) ∧ W.cell? ⟨q o.1, 1, none⟩ = some (.int .i64 o.2.2) := by
  refine ⟨?_, ?_⟩ <;> rw [cell_of_row _ _ _ _ _ _ (h o ho)] <;> rfl
theorem ObjsAt.lt {W : World} {q : ByteArray → Nat} {l : List Ob} (h : ObjsAt W q l) {o : Ob} (ho : o ∈ l) : q o.1 < W.heap.size := lt_of_block (h o ho)
theorem ObjsAt.keep {W W' : World} {q : ByteArray → Nat} {l : List Ob} (h : ObjsAt W q l) (hk : ∀ o ∈ l, W'.heap[q o.1]? = W.heap[q o.1]?) : ObjsAt W' q l := fun o ho => (hk o ho).trans (h o ho)
theorem MapAt.keep {W W' : World} {mo : Option Nat} {q : ByteArray → Nat} {l : List Ob} (h : MapAt W mo q l) (hk : ∀ mb, mo = some mb → W'.heap[mb]? = W.heap[mb]?) : MapAt W' mo q l := by
  rcases h with h | ⟨mb, rfl, h⟩
  · exact Or.inl h
  · exact Or.inr ⟨mb, rfl, h.keep (hk mb rfl)⟩
theorem SIn.lt {W : World} {b : Nat} {mo : Option Nat} {q : ByteArray → Nat} {s : St} (h : SIn W b mo q s) {k : Nat} (hk : fpS b mo q s.obs k) : k < W.heap.size := by
  rcases hk with rfl | hk | ⟨o, ho, rfl⟩
  · exact h.block.lt
  · rcases h.map with ⟨e, _⟩ | ⟨mb, rfl, hm⟩
    · rw [e] at hk; cases hk
    · cases hk; exact hm.lt
  · exact h.objs.lt ho
theorem SIn.keep {W W' : World} {b : Nat} {mo : Option Nat} {q : ByteArray → Nat} {s : St} {P : Nat → Prop} (h : SIn W b mo q s) (hB : But P W W') (hP : ∀ k, fpS b mo q s.obs k → ¬ P k) : SIn W' b mo q s := by
  have g : ∀ k, fpS b mo q s.obs k → W'.heap[k]? = W.heap[k]? := fun k hk => hB.block k (h.lt hk) (hP k hk)
  refine ⟨(g b (Or.inl rfl)).trans h.block, h.map.keep fun mb e => g mb (Or.inr (Or.inl e)), h.objs.keep fun o ho => g _ (Or.inr (Or.inr ⟨o, ho, rfl⟩)), h.rise, h.cut⟩
theorem SIn.below {W W' : World} {b : Nat} {mo : Option Nat} {q : ByteArray → Nat} {s : St} (h : SIn W b mo q s) (hB : Below W.heap.size W W') : SIn W' b mo q s :=
  h.keep (But.of_below (P := fun _ => False) hB) fun _ _ h => h

theorem sc_off_map {W : World} {b mb : Nat} {mo : Option Nat} {h : ByteArray} {d : Int} {off waits : Bool} {left : Int} {q : ByteArray → Nat} {l : List Ob} (hs : SC W b mo h d off waits left) (hm : PtrMap W mb q l) : mb ≠ b := by
  rintro rfl
  obtain ⟨es, c, e⟩ := hm.block
  rw [hs] at e
  cases e
theorem sc_off_obj {W : World} {b : Nat} {mo : Option Nat} {h : ByteArray} {d : Int} {off waits : Bool} {left : Int} {q : ByteArray → Nat} {l : List Ob} (hs : SC W b mo h d off waits left) (ho : ObjsAt W q l) {o : Ob} (hm : o ∈ l) : q o.1 ≠ b := by
  rintro rfl
  have e := ho o hm
  rw [hs] at e
  simp at e
theorem map_off_obj {W : World} {mb : Nat} {q : ByteArray → Nat} {l : List Ob} (hm : PtrMap W mb q l) {l' : List Ob} {q' : ByteArray → Nat} (ho : ObjsAt W q' l') {o : Ob} (h : o ∈ l') : q' o.1 ≠ mb := by
  rintro rfl
  obtain ⟨es, c, e⟩ := hm.block
  rw [ho o h] at e
  cases e
theorem spost_of {W w' : World} {b : Nat} {mo mo' : Option Nat} {q q' : ByteArray → Nat} {s s' : St} (h : SIn w' b mo' q' s') (hB : But (fpS b mo q s.obs) W w') (hn : ∀ k, fpS b mo' q' s'.obs k → fpS b mo q s.obs k ∨ W.heap.size ≤ k) :
    ∃ FP', SAtP w' (.pointer (some ⟨b, 0, none⟩)) FP' s' ∧ But (fpS b mo q s.obs) W w' ∧ ∀ k, FP' k → fpS b mo q s.obs k ∨ W.heap.size ≤ k := ⟨_, ⟨b, mo', q', rfl, rfl, h⟩, hB, hn⟩
end Go.Proofs.YtdhkdjlgmbejnaaGreatDoor
namespace Go.Proofs.YtdhkdjlgmbejnaaGreatDoor
open Go.RowKit Go.Extern.Stop Go.Stop Go.Extern Go.Sort Go.Shelf Go.Lib

def hdQ : Value → Option (DataW Unit × List MemPlace)
  | .slice none 0 0 => some (.nil, [])
  | .slice (some ⟨g, 0, none⟩) n c => some (.agg [.lit (.int .i64 g), .lit (.int .i64 n), .lit (.int .i64 c)], [])
  | _ => none
theorem hdQ_places {v : Value} {z : DataW Unit × List MemPlace} (h : hdQ v = some z) : z.2 = [] := by
  unfold hdQ at h
  split at h
  · cases h; rfl
  · cases h; rfl
  · cases h
theorem hdQ_inj {v v' : Value} {z : DataW Unit × List MemPlace} (h : hdQ v = some z) (h' : hdQ v' = some z) : v = v' := by
  unfold hdQ at h
  split at h
  · cases h
    unfold hdQ at h'
    split at h'
    · rfl
    · cases h'
    · cases h'
  · cases h
    unfold hdQ at h'
    split at h'
    · cases h'
    · simp only [Option.some.injEq, Prod.mk.injEq, and_true, DataW.agg.injEq, List.cons.injEq, DataW.lit.injEq, Lit.int.injEq, true_and] at h'
      obtain ⟨e1, e2, e3⟩ := h'
      have e1' := Int.ofNat.inj e1
      have e2' := Int.ofNat.inj e2
      have e3' := Int.ofNat.inj e3
      subst e1' e2' e3'
      rfl
    · cases h'
  · cases h
theorem hdQ_form {v : Value} {z : DataW Unit × List MemPlace} (h : hdQ v = some z) : ∃ q n c, v = .slice q n c := by
  unfold hdQ at h
  split at h
  · exact ⟨_, _, _, rfl⟩
  · exact ⟨_, _, _, rfl⟩
  · cases h
theorem hdQ_own {W : World} {base : Nat} {e : TypeId} {size : Nat} {v : Value} {n : Nat} {xs : List Value} (h : W.ownsRow base e size v n xs) : ∃ d, hdQ v = some (d, []) := by
  rcases h.2 with ⟨e, _⟩ | ⟨g, cap, cur, e, _⟩
  · exact ⟨_, by rw [e]; rfl⟩
  · exact ⟨_, by rw [e]; rfl⟩
theorem own_in {W : World} {base : Nat} {e : TypeId} {size : Nat} {v : Value} {n : Nat} {xs : List Value} (h : W.ownsRow base e size v n xs) {g : Nat} (hg : v.ownBlock = some g) : base ≤ g ∧ g < W.heap.size := by
  obtain ⟨h1, cur, h2⟩ := own_cur h hg
  exact ⟨h1, (Array.getElem?_eq_some_iff.1 h2).1⟩

theorem Tryz.keyedI : Maps.Keyed Tryz.prog 3 := Maps.int_keyed Tryz.underlying3
theorem Tryz.zeroRows2 (w : World) : (zeroValue 33).run Tryz.prog w = .ok (.slice none 0 0) w := by kernel_rfl
theorem Tryz.zeroInt2 (w : World) : (zeroValue 3).run Tryz.prog w = .ok (.int .i64 0) w := by kernel_rfl
theorem wf_mk {z : Int} (h1 : -9223372036854775808 ≤ z) (h2 : z ≤ 9223372036854775807) : (Lit.int .i64 z).wf = true := by
  have h := wrap64_wf z
  have e : wrap64 z = z := by unfold wrap64; omega
  rw [e] at h
  exact h
theorem key_int {z : Int} (h1 : -9223372036854775808 ≤ z) (h2 : z ≤ 9223372036854775807) : keyOf Tryz.prog 3 (.int .i64 z) = some (.int .i64 z) := Maps.keyOf_int_mk Tryz.underlying3 (wf_mk h1 h2)

structure Gri (W : World) (base bm : Nat) (ys : List (Rw × Int)) (qs : List Int) (D : DataW Unit) (hv : Int → Value) : Prop where
  map : W.ownsMap Tryz.prog 3 hdQ bm qs.length D
  isMap : Maps.IsMap D
  hd : ∀ z, hdQ (hv z) = some (D.atKey (.int .i64 z) .nil, [])
  has : ∀ z, Maps.has D (.int .i64 z) = true ↔ z ∈ qs
  own : ∀ z, W.ownsRow base 54 3 (hv z) (rowsQ ys z).length (flatR (rowsQ ys z))
  apart : ∀ x y, x ≠ y → (hv x).ownBlock = none ∨ (hv x).ownBlock ≠ (hv y).ownBlock
  low : bm < base
  all : ∀ p ∈ ys, p.2 ∈ qs

theorem Gri.keep {W W' : World} {base bm : Nat} {ys : List (Rw × Int)} {qs : List Int} {D : DataW Unit} {hv : Int → Value} (h : Gri W base bm ys qs D hv) (hm : W'.heap[bm]? = W.heap[bm]?) (hr : ∀ z g, (hv z).ownBlock = some g → W'.heap[g]? = W.heap[g]?) : Gri W' base bm ys qs D hv where
  map := by
    obtain ⟨es, clock, hm', r⟩ := h.map
    exact ⟨es, clock, hm.trans hm', r⟩
  isMap := h.isMap
  hd := h.hd
  has := h.has
  own := fun z => by
    obtain ⟨h1, h3⟩ := h.own z
    refine ⟨h1, ?_⟩
    rcases h3 with h3 | ⟨g, cap, cur, hv', hb, hc, r⟩
    · exact Or.inl h3
    · exact Or.inr ⟨g, cap, cur, hv', hb, (hr z g (by rw [hv']; rfl)).trans hc, r⟩
  apart := h.apart
  low := h.low
  all := h.all
theorem Gri.below {W W' : World} {base bm : Nat} {ys : List (Rw × Int)} {qs : List Int} {D : DataW Unit} {hv : Int → Value} (h : Gri W base bm ys qs D hv) (hb : Below W.heap.size W W') : Gri W' base bm ys qs D hv :=
  h.keep (hb.block bm h.map.lt) fun z g hg => hb.block g (own_in (h.own z) hg).2
theorem Gri.made (W : World) (bm base : Nat) (hm : W.ownsMap Tryz.prog 3 hdQ bm 0 (.map [])) (hb : bm < base) : Gri W base bm [] [] (.map []) (fun _ => .slice none 0 0) where
  map := hm
  isMap := Maps.isMap_empty
  hd := fun _ => rfl
  has := fun z => by simp [Maps.has]
  own := fun z => by simp [rowsQ, flatR]; exact World.ownsRow_nil _ _ _ _
  apart := fun _ _ _ => Or.inl rfl
  low := hb
  all := fun p hp => by cases hp
theorem Gri.look {W : World} {base bm : Nat} {ys : List (Rw × Int)} {qs : List Int} {D : DataW Unit} {hv : Int → Value} (h : Gri W base bm ys qs D hv) {z : Int} (h1 : -9223372036854775808 ≤ z) (h2 : z ≤ 9223372036854775807) :
    (Instr.lookup 85 (.map (some bm)) (.int .i64 z) false).run Tryz.prog W = .ok (hv z) W := by
  obtain ⟨v, ps, hrun, hR⟩ := h.map.lookup Tryz.keyedI Tryz.underlying85 (Tryz.zeroRows2 W) (zd := .nil) (zp := []) rfl (key_int h1 h2)
  have hp := hdQ_places hR
  simp only at hp
  subst hp
  rw [hrun, hdQ_inj hR (h.hd z)]

theorem Gri.step {W W3 W4 : World} {base bm : Nat} {ys : List (Rw × Int)} {qs : List Int} {D : DataW Unit} {hv : Int → Value} (h : Gri W base bm ys qs D hv) (q : Int) (l : List Rw) (v' : Value) (d : DataW Unit)
    (hrow : W3.ownsRow base 54 3 v' ((rowsQ ys q).length + l.length) (flatR (rowsQ ys q) ++ flatR l))
    (hg : W.grownBy W3 (hv q).ownBlock) (hat : v'.ownBlock = (hv q).ownBlock ∨ v'.ownBlock = some W.heap.size)
    (hm : W4.ownsMap Tryz.prog 3 hdQ bm (qs.length + 1) (D.put (.int .i64 q) d)) (hg2 : W3.grownBy W4 (some bm)) (hd : hdQ v' = some (d, [])) :
    Gri W4 base bm (ys ++ l.map fun r => (r, q)) (q :: qs) (D.put (.int .i64 q) d) (fun m => if m = q then v' else hv m) := by
  have nb : ∀ {v : Value} {n : Nat} {l : List Value}, W3.ownsRow base 54 3 v n l → v.ownBlock = none ∨ v.ownBlock ≠ some bm := fun {v n l} hr => by
    cases hv' : v.ownBlock with
    | none => exact Or.inl rfl
    | some g =>
      refine Or.inr fun e => ?_
      have := (own_in hr hv').1
      have hl := h.low
      simp only [Option.some.injEq] at e
      omega
  have hne : ∀ {x y : Int}, x ≠ y → Lit.int .i64 x ≠ Lit.int .i64 y := fun h e => h (by injection e)
  refine ⟨hm, h.isMap.put _ _, fun m => ?_, fun m => ?_, fun m => ?_, fun x' y' hxy => ?_, h.low, fun p hp => ?_⟩
  · by_cases e : m = q
    · subst e
      rw [if_pos rfl, Maps.atKey_put_same h.isMap (show WideAt.IsKeyLit (.int .i64 m) from trivial)]
      exact hd
    · rw [if_neg e, Maps.atKey_put_other (hne e)]
      exact h.hd m
  · by_cases e : m = q
    · subst e
      rw [Maps.has_put_same h.isMap (show WideAt.IsKeyLit (.int .i64 m) from trivial)]
      simp
    · rw [Maps.has_put_other (hne e), List.mem_cons]
      rw [h.has m]
      simp [e]
  · rw [rowsQ_append]
    by_cases e : m = q
    · subst e
      rw [if_pos rfl, rowsQ_same, List.length_append, flat_append]
      exact hrow.kept hg2 (nb hrow)
    · rw [if_neg e, rowsQ_other l q m e, List.append_nil]
      have h3 := (h.own m).kept hg (h.apart m q e)
      exact h3.kept hg2 (nb h3)
  · by_cases e1 : x' = q
    · subst e1
      rw [if_pos rfl, if_neg (fun e' => hxy e'.symm)]
      rcases hat with hat | hat
      · rw [hat]; exact h.apart _ _ hxy
      · rw [hat]
        refine Or.inr fun e => ?_
        have := (own_in (h.own y') e.symm).2
        omega
    · rw [if_neg e1]
      by_cases e2 : y' = q
      · subst e2
        rw [if_pos rfl]
        rcases hat with hat | hat
        · rw [hat]; exact h.apart _ _ hxy
        · rw [hat]
          cases hb : (hv x').ownBlock with
          | none => exact Or.inl rfl
          | some g =>
            refine Or.inr fun e => ?_
            have := (own_in (h.own x') hb).2
            simp only [Option.some.injEq] at e
            omega
      · rw [if_neg e2]
        exact h.apart _ _ hxy
  · rw [List.mem_append] at hp
    rcases hp with hp | hp
    · exact List.mem_cons_of_mem _ (h.all p hp)
    · obtain ⟨r, _, rfl⟩ := List.mem_map.1 hp
      exact List.mem_cons_self

structure Las (W : World) (bm : Nat) (l : List (Int × Int)) (D : DataW Unit) : Prop where
  map : W.ownsMap Tryz.prog 3 (plainElem Tryz.prog 3) bm l.length D
  isMap : Maps.IsMap D
  at_ : ∀ z, D.atKey (.int .i64 z) (.lit (.int .i64 0)) = .lit (.int .i64 (lastC l z))
  bnd : ∀ p ∈ l, p.2 ≤ 1073741824
theorem Las.keep {W W' : World} {bm : Nat} {l : List (Int × Int)} {D : DataW Unit} (h : Las W bm l D) (hm : W'.heap[bm]? = W.heap[bm]?) : Las W' bm l D where
  map := by
    obtain ⟨es, clock, hm', r⟩ := h.map
    exact ⟨es, clock, hm.trans hm', r⟩
  isMap := h.isMap
  at_ := h.at_
  bnd := h.bnd
theorem Las.made (W : World) (bm : Nat) (hm : W.ownsMap (H := Unit) Tryz.prog 3 (plainElem Tryz.prog 3) bm 0 (.map [])) : Las W bm [] (.map []) where
  map := hm
  isMap := Maps.isMap_empty
  at_ := fun _ => rfl
  bnd := fun p hp => by cases hp
theorem Las.look {W : World} {bm : Nat} {l : List (Int × Int)} {D : DataW Unit} (h : Las W bm l D) {z : Int} (h1 : -9223372036854775808 ≤ z) (h2 : z ≤ 9223372036854775807) :
    (Instr.lookup 86 (.map (some bm)) (.int .i64 z) false).run Tryz.prog W = .ok (.int .i64 (lastC l z)) W := by
  obtain ⟨c, hrun, hat, _⟩ := h.map.lookup_int Tryz.keyedI Tryz.underlying86 Tryz.underlying3 (Tryz.zeroInt2 W) (key_int h1 h2)
  rw [h.at_ z] at hat
  have : lastC l z = c := by simpa using hat
  rw [this]
  exact hrun
set_option maxRecDepth 100000 in
theorem Las.step {W : World} {bm : Nat} {l : List (Int × Int)} {D : DataW Unit} (h : Las W bm l D) {z q : Int} (h1 : -9223372036854775808 ≤ z) (h2 : z ≤ 9223372036854775807) (hl : l.length < 1000000) (hq : 0 ≤ q ∧ q ≤ 1073741824) :
    ∃ w', (Instr.mapUpdate 86 (.map (some bm)) (.int .i64 z) (.int .i64 (max (lastC l z) q))).run Tryz.prog W = .ok () w' ∧ (∃ D', Las w' bm (l ++ [(z, q)]) D') ∧ W.mapTurned w' bm := by
  have hlc := lastC_bound h.bnd (by omega) z
  obtain ⟨w', hrun, ho, ht⟩ := h.map.store Tryz.keyedI Tryz.underlying86 (by unfold maxLen; omega) (key_int h1 h2) (plainElem_int Tryz.underlying3 (wf_mk (z := max (lastC l z) q) (by omega) (by omega)))
  refine ⟨w', hrun, ⟨_, ⟨by rw [List.length_append]; exact ho, h.isMap.put _ _, fun k => ?_, fun p hp => ?_⟩⟩, ht⟩
  rotate_left
  · rw [List.mem_append, List.mem_singleton] at hp
    rcases hp with hp | rfl
    · exact h.bnd p hp
    · exact hq.2
  rw [lastC_snoc]
  by_cases e : z = k
  · subst e
    rw [Maps.atKey_put_same h.isMap (show WideAt.IsKeyLit (.int .i64 z) from trivial), if_pos rfl]
  · rw [Maps.atKey_put_other (fun e' => e (by injection e' with _ e'; exact e'.symm)), if_neg e]
    exact h.at_ k

structure CtAt (W : World) (base b1 b2 : Nat) (c : Ct) (qs : List Int) : Prop where
  rows : ∃ D hv, Gri W base b1 c.1 qs D hv
  keys : ∃ D, Las W b2 c.2 D
  low : b2 < base
  ne : b1 ≠ b2
theorem CtAt.below {W W' : World} {base b1 b2 : Nat} {c : Ct} {qs : List Int} (h : CtAt W base b1 b2 c qs) (hb : Below W.heap.size W W') : CtAt W' base b1 b2 c qs := by
  obtain ⟨⟨D, hv, h1⟩, ⟨D2, h2⟩, h3, h4⟩ := h
  exact ⟨⟨D, hv, h1.below hb⟩, ⟨D2, h2.keep (hb.block b2 h2.map.lt)⟩, h3, h4⟩

theorem CtAt.addKey {W : World} {base b1 b2 : Nat} {c : Ct} {qs : List Int} (h : CtAt W base b1 b2 c qs) {z q : Int} (h1 : -9223372036854775808 ≤ z) (h2 : z ≤ 9223372036854775807) (hl : c.2.length < 1000000) (hq : 0 ≤ q ∧ q ≤ 1073741824) :
    ∃ w', (Instr.lookup 86 (.map (some b2)) (.int .i64 z) false).run Tryz.prog W = .ok (.int .i64 (lastC c.2 z)) W ∧ (Instr.mapUpdate 86 (.map (some b2)) (.int .i64 z) (.int .i64 (max (lastC c.2 z) q))).run Tryz.prog W = .ok () w' ∧
      CtAt w' base b1 b2 (c.1, c.2 ++ [(z, q)]) qs ∧ But (fun k => k = b2) W w' := by
  obtain ⟨⟨D, hv, hG⟩, ⟨D2, hL⟩, h3, h4⟩ := h
  obtain ⟨w', hrun, hL', ht⟩ := hL.step (q := q) h1 h2 hl hq
  have hB := But.of_turned ht
  refine ⟨w', hL.look h1 h2, hrun, ⟨⟨D, hv, hG.keep (hB.block b1 hG.map.lt h4) fun z g hg => ?_⟩, hL', h3, h4⟩, hB⟩
  obtain ⟨g1, g2⟩ := own_in (hG.own z) hg
  exact hB.block g g2 (by omega)
theorem CtAt.noCell {W : World} {base b1 b2 : Nat} {c : Ct} {qs : List Int} (h : CtAt W base b1 b2 c qs) {b o : Nat} {v : Value} (hc : W.cell? ⟨b, o, none⟩ = some v) : b ≠ b1 ∧ b ≠ b2 := by
  obtain ⟨⟨D, hv, hG⟩, ⟨D2, hL⟩, h3, h4⟩ := h
  constructor
  · rintro rfl
    obtain ⟨es, clock, hm, _⟩ := hG.map
    simp [World.cell?, hm] at hc
  · rintro rfl
    obtain ⟨es, clock, hm, _⟩ := hL.map
    simp [World.cell?, hm] at hc

def OfC (W : World) (base b1 b2 : Nat) (k : Nat) : Prop := k = b1 ∨ k = b2 ∨ (base ≤ k ∧ ∃ c f, W.heap[k]? = some (.cells c 54 f))
theorem ofC_trans {W W1 W2 : World} {base b1 b2 : Nat} (h : But (OfC W base b1 b2) W W1) (k : But (OfC W1 base b1 b2) W1 W2) : But (OfC W base b1 b2) W W2 := by
  refine h.trans k fun i hi hlt => ?_
  rcases hi with hi | hi | ⟨hb, c, f, hc⟩
  · exact Or.inl hi
  · exact Or.inr (Or.inl hi)
  · by_cases hP : OfC W base b1 b2 i
    · exact hP
    · exact Or.inr (Or.inr ⟨hb, c, f, (h.block i hlt hP).symm.trans hc⟩)
theorem ofC_below {W W' : World} {base b1 b2 B : Nat} (h : But (OfC W base b1 b2) W W') (hB : B ≤ W.heap.size) (h1 : B ≤ b1) (h2 : B ≤ b2) (h3 : B ≤ base) : Below B W W' :=
  h.below hB fun k hk => by
    rcases hk with rfl | rfl | ⟨hb, _⟩
    · exact h1
    · exact h2
    · omega
theorem ofC_old {W W' : World} {base b1 b2 k : Nat} (h : But (OfC W base b1 b2) W W') (hk : k < W.heap.size) (hb : k < base) (h1 : k ≠ b1) (h2 : k ≠ b2) : W'.heap[k]? = W.heap[k]? :=
  h.block k hk fun hP => by
    rcases hP with e | e | ⟨hb', _⟩
    · exact h1 e
    · exact h2 e
    · omega
theorem src_rows {W : World} {q : Option Addr} {n c : Nat} {l : List Rw} (h : RowsAt W (.slice q n c) l) (hne : l ≠ []) : n = l.length ∧ Src W q n c (flatR l) := by
  rcases h with ⟨_, _, _, e⟩ | ⟨b, o, cap, e, hc⟩
  · exact absurd e hne
  · injection e with e1 e2 e3
    subst e1 e2
    exact ⟨rfl, Or.inr ⟨b, o, rfl, cells_of_flat hc⟩⟩

set_option maxRecDepth 100000 in
theorem CtAt.addRows {W : World} {base b1 b2 : Nat} {c : Ct} {qs : List Int} (h : CtAt W base b1 b2 c qs) (hbase : base ≤ W.heap.size) {q : Int} (h1 : -9223372036854775808 ≤ q) (h2 : q ≤ 9223372036854775807) {sq : Option Addr} {sn sc : Nat} {l : List Rw} (hs : RowsAt W (.slice sq sn sc) l) (hne : l ≠ []) (hq : qs.length < 1000000) (hc : c.1.length + l.length ≤ 1000000) :
    ∃ v v' w1 w2, (Instr.lookup 85 (.map (some b1)) (.int .i64 q) false).run Tryz.prog W = .ok v W ∧ (∃ vq vn vc, v = .slice vq vn vc) ∧ (∃ vq vn vc, v' = .slice vq vn vc) ∧
      (Builtin.append_ #[33, 33] 33 #[v, .slice sq sn sc]).run Tryz.prog W = .ok v' w1 ∧ (Instr.mapUpdate 85 (.map (some b1)) (.int .i64 q) v').run Tryz.prog w1 = .ok () w2 ∧
      (∀ (k : Nat) (c : Array Value) (t : TypeId) (f : Nat × Nat), W.heap[k]? = some (.cells c t f) → t ≠ 54 → w1.heap[k]? = some (.cells c t f)) ∧
      CtAt w2 base b1 b2 (c.1 ++ l.map (fun r => (r, q)), c.2) (q :: qs) ∧ But (OfC W base b1 b2) W w2 := by
  obtain ⟨i0, hi0, hz0, hs0, hby0⟩ := Tryz.rowInfo
  obtain ⟨⟨D, hv, hG⟩, ⟨D2, hL⟩, h3, h4⟩ := h
  have hlook := hG.look h1 h2
  obtain ⟨rfl, hsrc⟩ := src_rows hs hne
  have hle : (rowsQ c.1 q).length ≤ c.1.length := by
    unfold rowsQ
    rw [List.length_map]
    exact List.length_filter_le _ _
  obtain ⟨v', w1, hrun, hown, hgrow, hat⟩ := run_append_src (P := Tryz.prog) W base 33 33 54 i0 (.agg #[.string ⟨#[]⟩, .int .i64 0, .int .i64 0]) 3 32 Tryz.underlying33 hi0 hz0 hs0 hby0 rfl (by decide) (hv q) (rowsQ c.1 q).length (flatR (rowsQ c.1 q)) (hG.own q) sq l.length sc (flatR l) (flat_len l) hsrc (flat_one l) (by unfold maxLen; omega) (by omega) hbase
  obtain ⟨d, hd⟩ := hdQ_own hown
  have hbm : some b1 ≠ (hv q).ownBlock := fun e => by
    have := (own_in (hG.own q) e.symm).1
    have := hG.low
    omega
  have hm1 : w1.ownsMap Tryz.prog 3 hdQ b1 qs.length D := hG.map.kept hgrow hbm
  obtain ⟨w2, hrun2, hm2, ht2⟩ := hm1.store Tryz.keyedI Tryz.underlying85 (by unfold maxLen; omega) (key_int h1 h2) hd
  have hG2 := hG.step q l v' d hown hgrow hat hm2 ht2.grown hd
  have hb2 : some b2 ≠ (hv q).ownBlock := fun e => by
    have := (own_in (hG.own q) e.symm).1
    omega
  have hLk : w2.heap[b2]? = W.heap[b2]? := (ht2.grown.block b2 (Nat.lt_of_lt_of_le hL.map.lt hgrow.size) (fun e => h4 (by injection e with e; exact e.symm))).trans (hgrow.block b2 hL.map.lt hb2)
  refine ⟨hv q, v', w1, w2, hlook, hdQ_form (hG.hd q), hdQ_form hd, hrun, hrun2, fun k c t f hk ht => ?_, ⟨⟨_, _, hG2⟩, ⟨D2, hL.keep hLk⟩, h3, h4⟩, ?_⟩
  · exact type_kept (hG.own q) hgrow hk ht
  · have hB1 : But (OfC W base b1 b2) W w1 := ⟨hgrow.os, hgrow.tape, hgrow.output, hgrow.size, fun k hk hP => hgrow.block k hk fun e => hP (by
      obtain ⟨g1, cur, g2⟩ := own_cur (hG.own q) e.symm
      exact Or.inr (Or.inr ⟨g1, cur, _, g2⟩))⟩
    exact hB1.trans (But.of_turned ht2) fun i hi _ => Or.inl hi
end Go.Proofs.YtdhkdjlgmbejnaaGreatDoor
