/-
  The contracts of the program's store: Get, Born, Drop, power's write, Swap.
-/
import Derived.Test.YtmcfklkpdhgjdaaDoorStoMeth1
import Derived.Deep.RegionWith
namespace Go.Proofs.YtmcfklkpdhgjdaaDoor
open Go.RowKit Go.Extern.Stop Go.Stop Go.Extern Go.Sort Go.Shelf Go.Lib

/-- What a look into a map says, the map there or not. -/
theorem MapAt.look {w : World} {mo : Option Nat} {q : ByteArray → Nat} {l : List Ob} (h : MapAt w mo q l) {n : ByteArray} (hn : n.size ≤ maxLen) :
    (Instr.lookup 47 (.map mo) (.string n) false).run Tryd.prog w = .ok (lookP q l n) w := by
  rcases h with ⟨rfl, rfl⟩ | ⟨mb, rfl, h⟩
  · exact Maps.look_nil false Tryd.keyedS Tryd.underlying47 (Tryd.zeroObj w) (keyOf_name hn)
  · exact h.look hn
theorem MapAt.len {w : World} {mo : Option Nat} {q : ByteArray → Nat} {l : List Ob} (h : MapAt w mo q l) (ty : TypeId) :
    (Builtin.len_ #[47] ty #[.map mo]).run Tryd.prog w = .ok (.int .i64 l.length) w := by
  rcases h with ⟨rfl, rfl⟩ | ⟨mb, rfl, h⟩
  · exact Maps.len_nil Tryd.underlying47 ty
  · exact h.len ty
theorem lookP_some {q : ByteArray → Nat} {l : List Ob} {n : ByteArray} (h : (getO l n).isSome = true) : lookP q l n = ptrV (q n) := by unfold lookP; rw [if_pos h]
theorem lookP_none {q : ByteArray → Nat} {l : List Ob} {n : ByteArray} (h : getO l n = none) : lookP q l n = .pointer none := by unfold lookP; rw [h]; rfl
/-- The object of a name, in memory. -/
theorem ObjsAt.get {W : World} {q : ByteArray → Nat} {l : List Ob} (h : ObjsAt W q l) {n : ByteArray} {o : Ob} (hg : getO l n = some o) : W.cell? ⟨q n, 0, none⟩ = some (.string o.2.1) ∧ W.cell? ⟨q n, 1, none⟩ = some (.int .i64 o.2.2) := by
  obtain ⟨ho, rfl⟩ := getO_some hg
  exact h.cells ho

section
variable {w : World} {b : Nat} {mo : Option Nat} {q : ByteArray → Nat} {s : St}
/-- How Get ends. -/
def GetP (a : Nat → Addr) (w : World) (l : List Ob) (n : ByteArray) (e : Ending) (w' : World) : Prop := e = .returned (.tuple #[.string (getT l n).1, errV a (getT l n).2]) ∧ Below w.heap.size w w'
set_option maxRecDepth 100000 in
set_option maxHeartbeats 1000000 in
theorem sget_any (h : SIn w b mo q s) {a : Nat → Addr} (he : EnvO w a) (n : ByteArray) (hn : n.size ≤ maxLen) : Calls Tryd.prog 10 #[.pointer (some ⟨b, 0, none⟩), .string n] w (GetP a w s.obs n) := by
  have c0 := h.block.cells.1
  have hl := h.map.look hn
  have e1 := he.miss
  cases hg : getO s.obs n with
  | none =>
    have HG : Hid (∀ w', Below w.heap.size w w' → GetP a w s.obs n (.returned (.tuple #[.string ⟨#[]⟩, errV a 6])) w') := fun w' hb => by unfold GetP getT; rw [hg]; exact ⟨rfl, hb⟩
    rw [lookP_none hg] at hl
    clear h he hg hn
    go_enter Tryd.func10, Tryd.ntmps10
    go_wp2
    go_quiet (fail)
    go_wp2
    go_ret2
    exact HG.out _ (below_drewN (Below.refl _ _) nq)
  | some o =>
    have HG : Hid (GetP a w s.obs n (.returned (.tuple #[.string o.2.1, .nilIface])) w) := by unfold GetP getT; rw [hg]; exact ⟨rfl, Below.refl _ _⟩
    rw [lookP_some (by rw [hg]; rfl)] at hl
    obtain ⟨k0, _⟩ := h.objs.get hg
    generalize q n = k at hl k0
    clear h he hg hn
    go_enter Tryd.func10, Tryd.ntmps10
    go_wp2
    go_ret2
    exact HG.out
/-- Without an object. -/
theorem SIn.dropped {w' : World} {mb : Nat} (h : SIn w b (some mb) q s) {n : ByteArray} (hm : PtrMap w' mb q (s.obs.filter fun o => decide (o.1 ≠ n))) (hB : But (fun k => k = mb) w w') : SIn w' b (some mb) q { s with obs := s.obs.filter fun o => decide (o.1 ≠ n) } := by
  obtain ⟨mb', e, hmw⟩ : ∃ mb', some mb = some mb' ∧ PtrMap w mb' q s.obs := by
    rcases h.map with ⟨e, _⟩ | h
    · cases e
    · exact h
  cases e
  refine ⟨(hB.block b h.block.lt (fun e => sc_off_map h.block hmw e.symm)).trans h.block, Or.inr ⟨mb, rfl, hm⟩, fun o ho => ?_, filter_rise h.rise, h.cut⟩
  have ho' : o ∈ s.obs := (List.mem_filter.1 ho).1
  exact (hB.block _ (h.objs.lt ho') (map_off_obj hmw h.objs ho')).trans (h.objs o ho')
set_option maxRecDepth 100000 in
set_option maxHeartbeats 1000000 in
theorem sdrop_any (h : SIn w b mo q s) {a : Nat → Addr} (he : EnvO w a) (n : ByteArray) (hn : n.size ≤ maxLen) : Calls Tryd.prog 15 #[.pointer (some ⟨b, 0, none⟩), .string n] w fun e w' => e = .returned (errV a (dropC s n)) ∧ SPost SAtP w (.pointer (some ⟨b, 0, none⟩)) (fpS b mo q s.obs) (dropS s n) w' := by
  obtain ⟨c0, _, _, c3, _⟩ := h.block.cells
  have hl := h.map.look hn
  have e1 := he.miss
  have e2 := he.off
  have hsame : SPost SAtP w (.pointer (some ⟨b, 0, none⟩)) (fpS b mo q s.obs) s w := spost_of h (But.refl _ _) fun k hk => Or.inl hk
  unfold dropS
  rcases Bool.eq_false_or_eq_true s.off with ho | ho
  · have hc : dropC s n = 12 := by unfold dropC; rw [ho]; rfl
    rw [hc, if_pos (by decide)]
    rw [ho] at c3
    have HS : Hid _ := hsame
    clear hsame h he hn hl hc ho
    go_enter Tryd.func15, Tryd.ntmps15
    go_wp2
    go_ret
    exact ⟨rfl, HS.out⟩
  · rw [ho] at c3
    cases hg : getO s.obs n with
    | none =>
      have hc : dropC s n = 6 := by unfold dropC; rw [ho, hg]; rfl
      rw [hc, if_pos (by decide)]
      rw [lookP_none hg] at hl
      have HS : Hid _ := hsame
      clear hsame h he hn hc ho hg
      go_enter Tryd.func15, Tryd.ntmps15
      go_wp2
      go_ret
      exact ⟨rfl, HS.out⟩
    | some o =>
      have hc : dropC s n = 0 := by unfold dropC; rw [ho, hg]; rfl
      rw [hc, if_neg (by decide)]
      rw [lookP_some (by rw [hg]; rfl)] at hl
      rcases h.map with ⟨_, e⟩ | ⟨mb, rfl, hm⟩
      · rw [e] at hg; cases hg
      · obtain ⟨w', hrun, hm', ht⟩ := hm.drop h.rise hn 0
        have hB := But.of_turned ht
        have HS : Hid (SPost SAtP w (.pointer (some ⟨b, 0, none⟩)) (fpS b (some mb) q s.obs) { s with obs := s.obs.filter fun o => decide (o.1 ≠ n) } w') := spost_of (h.dropped hm' hB) (hB.mono fun k e => Or.inr (Or.inl (by rw [e]))) fun k hk => Or.inl (by
          rcases hk with hk | hk | ⟨o, ho, hk⟩
          · exact Or.inl hk
          · exact Or.inr (Or.inl hk)
          · exact Or.inr (Or.inr ⟨o, (List.mem_filter.1 ho).1, hk⟩))
        generalize q n = k at hl
        clear hsame h he hn hc ho hg hm hm' ht hB
        go_enter Tryd.func15, Tryd.ntmps15
        go_wp2
        go_ret
        exact ⟨rfl, HS.out⟩

/-- How a write ends: so much is written, with an error where power failed. -/
def WrtP (a : Nat → Addr) (w : World) (b : Nat) (mo : Option Nat) (s : St) (t : ByteArray) (e : Ending) (w' : World) : Prop :=
  e = .returned (.tuple #[.string (t.extract 0 (wrtS s t.size).1), errV a (if (wrtS s t.size).2.off = true then 12 else 0)]) ∧ SC w' b mo s.head s.day (wrtS s t.size).2.off (waitsB (wrtS s t.size).2) (leftI (wrtS s t.size).2) ∧ But (fun k => k = b) w w'
theorem extract_all (t : ByteArray) : t.extract 0 t.size = t := by rw [ext_bytes, List.take_of_length_le (by rw [size_list]; exact Nat.le_refl _), bytesOf_data]
set_option maxRecDepth 100000 in
set_option maxHeartbeats 1000000 in
theorem swrite_any (h : SC w b mo s.head s.day s.off (waitsB s) (leftI s)) {a : Nat → Addr} (he : EnvO w a) (t : ByteArray) (ht : t.size ≤ maxLen) (ho : s.off = false) (hcut : s.cut ≤ 9223372036854775807) : Calls Tryd.prog 25 #[.pointer (some ⟨b, 3, none⟩), .string t] w (WrtP a w b mo s t) := by
  obtain ⟨c0, c1, c2, c3, c4, c5, hf⟩ := h.cells
  have f3 := hf 3
  have f4 := hf 4
  have f5 := hf 5
  have e2 := he.off
  unfold maxLen at ht
  by_cases hc : s.cut < 0
  · have hw : wrtS s t.size = (t.size, s) := by unfold wrtS; rw [if_pos hc]
    have hwt : waitsB s = false := by unfold waitsB; rw [ho, decide_eq_false (by omega)]; rfl
    have HW : Hid (WrtP a w b mo s t (.returned (.tuple #[.string t, .nilIface])) w) := by
      unfold WrtP
      rw [hw]
      dsimp only
      rw [ho, extract_all]
      rw [ho] at h
      exact ⟨rfl, h, But.refl _ _⟩
    rw [hwt] at c4
    clear h hf he hw hwt hc hcut
    go_enter Tryd.func25, Tryd.ntmps25
    go_wp2
    go_ret2
    exact HW.out
  · have hwt : waitsB s = true := by unfold waitsB; rw [ho, decide_eq_true (by omega)]; rfl
    have hli : leftI s = s.cut := by unfold leftI; rw [hwt]; rfl
    obtain ⟨k, hk⟩ : ∃ k : Nat, s.cut = k := ⟨s.cut.toNat, by omega⟩
    rw [hli, hk] at c5
    rw [hwt] at c4
    by_cases hlt : k < t.size
    · have hw : wrtS s t.size = (k, { s with off := true }) := by unfold wrtS; rw [if_neg hc, if_pos (by omega), hk]; rfl
      have HW : Hid (∀ w', Below w.heap.size (powW w b true false 0) w' → WrtP a w b mo s t (.returned (.tuple #[.string (t.extract 0 k), errV a 12])) w') := fun w' hb => by
        unfold WrtP
        rw [hw]
        dsimp only
        have hsz : (powW w b true false 0).heap.size = w.heap.size := by simp [powW, World.setCell]
        have hpw := h.pow true false 0
        refine ⟨rfl, ?_, (powW_but w b true false 0).trans (Q := fun _ => False) (But.of_below (by rw [hsz]; exact hb)) fun i hi => hi.elim⟩
        exact (hb.block b h.lt).trans hpw
      have hd : decide ((k : Int) < (t.size : Int)) = true := decide_eq_true (by omega)
      have hk5 : (k : Int) ≤ 9223372036854775807 := by omega
      have hglob : (powW w b true false 0).cell? ⟨2, 0, none⟩ = some (.iface 151 (.pointer (some (a 11)))) := by
        have hne : b ≠ 2 := by
          rintro rfl
          rw [c0] at e2
          cases e2
        exact (powW_but w b true false 0).keep (fun e => hne e.symm) e2
      unfold powW at hglob
      have HB : Hid (∀ nq, Below w.heap.size (powW w b true false 0) ((((w.setCell ⟨b, 3, none⟩ (.bool true)).setCell ⟨b, 4, none⟩ (.bool false)).setCell ⟨b, 5, none⟩ (.int .i64 0)).drewN nq)) := fun nq => below_drewN (Below.refl _ _) nq
      have hle : k ≤ t.size := by omega
      clear h hf he hw hwt hc hcut hli hk
      go_enter Tryd.func25, Tryd.ntmps25
      go_wp2
      go_quiet (fail)
      go_wp2
      go_ret2
      exact HW.out _ (HB.out _)
    · have hw : wrtS s t.size = (t.size, { s with cut := s.cut - t.size }) := by unfold wrtS; rw [if_neg hc, if_neg (by omega)]
      have hd : decide ((k : Int) < (t.size : Int)) = false := decide_eq_false (by omega)
      have hk5 : (k : Int) ≤ 9223372036854775807 := by omega
      have HW : Hid (WrtP a w b mo s t (.returned (.tuple #[.string t, .nilIface])) (w.setCell ⟨b, 5, none⟩ (.int .i64 ((k : Int) - (t.size : Int))))) := by
        unfold WrtP
        rw [hw]
        dsimp only
        have hw2 : waitsB { s with cut := s.cut - (t.size : Int) } = true := by unfold waitsB; dsimp only; rw [ho, decide_eq_true (by omega)]; rfl
        have hl2 : leftI { s with cut := s.cut - (t.size : Int) } = (k : Int) - t.size := by unfold leftI; rw [hw2]; dsimp only; rw [if_pos rfl, hk]
        rw [hw2, hl2, extract_all, ho]
        refine ⟨rfl, ?_, set_but _ _ _ _⟩
        rw [ho, hwt] at h
        unfold SC at *
        rw [heap_setCell_same _ _ _ _ _ _ h]; rfl
      clear h hf he hw hwt hc hcut hli hk
      go_enter Tryd.func25, Tryd.ntmps25
      go_wp2
      go_ret2
      exact HW.out
end
end Go.Proofs.YtmcfklkpdhgjdaaDoor
