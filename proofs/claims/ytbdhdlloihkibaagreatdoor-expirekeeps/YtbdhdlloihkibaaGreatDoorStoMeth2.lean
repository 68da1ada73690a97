/-
  The contracts of the program's store: Get, Born, Drop, power's write, Swap.
-/
import Derived.Test.YtbdhdlloihkibaaGreatDoorStoreEnv
import Derived.Test.YtbdhdlloihkibaaGreatDoorStoreActs3
import Derived.Deep.RegionWith
namespace Go.Proofs.YtbdhdlloihkibaaGreatDoor
open Go.RowKit Go.Extern.Stop Go.Stop Go.Extern Go.Sort Go.Shelf Go.Lib

structure EnvO (w : World) (a : Nat → Addr) : Prop where
  bound : w.cell? ⟨2, 0, none⟩ = some (.iface 201 (.pointer (some (a 1))))
  name : w.cell? ⟨7, 0, none⟩ = some (.iface 201 (.pointer (some (a 4))))
  miss : w.cell? ⟨0, 0, none⟩ = some (.iface 201 (.pointer (some (a 5))))
  exist : w.cell? ⟨8, 0, none⟩ = some (.iface 201 (.pointer (some (a 6))))
  full : w.cell? ⟨9, 0, none⟩ = some (.iface 201 (.pointer (some (a 7))))
  stale : w.cell? ⟨3, 0, none⟩ = some (.iface 201 (.pointer (some (a 10))))
  off : w.cell? ⟨1, 0, none⟩ = some (.iface 201 (.pointer (some (a 11))))
theorem EnvO.of {w : World} {a : Nat → Addr} (h : Errs w a) : EnvO w a where
  bound := h.cell 1 (by decide)
  name := h.cell 4 (by decide)
  miss := h.cell 5 (by decide)
  exist := h.cell 6 (by decide)
  full := h.cell 7 (by decide)
  stale := h.cell 10 (by decide)
  off := h.cell 11 (by decide)
theorem EnvO.below {w w' : World} {a : Nat → Addr} (h : EnvO w a) (hb : Below w.heap.size w w') : EnvO w' a where
  bound := below_keep hb h.bound
  name := below_keep hb h.name
  miss := below_keep hb h.miss
  exist := below_keep hb h.exist
  full := below_keep hb h.full
  stale := below_keep hb h.stale
  off := below_keep hb h.off

set_option maxRecDepth 100000 in
theorem snew_any (w : World) : Calls Tryz.prog 15 #[] w fun e w' => e = .returned (.pointer (some ⟨w.heap.size, 0, none⟩)) ∧ SIn w' w.heap.size none (fun _ => 0) newS ∧ Below w.heap.size w w' := by
  have hal : Below w.heap.size w (w.alloc (.cells #[.map none, .string ⟨#[]⟩, .int .i64 0, .bool false, .bool false, .int .i64 0] 68)) := (Below.refl _ _).alloc (Nat.le_refl _) _
  have HM : Hid (SIn (w.alloc (.cells #[.map none, .string ⟨#[]⟩, .int .i64 0, .bool false, .bool false, .int .i64 0] 68)) w.heap.size none (fun _ => 0) newS) := ⟨heap_alloc_new _ _, Or.inl ⟨rfl, rfl⟩, fun _ h => (nomatch h), List.Pairwise.nil, by decide⟩
  go_enter Tryz.func15, Tryz.ntmps15
  go_wp2
  go_ret
  exact ⟨rfl, HM.out, hal⟩

section
variable {w : World} {b : Nat} {mo : Option Nat} {hd : ByteArray} {d : Int} {off waits : Bool} {left : Int}
theorem sday_c (h : SC w b mo hd d off waits left) : Calls Tryz.prog 23 #[.pointer (some ⟨b, 0, none⟩)] w fun e w' => e = .returned (.int .i64 d) ∧ w' = w := by
  obtain ⟨_, _, c2, _⟩ := h.cells
  clear h
  go_enter Tryz.func23, Tryz.ntmps23
  go_wp2
  go_ret
  exact ⟨rfl, rfl⟩
theorem spower_c (h : SC w b mo hd d off waits left) : Calls Tryz.prog 72 #[.pointer (some ⟨b, 0, none⟩)] w fun e w' => e = .returned (.bool (!off)) ∧ w' = w := by
  obtain ⟨_, _, _, c3, _⟩ := h.cells
  clear h
  go_enter Tryz.func72, Tryz.ntmps72
  go_wp2
  go_ret
  exact ⟨rfl, rfl⟩

def powW (w : World) (b : Nat) (x y : Bool) (z : Int) : World := ((w.setCell ⟨b, 3, none⟩ (.bool x)).setCell ⟨b, 4, none⟩ (.bool y)).setCell ⟨b, 5, none⟩ (.int .i64 z)
theorem SC.pow (h : SC w b mo hd d off waits left) (x y : Bool) (z : Int) : SC (powW w b x y z) b mo hd d x y z := by
  have h1 : SC (w.setCell ⟨b, 3, none⟩ (.bool x)) b mo hd d x waits left := by
    unfold SC at *
    rw [heap_setCell_same _ _ _ _ _ _ h]; rfl
  have h2 : SC ((w.setCell ⟨b, 3, none⟩ (.bool x)).setCell ⟨b, 4, none⟩ (.bool y)) b mo hd d x y left := by
    unfold SC at *
    rw [heap_setCell_same _ _ _ _ _ _ h1]; rfl
  unfold powW
  unfold SC at *
  rw [heap_setCell_same _ _ _ _ _ _ h2]; rfl
theorem powW_but (w : World) (b : Nat) (x y : Bool) (z : Int) : But (fun k => k = b) w (powW w b x y z) := (((But.refl (fun k => k = b) w).setCell (Or.inl rfl) _).setCell (Or.inl rfl) _).setCell (Or.inl rfl) _
theorem SC.day (h : SC w b mo hd d off waits left) (z : Int) : SC (w.setCell ⟨b, 2, none⟩ (.int .i64 z)) b mo hd z off waits left := by
  unfold SC at *
  rw [heap_setCell_same _ _ _ _ _ _ h]; rfl
theorem SC.head (h : SC w b mo hd d off waits left) (t : ByteArray) : SC (w.setCell ⟨b, 1, none⟩ (.string t)) b mo t d off waits left := by
  unfold SC at *
  rw [heap_setCell_same _ _ _ _ _ _ h]; rfl
theorem SC.objs (h : SC w b mo hd d off waits left) (mo' : Option Nat) : SC (w.setCell ⟨b, 0, none⟩ (.map mo')) b mo' hd d off waits left := by
  unfold SC at *
  rw [heap_setCell_same _ _ _ _ _ _ h]; rfl
theorem set_but (w : World) (b o : Nat) (v : Value) : But (fun k => k = b) w (w.setCell ⟨b, o, none⟩ v) := (But.refl (fun k => k = b) w).setCell (Or.inl rfl) _

set_option maxRecDepth 100000 in
set_option maxHeartbeats 1000000 in
theorem son_c (h : SC w b mo hd d off waits left) : Calls Tryz.prog 45 #[.pointer (some ⟨b, 0, none⟩)] w fun e w' => e = .returned (.tuple #[]) ∧ w' = powW w b false false 0 := by
  obtain ⟨c0, c1, c2, c3, c4, c5, hf⟩ := h.cells
  have f3 := hf 3
  have f4 := hf 4
  have f5 := hf 5
  have HE : Hid (∀ w', w' = powW w b false false 0 → w' = powW w b false false 0) := fun _ h => h
  clear h hf
  go_enter Tryz.func45, Tryz.ntmps45
  go_wp2
  go_end0
  exact ⟨rfl, HE.out _ rfl⟩

set_option maxRecDepth 100000 in
set_option maxHeartbeats 1000000 in
theorem scut_c (h : SC w b mo hd d off waits left) {a : Nat → Addr} (he : EnvO w a) (z : Int) : Calls Tryz.prog 43 #[.pointer (some ⟨b, 0, none⟩), .int .i64 z] w fun e w' =>
    e = .returned (errV a (if z < 0 then 2 else if off = true then 12 else 0)) ∧ w' = if z < 0 then w else if off = true then w else powW w b false true z := by
  obtain ⟨c0, c1, c2, c3, c4, c5, hf⟩ := h.cells
  have f3 := hf 3
  have f4 := hf 4
  have f5 := hf 5
  have e1 := he.bound
  have e2 := he.off
  clear h hf he
  by_cases hz : z < 0
  · rw [if_pos hz, if_pos hz]
    have hz' : decide (z < 0) = true := decide_eq_true hz
    go_enter Tryz.func43, Tryz.ntmps43
    go_wp2
    go_ret
    exact ⟨rfl, rfl⟩
  · rw [if_neg hz, if_neg hz]
    have hz' : decide (z < 0) = false := decide_eq_false hz
    cases off with
    | true =>
      go_enter Tryz.func43, Tryz.ntmps43
      go_wp2
      go_ret
      exact ⟨rfl, rfl⟩
    | false =>
      go_enter Tryz.func43, Tryz.ntmps43
      go_wp2
      go_ret
      exact ⟨rfl, rfl⟩

def NextP (a : Nat → Addr) (w : World) (b : Nat) (d z : Int) (e : Ending) (w' : World) : Prop :=
  (z < 0 ∨ 100000 - d < z) ∧ e = .returned (.tuple #[.int .i64 0, errV a 2]) ∧ Below w.heap.size w w' ∨ ¬ (z < 0 ∨ 100000 - d < z) ∧ e = .returned (.tuple #[.int .i64 (d + z), .nilIface]) ∧ w' = w.setCell ⟨b, 2, none⟩ (.int .i64 (d + z))
theorem nextP_bad {a : Nat → Addr} {w w' : World} {b : Nat} {d z : Int} (h : z < 0 ∨ 100000 - d < z) (hb : Below w.heap.size w w') : NextP a w b d z (.returned (.tuple #[.int .i64 0, errV a 2])) w' := Or.inl ⟨h, rfl, hb⟩
theorem nextP_ok {a : Nat → Addr} {w : World} {b : Nat} {d z : Int} (h : ¬ (z < 0 ∨ 100000 - d < z)) : NextP a w b d z (.returned (.tuple #[.int .i64 (d + z), .nilIface])) (w.setCell ⟨b, 2, none⟩ (.int .i64 (d + z))) := Or.inr ⟨h, rfl, rfl⟩
set_option maxRecDepth 100000 in
set_option maxHeartbeats 1000000 in
theorem snext_c (h : SC w b mo hd d off waits left) {a : Nat → Addr} (he : EnvO w a) (z : Int) (hz : -9223372036854775808 ≤ z ∧ z ≤ 9223372036854775807) (h0 : 0 ≤ d) (h1 : d ≤ 100000) : Calls Tryz.prog 47 #[.pointer (some ⟨b, 0, none⟩), .int .i64 z] w (NextP a w b d z) := by
  obtain ⟨c0, c1, c2, c3, c4, c5, hf⟩ := h.cells
  have f2 := hf 2
  have e1 := he.bound
  have c2' : (w.setCell ⟨b, 2, none⟩ (.int .i64 (d + z))).cell? ⟨b, 2, none⟩ = some (.int .i64 (d + z)) := (h.day _).cells.2.2.1
  clear h hf he
  by_cases hz0 : z < 0
  · have hz' : decide (z < 0) = true := decide_eq_true hz0
    have HZ : Hid (z < 0 ∨ 100000 - d < z) := Or.inl hz0
    go_enter Tryz.func47, Tryz.ntmps47
    go_wp2
    go_quiet (fail)
    go_wp2
    go_ret2
    exact nextP_bad HZ.out (below_drewN (Below.refl _ _) nq)
  · have hz' : decide (z < 0) = false := decide_eq_false hz0
    by_cases hz2 : 100000 - d < z
    · have hz2' : decide (100000 - d < z) = true := decide_eq_true hz2
      have HZ : Hid (z < 0 ∨ 100000 - d < z) := Or.inr hz2
      go_enter Tryz.func47, Tryz.ntmps47
      go_wp2
      go_quiet (fail)
      go_wp2
      go_ret2
      exact nextP_bad HZ.out (below_drewN (Below.refl _ _) nq)
    · have hz2' : decide (100000 - d < z) = false := decide_eq_false hz2
      have HZ : Hid (¬ (z < 0 ∨ 100000 - d < z)) := fun h => by omega
      go_enter Tryz.func47, Tryz.ntmps47
      go_wp2
      go_ret2
      exact nextP_ok HZ.out
end
end Go.Proofs.YtbdhdlloihkibaaGreatDoor
namespace Go.Proofs.YtbdhdlloihkibaaGreatDoor
open Go.RowKit Go.Extern.Stop Go.Stop Go.Extern Go.Sort Go.Shelf Go.Lib

theorem MapAt.look {w : World} {mo : Option Nat} {q : ByteArray → Nat} {l : List Ob} (h : MapAt w mo q l) {n : ByteArray} (hn : n.size ≤ maxLen) :
    (Instr.lookup 64 (.map mo) (.string n) false).run Tryz.prog w = .ok (lookP q l n) w := by
  rcases h with ⟨rfl, rfl⟩ | ⟨mb, rfl, h⟩
  · exact Maps.look_nil false Tryz.keyedS Tryz.underlying64 (Tryz.zeroObj w) (keyOf_name hn)
  · exact h.look hn
theorem MapAt.len {w : World} {mo : Option Nat} {q : ByteArray → Nat} {l : List Ob} (h : MapAt w mo q l) (ty : TypeId) :
    (Builtin.len_ #[64] ty #[.map mo]).run Tryz.prog w = .ok (.int .i64 l.length) w := by
  rcases h with ⟨rfl, rfl⟩ | ⟨mb, rfl, h⟩
  · exact Maps.len_nil Tryz.underlying64 ty
  · exact h.len ty
theorem lookP_some {q : ByteArray → Nat} {l : List Ob} {n : ByteArray} (h : (getO l n).isSome = true) : lookP q l n = ptrV (q n) := by unfold lookP; rw [if_pos h]
theorem lookP_none {q : ByteArray → Nat} {l : List Ob} {n : ByteArray} (h : getO l n = none) : lookP q l n = .pointer none := by unfold lookP; rw [h]; rfl
theorem ObjsAt.get {W : World} {q : ByteArray → Nat} {l : List Ob} (h : ObjsAt W q l) {n : ByteArray} {o : Ob} (hg : getO l n = some o) : W.cell? ⟨q n, 0, none⟩ = some (.string o.2.1) ∧ W.cell? ⟨q n, 1, none⟩ = some (.int .i64 o.2.2) := by
  obtain ⟨ho, rfl⟩ := getO_some hg
  exact h.cells ho

section
variable {w : World} {b : Nat} {mo : Option Nat} {q : ByteArray → Nat} {s : St}
def GetP (a : Nat → Addr) (w : World) (l : List Ob) (n : ByteArray) (e : Ending) (w' : World) : Prop := e = .returned (.tuple #[.string (getT l n).1, errV a (getT l n).2]) ∧ Below w.heap.size w w'
set_option maxRecDepth 100000 in
set_option maxHeartbeats 1000000 in
theorem sget_any (h : SIn w b mo q s) {a : Nat → Addr} (he : EnvO w a) (n : ByteArray) (hn : n.size ≤ maxLen) : Calls Tryz.prog 37 #[.pointer (some ⟨b, 0, none⟩), .string n] w (GetP a w s.obs n) := by
  have c0 := h.block.cells.1
  have hl := h.map.look hn
  have e1 := he.miss
  cases hg : getO s.obs n with
  | none =>
    have HG : Hid (∀ w', Below w.heap.size w w' → GetP a w s.obs n (.returned (.tuple #[.string ⟨#[]⟩, errV a 6])) w') := fun w' hb => by unfold GetP getT; rw [hg]; exact ⟨rfl, hb⟩
    rw [lookP_none hg] at hl
    clear h he hg hn
    go_enter Tryz.func37, Tryz.ntmps37
    go_wp2
    go_quiet (fail)
    go_wp2
    go_ret2
    exact HG.out _ (below_drewN (Below.refl _ _) nq)
  | some o =>
    have HG : Hid (GetP a w s.obs n (.returned (.tuple #[.string o.2.1, .nilIface])) w) := by unfold GetP getT; rw [hg]; exact ⟨rfl, Below.refl _ _⟩
    rw [lookP_some (by rw [hg]; rfl)] at hl
    obtain ⟨k0, _⟩ := h.objs.get hg
    generalize q n = k at hl k0
    clear h he hg hn
    go_enter Tryz.func37, Tryz.ntmps37
    go_wp2
    go_ret2
    exact HG.out
set_option maxRecDepth 100000 in
set_option maxHeartbeats 1000000 in
theorem sborn_any (h : SIn w b mo q s) (n : ByteArray) (hn : n.size ≤ maxLen) : Calls Tryz.prog 24 #[.pointer (some ⟨b, 0, none⟩), .string n] w fun e w' => e = .returned (.int .i64 (bornO s.obs n)) ∧ w' = w := by
  have c0 := h.block.cells.1
  have hl := h.map.look hn
  unfold bornO
  cases hg : getO s.obs n with
  | none =>
    rw [lookP_none hg] at hl
    clear h hg hn
    go_enter Tryz.func24, Tryz.ntmps24
    go_wp2
    go_ret
    exact ⟨rfl, rfl⟩
  | some o =>
    rw [lookP_some (by rw [hg]; rfl)] at hl
    obtain ⟨_, k1⟩ := h.objs.get hg
    dsimp only
    generalize q n = k at hl k1
    generalize o.2.2 = dd at k1 ⊢
    clear h hg hn
    go_enter Tryz.func24, Tryz.ntmps24
    go_wp2
    go_ret
    exact ⟨rfl, rfl⟩

theorem SIn.dropped {w' : World} {mb : Nat} (h : SIn w b (some mb) q s) {n : ByteArray} (hm : PtrMap w' mb q (s.obs.filter fun o => decide (o.1 ≠ n))) (hB : But (fun k => k = mb) w w') : SIn w' b (some mb) q { s with obs := s.obs.filter fun o => decide (o.1 ≠ n) } := by
  obtain ⟨mb', e, hmw⟩ : ∃ mb', some mb = some mb' ∧ PtrMap w mb' q s.obs := by
    rcases h.map with ⟨e, _⟩ | h
    · cases e
    · exact h
  cases e
  refine ⟨(hB.block b h.block.lt (fun e => sc_off_map h.block hmw e.symm)).trans h.block, Or.inr ⟨mb, rfl, hm⟩, fun o ho => ?_, filter_rise h.rise, h.cut⟩
  have ho' : o ∈ s.obs := (List.mem_filter.1 ho).1
  exact (hB.block _ (h.objs.lt ho') (map_off_obj hmw h.objs ho')).trans (h.objs o ho')
set_option maxRecDepth 100000 in
set_option maxHeartbeats 1000000 in
theorem sdrop_any (h : SIn w b mo q s) {a : Nat → Addr} (he : EnvO w a) (n : ByteArray) (hn : n.size ≤ maxLen) : Calls Tryz.prog 39 #[.pointer (some ⟨b, 0, none⟩), .string n] w fun e w' => e = .returned (errV a (dropC s n)) ∧ SPost SAtP w (.pointer (some ⟨b, 0, none⟩)) (fpS b mo q s.obs) (dropS s n) w' := by
  obtain ⟨c0, _, _, c3, _⟩ := h.block.cells
  have hl := h.map.look hn
  have e1 := he.miss
  have e2 := he.off
  have hsame : SPost SAtP w (.pointer (some ⟨b, 0, none⟩)) (fpS b mo q s.obs) s w := spost_of h (But.refl _ _) fun k hk => Or.inl hk
  unfold dropS
  rcases Bool.eq_false_or_eq_true s.off with ho | ho
  · have hc : dropC s n = 12 := by unfold dropC; rw [ho]; rfl
    rw [hc, if_pos (by decide)]
    rw [ho] at c3
    have HS : Hid _ := hsame
    clear hsame h he hn hl hc ho
    go_enter Tryz.func39, Tryz.ntmps39
    go_wp2
    go_ret
    exact ⟨rfl, HS.out⟩
  · rw [ho] at c3
    cases hg : getO s.obs n with
    | none =>
      have hc : dropC s n = 6 := by unfold dropC; rw [ho, hg]; rfl
      rw [hc, if_pos (by decide)]
      rw [lookP_none hg] at hl
      have HS : Hid _ := hsame
      clear hsame h he hn hc ho hg
      go_enter Tryz.func39, Tryz.ntmps39
      go_wp2
      go_ret
      exact ⟨rfl, HS.out⟩
    | some o =>
      have hc : dropC s n = 0 := by unfold dropC; rw [ho, hg]; rfl
      rw [hc, if_neg (by decide)]
      rw [lookP_some (by rw [hg]; rfl)] at hl
      rcases h.map with ⟨_, e⟩ | ⟨mb, rfl, hm⟩
      · rw [e] at hg; cases hg
      · obtain ⟨w', hrun, hm', ht⟩ := hm.drop h.rise hn 0
        have hB := But.of_turned ht
        have HS : Hid (SPost SAtP w (.pointer (some ⟨b, 0, none⟩)) (fpS b (some mb) q s.obs) { s with obs := s.obs.filter fun o => decide (o.1 ≠ n) } w') := spost_of (h.dropped hm' hB) (hB.mono fun k e => Or.inr (Or.inl (by rw [e]))) fun k hk => Or.inl (by
          rcases hk with hk | hk | ⟨o, ho, hk⟩
          · exact Or.inl hk
          · exact Or.inr (Or.inl hk)
          · exact Or.inr (Or.inr ⟨o, (List.mem_filter.1 ho).1, hk⟩))
        generalize q n = k at hl
        clear hsame h he hn hc ho hg hm hm' ht hB
        go_enter Tryz.func39, Tryz.ntmps39
        go_wp2
        go_ret
        exact ⟨rfl, HS.out⟩

def WrtP (a : Nat → Addr) (w : World) (b : Nat) (mo : Option Nat) (s : St) (t : ByteArray) (e : Ending) (w' : World) : Prop :=
  e = .returned (.tuple #[.string (t.extract 0 (wrtS s t.size).1), errV a (if (wrtS s t.size).2.off = true then 12 else 0)]) ∧ SC w' b mo s.head s.day (wrtS s t.size).2.off (waitsB (wrtS s t.size).2) (leftI (wrtS s t.size).2) ∧ But (fun k => k = b) w w'
theorem extract_all (t : ByteArray) : t.extract 0 t.size = t := by rw [ext_bytes, List.take_of_length_le (by rw [size_list]; exact Nat.le_refl _), bytesOf_data]
set_option maxRecDepth 100000 in
set_option maxHeartbeats 1000000 in
theorem swrite_any (h : SC w b mo s.head s.day s.off (waitsB s) (leftI s)) {a : Nat → Addr} (he : EnvO w a) (t : ByteArray) (ht : t.size ≤ maxLen) (ho : s.off = false) (hcut : s.cut ≤ 9223372036854775807) : Calls Tryz.prog 68 #[.pointer (some ⟨b, 3, none⟩), .string t] w (WrtP a w b mo s t) := by
  obtain ⟨c0, c1, c2, c3, c4, c5, hf⟩ := h.cells
  have f3 := hf 3
  have f4 := hf 4
  have f5 := hf 5
  have e2 := he.off
  unfold maxLen at ht
  by_cases hc : s.cut < 0
  · have hw : wrtS s t.size = (t.size, s) := by unfold wrtS; rw [if_pos hc]
    have hwt : waitsB s = false := by unfold waitsB; rw [ho, decide_eq_false (by omega)]; rfl
    have HW : Hid (WrtP a w b mo s t (.returned (.tuple #[.string t, .nilIface])) w) := by
      unfold WrtP
      rw [hw]
      dsimp only
      rw [ho, extract_all]
      rw [ho] at h
      exact ⟨rfl, h, But.refl _ _⟩
    rw [hwt] at c4
    clear h hf he hw hwt hc hcut
    go_enter Tryz.func68, Tryz.ntmps68
    go_wp2
    go_ret2
    exact HW.out
  · have hwt : waitsB s = true := by unfold waitsB; rw [ho, decide_eq_true (by omega)]; rfl
    have hli : leftI s = s.cut := by unfold leftI; rw [hwt]; rfl
    obtain ⟨k, hk⟩ : ∃ k : Nat, s.cut = k := ⟨s.cut.toNat, by omega⟩
    rw [hli, hk] at c5
    rw [hwt] at c4
    by_cases hlt : k < t.size
    · have hw : wrtS s t.size = (k, { s with off := true }) := by unfold wrtS; rw [if_neg hc, if_pos (by omega), hk]; rfl
      have HW : Hid (∀ w', Below w.heap.size (powW w b true false 0) w' → WrtP a w b mo s t (.returned (.tuple #[.string (t.extract 0 k), errV a 12])) w') := fun w' hb => by
        unfold WrtP
        rw [hw]
        dsimp only
        have hsz : (powW w b true false 0).heap.size = w.heap.size := by simp [powW, World.setCell]
        have hpw := h.pow true false 0
        refine ⟨rfl, ?_, (powW_but w b true false 0).trans (Q := fun _ => False) (But.of_below (by show Below _ _ _; rw [hsz]; exact hb)) fun i hi => hi.elim⟩
        exact (hb.block b h.lt).trans hpw
      have hd : decide ((k : Int) < (t.size : Int)) = true := decide_eq_true (by omega)
      have hk5 : (k : Int) ≤ 9223372036854775807 := by omega
      have hglob : (powW w b true false 0).cell? ⟨1, 0, none⟩ = some (.iface 201 (.pointer (some (a 11)))) := by
        have hne : b ≠ 1 := by
          rintro rfl
          rw [c0] at e2
          cases e2
        exact (powW_but w b true false 0).keep (fun e => hne e.symm) e2
      unfold powW at hglob
      have HB : Hid (∀ nq, Below w.heap.size (powW w b true false 0) ((((w.setCell ⟨b, 3, none⟩ (.bool true)).setCell ⟨b, 4, none⟩ (.bool false)).setCell ⟨b, 5, none⟩ (.int .i64 0)).drewN nq)) := fun nq => below_drewN (Below.refl _ _) nq
      have hle : k ≤ t.size := by omega
      clear h hf he hw hwt hc hcut hli hk
      go_enter Tryz.func68, Tryz.ntmps68
      go_wp2
      go_quiet (fail)
      go_wp2
      go_ret2
      exact HW.out _ (HB.out _)
    · have hw : wrtS s t.size = (t.size, { s with cut := s.cut - t.size }) := by unfold wrtS; rw [if_neg hc, if_neg (by omega)]
      have hd : decide ((k : Int) < (t.size : Int)) = false := decide_eq_false (by omega)
      have hk5 : (k : Int) ≤ 9223372036854775807 := by omega
      have HW : Hid (WrtP a w b mo s t (.returned (.tuple #[.string t, .nilIface])) (w.setCell ⟨b, 5, none⟩ (.int .i64 ((k : Int) - (t.size : Int))))) := by
        unfold WrtP
        rw [hw]
        dsimp only
        have hw2 : waitsB { s with cut := s.cut - (t.size : Int) } = true := by unfold waitsB; dsimp only; rw [ho, decide_eq_true (by omega)]; rfl
        have hl2 : leftI { s with cut := s.cut - (t.size : Int) } = (k : Int) - t.size := by unfold leftI; rw [hw2]; dsimp only; rw [if_pos rfl, hk]
        rw [hw2, hl2, extract_all, ho]
        refine ⟨rfl, ?_, set_but _ _ _ _⟩
        rw [ho, hwt] at h
        unfold SC at *
        rw [heap_setCell_same _ _ _ _ _ _ h]; rfl
      clear h hf he hw hwt hc hcut hli hk
      go_enter Tryz.func68, Tryz.ntmps68
      go_wp2
      go_ret2
      exact HW.out
end
end Go.Proofs.YtbdhdlloihkibaaGreatDoor
