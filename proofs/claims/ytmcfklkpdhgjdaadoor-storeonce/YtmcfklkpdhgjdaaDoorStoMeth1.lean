/-
  The contracts of the program's store: New, Head, Day, Power, On, Cut, Next.
-/
import Derived.Test.YtmcfklkpdhgjdaaDoorStoMem
import Derived.Test.YtmcfklkpdhgjdaaDoorStoreEnv
import Derived.Test.YtmcfklkpdhgjdaaDoorStoreLaw
namespace Go.Proofs.YtmcfklkpdhgjdaaDoor
open Go.RowKit Go.Extern.Stop Go.Stop Go.Extern Go.Sort Go.Shelf Go.Lib

/-- The errors of a store. -/
structure EnvO (w : World) (a : Nat → Addr) : Prop where
  bound : w.cell? ⟨1, 0, none⟩ = some (.iface 151 (.pointer (some (a 1))))
  name : w.cell? ⟨4, 0, none⟩ = some (.iface 151 (.pointer (some (a 4))))
  miss : w.cell? ⟨0, 0, none⟩ = some (.iface 151 (.pointer (some (a 5))))
  exist : w.cell? ⟨5, 0, none⟩ = some (.iface 151 (.pointer (some (a 6))))
  full : w.cell? ⟨6, 0, none⟩ = some (.iface 151 (.pointer (some (a 7))))
  stale : w.cell? ⟨3, 0, none⟩ = some (.iface 151 (.pointer (some (a 10))))
  off : w.cell? ⟨2, 0, none⟩ = some (.iface 151 (.pointer (some (a 11))))
theorem EnvO.of {w : World} {a : Nat → Addr} (h : Errs w a) : EnvO w a := ⟨h.cell 1 (by decide), h.cell 4 (by decide), h.cell 5 (by decide), h.cell 6 (by decide), h.cell 7 (by decide), h.cell 10 (by decide), h.cell 11 (by decide)⟩
theorem EnvO.below {w w' : World} {a : Nat → Addr} (h : EnvO w a) (hb : Below w.heap.size w w') : EnvO w' a :=
  ⟨below_keep hb h.bound, below_keep hb h.name, below_keep hb h.miss, below_keep hb h.exist, below_keep hb h.full, below_keep hb h.stale, below_keep hb h.off⟩

set_option maxRecDepth 100000 in
theorem snew_any (w : World) : Calls Tryd.prog 7 #[] w fun e w' => e = .returned (.pointer (some ⟨w.heap.size, 0, none⟩)) ∧ SIn w' w.heap.size none (fun _ => 0) newS ∧ Below w.heap.size w w' := by
  have hal : Below w.heap.size w (w.alloc (.cells #[.map none, .string ⟨#[]⟩, .int .i64 0, .bool false, .bool false, .int .i64 0] 51)) := (Below.refl _ _).alloc (Nat.le_refl _) _
  have HM : Hid (SIn (w.alloc (.cells #[.map none, .string ⟨#[]⟩, .int .i64 0, .bool false, .bool false, .int .i64 0] 51)) w.heap.size none (fun _ => 0) newS) := ⟨heap_alloc_new _ _, Or.inl ⟨rfl, rfl⟩, fun _ h => (nomatch h), List.Pairwise.nil, by decide⟩
  go_enter Tryd.func7, Tryd.ntmps7
  go_wp2
  go_ret
  exact ⟨rfl, HM.out, hal⟩

section
variable {w : World} {b : Nat} {mo : Option Nat} {hd : ByteArray} {d : Int} {off waits : Bool} {left : Int}
theorem shead_c (h : SC w b mo hd d off waits left) : Calls Tryd.prog 14 #[.pointer (some ⟨b, 0, none⟩)] w fun e w' => e = .returned (.string hd) ∧ w' = w := by
  obtain ⟨_, c1, _⟩ := h.cells
  clear h
  go_enter Tryd.func14, Tryd.ntmps14
  go_wp2
  go_ret
  exact ⟨rfl, rfl⟩
theorem sday_c (h : SC w b mo hd d off waits left) : Calls Tryd.prog 19 #[.pointer (some ⟨b, 0, none⟩)] w fun e w' => e = .returned (.int .i64 d) ∧ w' = w := by
  obtain ⟨_, _, c2, _⟩ := h.cells
  clear h
  go_enter Tryd.func19, Tryd.ntmps19
  go_wp2
  go_ret
  exact ⟨rfl, rfl⟩
theorem spower_c (h : SC w b mo hd d off waits left) : Calls Tryd.prog 11 #[.pointer (some ⟨b, 0, none⟩)] w fun e w' => e = .returned (.bool (!off)) ∧ w' = w := by
  obtain ⟨_, _, _, c3, _⟩ := h.cells
  clear h
  go_enter Tryd.func11, Tryd.ntmps11
  go_wp2
  go_ret
  exact ⟨rfl, rfl⟩

/-- Three cells of power are written. -/
def powW (w : World) (b : Nat) (x y : Bool) (z : Int) : World := ((w.setCell ⟨b, 3, none⟩ (.bool x)).setCell ⟨b, 4, none⟩ (.bool y)).setCell ⟨b, 5, none⟩ (.int .i64 z)
theorem SC.pow (h : SC w b mo hd d off waits left) (x y : Bool) (z : Int) : SC (powW w b x y z) b mo hd d x y z := by
  have h1 : SC (w.setCell ⟨b, 3, none⟩ (.bool x)) b mo hd d x waits left := by
    unfold SC at *
    rw [heap_setCell_same _ _ _ _ _ _ h]; rfl
  have h2 : SC ((w.setCell ⟨b, 3, none⟩ (.bool x)).setCell ⟨b, 4, none⟩ (.bool y)) b mo hd d x y left := by
    unfold SC at *
    rw [heap_setCell_same _ _ _ _ _ _ h1]; rfl
  unfold powW
  unfold SC at *
  rw [heap_setCell_same _ _ _ _ _ _ h2]; rfl
theorem powW_but (w : World) (b : Nat) (x y : Bool) (z : Int) : But (fun k => k = b) w (powW w b x y z) := (((But.refl (fun k => k = b) w).setCell (Or.inl rfl) _).setCell (Or.inl rfl) _).setCell (Or.inl rfl) _
theorem SC.day (h : SC w b mo hd d off waits left) (z : Int) : SC (w.setCell ⟨b, 2, none⟩ (.int .i64 z)) b mo hd z off waits left := by
  unfold SC at *
  rw [heap_setCell_same _ _ _ _ _ _ h]; rfl
theorem SC.head (h : SC w b mo hd d off waits left) (t : ByteArray) : SC (w.setCell ⟨b, 1, none⟩ (.string t)) b mo t d off waits left := by
  unfold SC at *
  rw [heap_setCell_same _ _ _ _ _ _ h]; rfl
theorem SC.objs (h : SC w b mo hd d off waits left) (mo' : Option Nat) : SC (w.setCell ⟨b, 0, none⟩ (.map mo')) b mo' hd d off waits left := by
  unfold SC at *
  rw [heap_setCell_same _ _ _ _ _ _ h]; rfl
theorem set_but (w : World) (b o : Nat) (v : Value) : But (fun k => k = b) w (w.setCell ⟨b, o, none⟩ v) := (But.refl (fun k => k = b) w).setCell (Or.inl rfl) _

set_option maxRecDepth 100000 in
set_option maxHeartbeats 1000000 in
theorem son_c (h : SC w b mo hd d off waits left) : Calls Tryd.prog 17 #[.pointer (some ⟨b, 0, none⟩)] w fun e w' => e = .returned (.tuple #[]) ∧ w' = powW w b false false 0 := by
  obtain ⟨c0, c1, c2, c3, c4, c5, hf⟩ := h.cells
  have f3 := hf 3
  have f4 := hf 4
  have f5 := hf 5
  have HE : Hid (∀ w', w' = powW w b false false 0 → w' = powW w b false false 0) := fun _ h => h
  clear h hf
  go_enter Tryd.func17, Tryd.ntmps17
  go_wp2
  go_end0
  exact ⟨rfl, HE.out _ rfl⟩

set_option maxRecDepth 100000 in
set_option maxHeartbeats 1000000 in
theorem scut_c (h : SC w b mo hd d off waits left) {a : Nat → Addr} (he : EnvO w a) (z : Int) : Calls Tryd.prog 16 #[.pointer (some ⟨b, 0, none⟩), .int .i64 z] w fun e w' =>
    e = .returned (errV a (if z < 0 then 2 else if off = true then 12 else 0)) ∧ w' = if z < 0 then w else if off = true then w else powW w b false true z := by
  obtain ⟨c0, c1, c2, c3, c4, c5, hf⟩ := h.cells
  have f3 := hf 3
  have f4 := hf 4
  have f5 := hf 5
  have e1 := he.bound
  have e2 := he.off
  clear h hf he
  by_cases hz : z < 0
  · rw [if_pos hz, if_pos hz]
    have hz' : decide (z < 0) = true := decide_eq_true hz
    go_enter Tryd.func16, Tryd.ntmps16
    go_wp2
    go_ret
    exact ⟨rfl, rfl⟩
  · rw [if_neg hz, if_neg hz]
    have hz' : decide (z < 0) = false := decide_eq_false hz
    cases off with
    | true =>
      go_enter Tryd.func16, Tryd.ntmps16
      go_wp2
      go_ret
      exact ⟨rfl, rfl⟩
    | false =>
      go_enter Tryd.func16, Tryd.ntmps16
      go_wp2
      go_ret
      exact ⟨rfl, rfl⟩

/-- How Next ends. -/
def NextP (a : Nat → Addr) (w : World) (b : Nat) (d z : Int) (e : Ending) (w' : World) : Prop :=
  (z < 0 ∨ 100000 - d < z) ∧ e = .returned (.tuple #[.int .i64 0, errV a 2]) ∧ Below w.heap.size w w' ∨ ¬ (z < 0 ∨ 100000 - d < z) ∧ e = .returned (.tuple #[.int .i64 (d + z), .nilIface]) ∧ w' = w.setCell ⟨b, 2, none⟩ (.int .i64 (d + z))
theorem nextP_bad {a : Nat → Addr} {w w' : World} {b : Nat} {d z : Int} (h : z < 0 ∨ 100000 - d < z) (hb : Below w.heap.size w w') : NextP a w b d z (.returned (.tuple #[.int .i64 0, errV a 2])) w' := Or.inl ⟨h, rfl, hb⟩
theorem nextP_ok {a : Nat → Addr} {w : World} {b : Nat} {d z : Int} (h : ¬ (z < 0 ∨ 100000 - d < z)) : NextP a w b d z (.returned (.tuple #[.int .i64 (d + z), .nilIface])) (w.setCell ⟨b, 2, none⟩ (.int .i64 (d + z))) := Or.inr ⟨h, rfl, rfl⟩
set_option maxRecDepth 100000 in
set_option maxHeartbeats 1000000 in
theorem snext_c (h : SC w b mo hd d off waits left) {a : Nat → Addr} (he : EnvO w a) (z : Int) (hz : -9223372036854775808 ≤ z ∧ z ≤ 9223372036854775807) (h0 : 0 ≤ d) (h1 : d ≤ 100000) : Calls Tryd.prog 18 #[.pointer (some ⟨b, 0, none⟩), .int .i64 z] w (NextP a w b d z) := by
  obtain ⟨c0, c1, c2, c3, c4, c5, hf⟩ := h.cells
  have f2 := hf 2
  have e1 := he.bound
  have c2' : (w.setCell ⟨b, 2, none⟩ (.int .i64 (d + z))).cell? ⟨b, 2, none⟩ = some (.int .i64 (d + z)) := (h.day _).cells.2.2.1
  clear h hf he
  by_cases hz0 : z < 0
  · have hz' : decide (z < 0) = true := decide_eq_true hz0
    have HZ : Hid (z < 0 ∨ 100000 - d < z) := Or.inl hz0
    go_enter Tryd.func18, Tryd.ntmps18
    go_wp2
    go_quiet (fail)
    go_wp2
    go_ret2
    exact nextP_bad HZ.out (below_drewN (Below.refl _ _) nq)
  · have hz' : decide (z < 0) = false := decide_eq_false hz0
    by_cases hz2 : 100000 - d < z
    · have hz2' : decide (100000 - d < z) = true := decide_eq_true hz2
      have HZ : Hid (z < 0 ∨ 100000 - d < z) := Or.inr hz2
      go_enter Tryd.func18, Tryd.ntmps18
      go_wp2
      go_quiet (fail)
      go_wp2
      go_ret2
      exact nextP_bad HZ.out (below_drewN (Below.refl _ _) nq)
    · have hz2' : decide (100000 - d < z) = false := decide_eq_false hz2
      have HZ : Hid (¬ (z < 0 ∨ 100000 - d < z)) := fun h => by omega
      go_enter Tryd.func18, Tryd.ntmps18
      go_wp2
      go_ret2
      exact nextP_ok HZ.out
end
end Go.Proofs.YtmcfklkpdhgjdaaDoor
