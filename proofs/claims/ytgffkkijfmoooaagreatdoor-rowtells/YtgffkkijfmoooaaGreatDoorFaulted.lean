/-
  The contract of faulted, where the error and the document's fault are the same.
-/
import Derived.Test.YtgffkkijfmoooaaGreatDoorCoded
import Derived.Test.YtgffkkijfmoooaaGreatDoorRowRead
namespace Go.Proofs.YtgffkkijfmoooaaGreatDoor
open Go.RowKit Go.Extern.Stop Go.Stop Go.Extern Go.Sort Go.Shelf Go.Lib

theorem rowE_le (x : Rw) : rowE x ≤ 5 := by
  unfold rowE; split
  · split <;> omega
  · omega

/-- coded, of an error's own number. -/
theorem coded_same (n : Nat) (hn : n ≤ 12) (w : World) (a : Nat → Addr) (h : Errs w a) :
    Calls Tryz.prog 22 #[errV a n, .int .i64 n] w fun e w' => e = .returned (.bool true) ∧ Below w.heap.size w w' := by
  cases n with
  | zero =>
    refine (coded_nil w 0).mono fun e w' ⟨he, hw⟩ => ⟨he, ?_⟩
    subst hw; exact Below.refl _ _
  | succ n =>
    refine (coded_bare w a h n (by omega) ((n + 1 : Nat) : Int)).mono fun e w' ⟨he, hw⟩ => ⟨?_, hw⟩
    rw [he]
    simp

set_option maxRecDepth 100000 in
set_option maxHeartbeats 1000000 in
theorem faulted_same (v : Value) (x y : Int) (w : World)
    (hc : Calls Tryz.prog 57 #[v] (w.alloc (.cells #[.int .i64 x, .int .i64 y] 61)) fun e w' => e = .returned (.tuple #[.int .i64 x, .int .i64 y]) ∧ Below (w.alloc (.cells #[.int .i64 x, .int .i64 y] 61)).heap.size (w.alloc (.cells #[.int .i64 x, .int .i64 y] 61)) w') :
    Calls Tryz.prog 37 #[v, .agg #[.int .i64 x, .int .i64 y]] w fun e w' => e = .returned (.bool true) ∧ Below w.heap.size w w' := by
  have hal : Below w.heap.size w (w.alloc (.cells #[.int .i64 x, .int .i64 y] 61)) := (Below.refl _ _).alloc (Nat.le_refl _) _
  have x0 : (w.alloc (.cells #[.int .i64 x, .int .i64 y] 61)).cell? ⟨w.heap.size, 0, none⟩ = some (.int .i64 x) := by simp
  have x1 : (w.alloc (.cells #[.int .i64 x, .int .i64 y] 61)).cell? ⟨w.heap.size, 1, none⟩ = some (.int .i64 y) := by simp
  go_enter Tryz.func37, Tryz.ntmps37
  go_wp2_with fail
  refine hc.mono ?_
  rintro e w1 ⟨rfl, hb1⟩
  clear hc
  have y0 := below_keep hb1 x0
  have y1 := below_keep hb1 x1
  have hB : Below w.heap.size w w1 := hal.trans (hb1.mono hal.size)
  clear x0 x1
  by_cases hx : x = 0
  · subst hx
    go_wp2
    go_ret
    exact ⟨rfl, hB⟩
  · go_wp2
    go_ret
    exact ⟨by simp, hB⟩

/-- The number of an error of its own. -/
theorem err_code (n : Nat) (hn : n ≤ 12) (w : World) (a : Nat → Addr) (h : Errs w a) :
    Calls Tryz.prog 57 #[errV a n] w fun e w' => e = .returned (.tuple #[.int .i64 n, .int .i64 (-1)]) ∧ Below w.heap.size w w' := by
  cases n with
  | zero =>
    refine (code_nil w).mono fun e w' ⟨he, hw⟩ => ⟨he, ?_⟩
    subst hw; exact Below.refl _ _
  | succ i =>
    have hi : i < 12 := by omega
    obtain ⟨cp, tp, hp⟩ := h.block i hi
    have hcn : codeNum i = (i : Int) + 1 := by unfold codeNum; rw [if_pos hi]
    refine (code_bare w a h (a i) cp tp hp i (fun n hn => ⟨fun e => (h.inj i n hi hn e).symm, fun e => e ▸ rfl⟩)).mono fun e w' ⟨he, hw⟩ => ⟨?_, hw⟩
    rw [he, hcn]
    simp

/-- .. and of a fault around it. -/
theorem fault_code (n : Nat) (h0 : n ≠ 0) (hn : n ≤ 12) (w : World) (a : Nat → Addr) (h : Errs w a) (fb : Nat) (j : Int) (c0 : w.cell? ⟨fb, 0, none⟩ = some (.int .i64 j)) (c1 : w.cell? ⟨fb, 1, none⟩ = some (errV a n)) :
    Calls Tryz.prog 57 #[.iface 93 (.pointer (some ⟨fb, 0, none⟩))] w fun e w' => e = .returned (.tuple #[.int .i64 n, .int .i64 j]) ∧ Below w.heap.size w w' := by
  cases n with
  | zero => exact absurd rfl h0
  | succ i =>
    have hi : i < 12 := by omega
    obtain ⟨cp, tp, hp⟩ := h.block i hi
    have hcn : codeNum i = (i : Int) + 1 := by unfold codeNum; rw [if_pos hi]
    refine (code_fault w a h fb 0 j c0 (a i) c1 cp tp hp i (fun n hn => ⟨fun e => (h.inj i n hi hn e).symm, fun e => e ▸ rfl⟩)).mono fun e w' ⟨he, hw⟩ => ⟨?_, hw⟩
    rw [he, hcn]
    simp

theorem faulted_err (n : Nat) (hn : n ≤ 12) (w : World) (a : Nat → Addr) (h : Errs w a) :
    Calls Tryz.prog 37 #[errV a n, .agg #[.int .i64 n, .int .i64 (-1)]] w fun e w' => e = .returned (.bool true) ∧ Below w.heap.size w w' :=
  faulted_same _ _ _ w (err_code n hn _ a (h.below ((Below.refl _ _).alloc (Nat.le_refl _) _)))

theorem faulted_at (n : Nat) (h0 : n ≠ 0) (hn : n ≤ 12) (w : World) (a : Nat → Addr) (h : Errs w a) (fb : Nat) (j : Int) (c0 : w.cell? ⟨fb, 0, none⟩ = some (.int .i64 j)) (c1 : w.cell? ⟨fb, 1, none⟩ = some (errV a n)) :
    Calls Tryz.prog 37 #[.iface 93 (.pointer (some ⟨fb, 0, none⟩)), .agg #[.int .i64 n, .int .i64 j]] w fun e w' => e = .returned (.bool true) ∧ Below w.heap.size w w' :=
  faulted_same _ _ _ w (fault_code n h0 hn _ a (h.below ((Below.refl _ _).alloc (Nat.le_refl _) _)) fb j (below_keep ((Below.refl _ _).alloc (Nat.le_refl _) _) c0) (below_keep ((Below.refl _ _).alloc (Nat.le_refl _) _) c1))
end Go.Proofs.YtgffkkijfmoooaaGreatDoor
