/-
  The contract of faulted, where the error and the document's fault are the same.
-/
import Derived.Test.YtniipgaacdpncaaGreatDoorCode
import Derived.Test.YtniipgaacdpncaaGreatDoorRowRead
namespace Go.Proofs.YtniipgaacdpncaaGreatDoor
open Go.RowKit Go.Extern.Stop Go.Stop Go.Extern Go.Sort Go.Shelf Go.Lib

theorem rowE_le (x : Rw) : rowE x ≤ 5 := by
  unfold rowE; split
  · split <;> omega
  · omega

/-- The number of an error of its own. -/
theorem err_code (n : Nat) (hn : n ≤ 12) (w : World) (a : Nat → Addr) (h : Errs w a) :
    Calls Tryz.prog 23 #[errV a n] w fun e w' => e = .returned (.tuple #[.int .i64 n, .int .i64 (-1)]) ∧ Below w.heap.size w w' := by
  cases n with
  | zero =>
    refine (code_nil w).mono fun e w' ⟨he, hw⟩ => ⟨he, ?_⟩
    subst hw; exact Below.refl _ _
  | succ i =>
    have hi : i < 12 := by omega
    obtain ⟨cp, tp, hp⟩ := h.block i hi
    have hcn : codeNum i = (i : Int) + 1 := by unfold codeNum; rw [if_pos hi]
    refine (code_bare w a h (a i) cp tp hp i (fun n hn => ⟨fun e => (h.inj i n hi hn e).symm, fun e => e ▸ rfl⟩)).mono fun e w' ⟨he, hw⟩ => ⟨?_, hw⟩
    rw [he, hcn]
    simp

/-- .. and of a fault around it. -/
theorem fault_code (n : Nat) (h0 : n ≠ 0) (hn : n ≤ 12) (w : World) (a : Nat → Addr) (h : Errs w a) (fb : Nat) (j : Int) (c0 : w.cell? ⟨fb, 0, none⟩ = some (.int .i64 j)) (c1 : w.cell? ⟨fb, 1, none⟩ = some (errV a n)) :
    Calls Tryz.prog 23 #[.iface 58 (.pointer (some ⟨fb, 0, none⟩))] w fun e w' => e = .returned (.tuple #[.int .i64 n, .int .i64 j]) ∧ Below w.heap.size w w' := by
  cases n with
  | zero => exact absurd rfl h0
  | succ i =>
    have hi : i < 12 := by omega
    obtain ⟨cp, tp, hp⟩ := h.block i hi
    have hcn : codeNum i = (i : Int) + 1 := by unfold codeNum; rw [if_pos hi]
    refine (code_fault w a h fb 0 j c0 (a i) c1 cp tp hp i (fun n hn => ⟨fun e => (h.inj i n hi hn e).symm, fun e => e ▸ rfl⟩)).mono fun e w' ⟨he, hw⟩ => ⟨?_, hw⟩
    rw [he, hcn]
    simp

end Go.Proofs.YtniipgaacdpncaaGreatDoor
