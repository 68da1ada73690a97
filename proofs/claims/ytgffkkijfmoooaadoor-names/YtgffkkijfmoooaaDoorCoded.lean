/-
  The contracts of the statements' own helper coded, out of plain.Code's.
-/
import Derived.Test.YtgffkkijfmoooaaDoorCode
namespace Go.Proofs.YtgffkkijfmoooaaDoor
open Go.RowKit Go.Extern.Stop Go.Stop Go.Extern

/-- coded: the number is the one, and there is no place. -/
def codedB (x y c : Int) : Bool := decide (x = c) && decide (y = -1)

theorem coded_of (v : Value) (x y c : Int) (w : World) (w1 : World → Prop)
    (hc : Calls Tryd.prog 5 #[v] w fun e w' => e = .returned (.tuple #[.int .i64 x, .int .i64 y]) ∧ w1 w') :
    Calls Tryd.prog 6 #[v, .int .i64 c] w fun e w' => e = .returned (.bool (codedB x y c)) ∧ w1 w' := by
  unfold codedB
  by_cases h1 : x = c
  · subst h1
    by_cases h2 : y = -1
    · subst h2
      go_enter Tryd.func6, Tryd.ntmps6
      go_wp2_with (go_at_call 5; refine hc.mono ?_; rintro e w' ⟨rfl, hw⟩)
      go_ret
      exact ⟨by simp, hw⟩
    · go_enter Tryd.func6, Tryd.ntmps6
      go_wp2_with (go_at_call 5; refine hc.mono ?_; rintro e w' ⟨rfl, hw⟩)
      go_ret
      exact ⟨by simp [h2], hw⟩
  · go_enter Tryd.func6, Tryd.ntmps6
    go_wp2_with (go_at_call 5; refine hc.mono ?_; rintro e w' ⟨rfl, hw⟩)
    go_ret
    exact ⟨by simp [h1], hw⟩

theorem coded_bare (w : World) (a : Nat → Addr) (h : Errs w a) (i : Nat) (hi : i < 12) (c : Int) :
    Calls Tryd.prog 6 #[.iface 38 (.pointer (some (a i))), .int .i64 c] w fun e w' => e = .returned (.bool (decide ((i : Int) + 1 = c))) ∧ Below w.heap.size w w' := by
  obtain ⟨cp, tp, hp⟩ := h.block i hi
  have hcn : codeNum i = (i : Int) + 1 := by unfold codeNum; rw [if_pos hi]
  have hc := code_bare w a h (a i) cp tp hp i (fun n hn => ⟨fun e => (h.inj i n hi hn e).symm, fun e => e ▸ rfl⟩)
  refine (coded_of _ _ _ c w _ hc).mono fun e w' ⟨he, hw⟩ => ⟨?_, hw⟩
  rw [he, hcn]
  simp [codedB]

theorem coded_nil (w : World) (c : Int) :
    Calls Tryd.prog 6 #[.nilIface, .int .i64 c] w fun e w' => e = .returned (.bool (decide (0 = c))) ∧ w' = w := by
  refine (coded_of .nilIface 0 (-1) c w (fun w' => w' = w) (code_nil w)).mono fun e w' ⟨he, hw⟩ => ⟨?_, hw⟩
  rw [he]
  simp [codedB]
end Go.Proofs.YtgffkkijfmoooaaDoor
