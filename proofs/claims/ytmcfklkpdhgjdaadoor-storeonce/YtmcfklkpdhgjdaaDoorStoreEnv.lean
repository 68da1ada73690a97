/-
  Every world behind the statement's beginning: the errors are as they were; coded tells an error by its number.
-/
import Derived.Test.YtmcfklkpdhgjdaaDoorCode
import Derived.Test.YtmcfklkpdhgjdaaDoorRowRead
namespace Go.Proofs.YtmcfklkpdhgjdaaDoor
open Go.RowKit Go.Extern.Stop Go.Stop Go.Extern

/-- A world behind the one where the statement began. -/
def EMw (w : World) : World → Prop := fun W => Below w.heap.size w W
theorem EMw.errs {w W : World} {a : Nat → Addr} (h : EMw w W) (hE : Errs w a) : Errs W a := hE.below h

theorem coded2_of (v : Value) (c : Int) (w : World) (w1 : World → Prop)
    (hc : Calls Tryd.prog 30 #[v] w fun e w' => e = .returned (.tuple #[.int .i64 c, .int .i64 (-1)]) ∧ w1 w') :
    Calls Tryd.prog 22 #[v, .int .i64 c] w fun e w' => e = .returned (.bool true) ∧ w1 w' := by
  go_enter Tryd.func22, Tryd.ntmps22
  go_wp2_with (go_at_call 30; refine hc.mono ?_; rintro e w' ⟨rfl, hw⟩)
  go_ret
  exact ⟨by simp, hw⟩

theorem coded2_any (W : World) (a : Nat → Addr) (h : Errs W a) (n : Nat) (hn : n ≤ 12) :
    Calls Tryd.prog 22 #[errV a n, .int .i64 n] W fun e w' => e = .returned (.bool true) ∧ Below W.heap.size W w' := by
  cases n with
  | zero =>
    refine (coded2_of .nilIface 0 W (fun w' => w' = W) (code_nil W)).mono fun e w' ⟨he, hw⟩ => ⟨he, ?_⟩
    subst hw
    exact Below.refl _ _
  | succ i =>
    have hi : i < 12 := by omega
    obtain ⟨cp, tp, hp⟩ := h.block i hi
    have hcn : codeNum i = ((i + 1 : Nat) : Int) := by unfold codeNum; rw [if_pos hi]; rfl
    have hc := code_bare W a h (a i) cp tp hp i (fun n hn => ⟨fun e => (h.inj i n hi hn e).symm, fun e => e ▸ rfl⟩)
    rw [hcn] at hc
    exact coded2_of _ _ W _ hc
end Go.Proofs.YtmcfklkpdhgjdaaDoor
