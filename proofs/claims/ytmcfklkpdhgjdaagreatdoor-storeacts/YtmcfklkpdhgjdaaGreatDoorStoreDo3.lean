/-
  Do of the statements' own: any act on both stores.
-/
import Derived.Test.YtmcfklkpdhgjdaaGreatDoorStoreDo2
namespace Go.Proofs.YtmcfklkpdhgjdaaGreatDoor
open Go.RowKit Go.Extern.Stop Go.Stop Go.Extern Go.Sort Go.Shelf Go.Lib

/-- What an act makes of a store. -/
def actS (s : St) (x : Ac) : St := if x.1 = ⟨#[112, 117, 116]⟩ then putS s x.2.1 x.2.2.1 else if x.1 = ⟨#[103, 101, 116]⟩ then s else if x.1 = ⟨#[100, 114, 111, 112]⟩ then dropS s x.2.1 else if x.1 = ⟨#[115, 119, 97, 112]⟩ then swapS s x.2.1 x.2.2.1 else if x.1 = ⟨#[99, 117, 116]⟩ then cutS s x.2.2.2 else if x.1 = ⟨#[111, 110]⟩ then onS s else if x.1 = ⟨#[110, 101, 120, 116]⟩ then nextS s x.2.2.2 else s

theorem do_any {a : Nat → Addr} {B : Nat} {EM : World → Prop} {SAt : World → Value → (Nat → Prop) → St → Prop} (K : StoreK a B EM SAt) (w0 W : World) (v : Value) (FP : Nat → Prop) (s : St) (b : Nat) (x : Ac) (h : Both EM SAt B w0 W v FP s b s) (KS : Keeps s) (hcx : s.cut ≤ 9223372036854775807) (hn : x.2.1.size ≤ 1000) (ht : x.2.2.1.size ≤ 100000) (hz : -9223372036854775808 ≤ x.2.2.2 ∧ x.2.2.2 ≤ 9223372036854775807) :
    Calls Tryz.prog 8 #[v, .pointer (some ⟨b, 0, none⟩), acV x] W fun e w' => e = .returned (.int .i64 1) ∧ ∃ FP', Both EM SAt B w0 w' v FP' (actS s x) b (actS s x) := by
  obtain ⟨k, n, t, z⟩ := x
  dsimp only at hn ht hz
  by_cases h0 : k = ⟨#[112, 117, 116]⟩
  · have e : actS s (k, n, t, z) = putS s n t := by unfold actS; dsimp only; rw [if_pos h0]
    rw [e, h0]
    exact do_put K w0 W v FP s b n t z h KS hcx hn ht hz
  by_cases h1 : k = ⟨#[103, 101, 116]⟩
  · have e : actS s (k, n, t, z) = s := by unfold actS; dsimp only; rw [if_neg h0, if_pos h1]
    rw [e, h1]
    exact do_get K w0 W v FP s b n t z h KS hcx hn ht hz
  by_cases h2 : k = ⟨#[100, 114, 111, 112]⟩
  · have e : actS s (k, n, t, z) = dropS s n := by unfold actS; dsimp only; rw [if_neg h0, if_neg h1, if_pos h2]
    rw [e, h2]
    exact do_drop K w0 W v FP s b n t z h KS hcx hn ht hz
  by_cases h3 : k = ⟨#[115, 119, 97, 112]⟩
  · have e : actS s (k, n, t, z) = swapS s n t := by unfold actS; dsimp only; rw [if_neg h0, if_neg h1, if_neg h2, if_pos h3]
    rw [e, h3]
    exact do_swap K w0 W v FP s b n t z h KS hcx hn ht hz
  by_cases h4 : k = ⟨#[99, 117, 116]⟩
  · have e : actS s (k, n, t, z) = cutS s z := by unfold actS; dsimp only; rw [if_neg h0, if_neg h1, if_neg h2, if_neg h3, if_pos h4]
    rw [e, h4]
    exact do_cut K w0 W v FP s b n t z h KS hcx hn ht hz
  by_cases h5 : k = ⟨#[111, 110]⟩
  · have e : actS s (k, n, t, z) = onS s := by unfold actS; dsimp only; rw [if_neg h0, if_neg h1, if_neg h2, if_neg h3, if_neg h4, if_pos h5]
    rw [e, h5]
    exact do_on K w0 W v FP s b n t z h KS hcx hn ht hz
  by_cases h6 : k = ⟨#[110, 101, 120, 116]⟩
  · have e : actS s (k, n, t, z) = nextS s z := by unfold actS; dsimp only; rw [if_neg h0, if_neg h1, if_neg h2, if_neg h3, if_neg h4, if_neg h5, if_pos h6]
    rw [e, h6]
    exact do_next K w0 W v FP s b n t z h KS hcx hn ht hz
  have e : actS s (k, n, t, z) = s := by unfold actS; dsimp only; rw [if_neg h0, if_neg h1, if_neg h2, if_neg h3, if_neg h4, if_neg h5, if_neg h6]
  rw [e]
  exact do_copy K w0 W v FP s b k n t z h KS h0 h1 h2 h3 h4 h5 h6

theorem actS_keeps {s : St} (K : Keeps s) (x : Ac) : Keeps (actS s x) := by
  unfold actS
  repeat' split
  · exact putS_keeps K _ _
  · exact K
  · exact dropS_keeps K _
  · exact swapS_keeps K _ _
  · exact cutS_keeps K _
  · exact onS_keeps K
  · exact nextS_keeps K _
  · exact K

theorem wrtS_top {s : St} (h : s.cut ≤ 9223372036854775807) (n : Nat) : (wrtS s n).2.cut ≤ 9223372036854775807 := by
  unfold wrtS
  repeat' split
  · exact h
  · exact h
  · show s.cut - n ≤ _
    omega
theorem actS_top {s : St} (h : s.cut ≤ 9223372036854775807) (x : Ac) (hz : x.2.2.2 ≤ 9223372036854775807) : (actS s x).cut ≤ 9223372036854775807 := by
  unfold actS
  repeat' split
  · unfold putS; split
    · exact h
    · exact wrtS_top h _
  · exact h
  · unfold dropS; split <;> exact h
  · unfold swapS
    repeat' split
    · exact h
    · exact wrtS_top h _
    · exact wrtS_top h _
  · unfold cutS; split
    · exact h
    · exact hz
  · show (-1 : Int) ≤ _
    omega
  · unfold nextS; split <;> exact h
  · exact h
end Go.Proofs.YtmcfklkpdhgjdaaGreatDoor
