/-
  One change of a table, done by one of two.
-/
import Derived.Test.YtijbmahnjonmmaaGreatDoorRefTxn1
namespace Go.Proofs.YtijbmahnjonmmaaGreatDoor
open Go.RowKit Go.Extern.Stop Go.Stop Go.Extern Go.Sort Go.Shelf Go.Lib

def ChIn (w : World) (v : Value) (l : List Ch) : Prop := ChsAt w v l ∧ l.length ≤ maxLen ∧ ∀ x ∈ l, x.2.2.size ≤ maxLen ∧ x.2.1.1.size ≤ maxLen ∧ x.2.1.2.1.size ≤ maxLen

theorem has_ptr {T : TypeId} {B : Nat} {W : World} {v : Value} {FP : Nat → Prop} {t : Tx} (h : TxHas T B W v FP t) : ∃ tb, v = .pointer (some ⟨tb, 0, none⟩) := by
  obtain ⟨tb, _, _, _, hv, _⟩ := h
  exact ⟨tb, hv⟩

theorem lo_add {B : Nat} {W : World} {N bx : Nat} {s : Sn} {vf pt pu : Value} {t u : Tx} {ad rm : List ByteArray} {sa sr : Value} (h : LoI B W N bx s vf pt pu t u ad rm sa sr) {cb : Nat} {x : Ch} (hc : CAt W cb x) (hcb : N ≤ cb) (a : Nat → Addr) (hE : EnvX W a) (hlen : t.2.1.length ≤ 1000) (h1 : x.2.1.1.size ≤ 100000) (h2 : x.2.1.2.1.size ≤ 100000) :
    Calls Tryz.prog 10 #[pt, flV x.2.1] W fun e w' => e = .returned (errV a (tAddE t x.2.1)) ∧ LoI B w' w'.heap.size bx s vf pt pu (tAdd t x.2.1) u ad rm sa sr ∧ CAt w' cb x ∧ Below B W w' := by
  obtain ⟨FT, FU, a1, a2, a3, a4⟩ := h.has
  have hB : B ≤ W.heap.size := by have := h.bxB; have := h.bxN; have := h.le; omega
  have hTb : ∀ k, FT k → B ≤ k := by
    obtain ⟨_, _, _, _, _, _, _, _, h8⟩ := a1
    exact fun k hk => (h8 k hk).1
  refine (add_any B pt FT t x.2.1 W a hE a1 hB hlen h1 h2).mono fun e w' ⟨he, hp⟩ => ?_
  obtain ⟨b1, b2⟩ := h.turned a1 a2 a3 a4 hp
  exact ⟨he, b1, hc.but b2 (fun e => by have := (a3 cb e).2.2.2.2; omega), b2.below hB hTb⟩
theorem lo_rem {B : Nat} {W : World} {N bx : Nat} {s : Sn} {vf pt pu : Value} {t u : Tx} {ad rm : List ByteArray} {sa sr : Value} (h : LoI B W N bx s vf pt pu t u ad rm sa sr) {cb : Nat} {x : Ch} (hc : CAt W cb x) (hcb : N ≤ cb) (a : Nat → Addr) (hE : EnvX W a) (hlen : t.2.2.length ≤ 1000) (hbl : t.1.2.2.2.2.2.2.length ≤ 1000) :
    Calls Tryz.prog 11 #[pt, .string x.2.2] W fun e w' => e = .returned (errV a (tRemE t x.2.2)) ∧ LoI B w' w'.heap.size bx s vf pt pu (tRem t x.2.2) u ad rm sa sr ∧ CAt w' cb x ∧ Below B W w' := by
  obtain ⟨FT, FU, a1, a2, a3, a4⟩ := h.has
  have hB : B ≤ W.heap.size := by have := h.bxB; have := h.bxN; have := h.le; omega
  have hTb : ∀ k, FT k → B ≤ k := by
    obtain ⟨_, _, _, _, _, _, _, _, h8⟩ := a1
    exact fun k hk => (h8 k hk).1
  refine (remove_any B pt FT t x.2.2 W a hE a1 hB hlen hbl).mono fun e w' ⟨he, hp⟩ => ?_
  obtain ⟨b1, b2⟩ := h.turned a1 a2 a3 a4 hp
  exact ⟨he, b1, hc.but b2 (fun e => by have := (a3 cb e).2.2.2.2; omega), b2.below hB hTb⟩

def LoStep (LA n : Nat) (s : Sn) (x : Ch) (first : Bool) (t u : Tx) (ad rm : List ByteArray) : Prop :=
  (x.1 = true → (tAddE (if first then t else u) x.2.1 = 0 → LoP LA (n + 1) s (if first then tAdd t x.2.1 else t) (if first then u else tAdd u x.2.1) (ad ++ [x.2.1.1]) rm) ∧ (tAddE (if first then t else u) x.2.1 ≠ 0 → LoP LA (n + 1) s (if first then tAdd t x.2.1 else t) (if first then u else tAdd u x.2.1) ad rm)) ∧
  (x.1 = false → (tRemE (if first then t else u) x.2.2 = 0 → LoP LA (n + 1) s (if first then tRem t x.2.2 else t) (if first then u else tRem u x.2.2) ad (rm ++ [x.2.2])) ∧ (tRemE (if first then t else u) x.2.2 ≠ 0 → LoP LA (n + 1) s (if first then tRem t x.2.2 else t) (if first then u else tRem u x.2.2) ad rm))

theorem lo_step {LA n : Nat} {s : Sn} {t u : Tx} {ad rm : List ByteArray} (h : LoP LA n s t u ad rm) (x : Ch) : LoStep LA n s x (decide (n < LA)) t u ad rm := by
  by_cases hn : n < LA
  · rw [decide_eq_true hn]
    refine ⟨fun _ => ⟨fun h0 => h.addT hn h0, fun h0 => ?_⟩, fun _ => ⟨fun h0 => h.remT hn h0, fun h0 => ?_⟩⟩
    · have e := tAdd_no (t := t) h0
      simp only [if_true]
      rw [e]; exact h.later
    · have e := tRem_no (t := t) h0
      simp only [if_true]
      rw [e]; exact h.later
  · rw [decide_eq_false hn]
    refine ⟨fun _ => ⟨fun h0 => h.addU hn h0, fun h0 => ?_⟩, fun _ => ⟨fun h0 => h.remU hn h0, fun h0 => ?_⟩⟩
    · have e := tAdd_no (t := u) h0
      simp only [Bool.false_eq_true, if_false]
      rw [e]; exact h.later
    · have e := tRem_no (t := u) h0
      simp only [Bool.false_eq_true, if_false]
      rw [e]; exact h.later
end Go.Proofs.YtijbmahnjonmmaaGreatDoor
