/-
  The contract of the document's own DataOf.
-/
import Derived.Test.YtpkoefpdpoikkaaGreatDoorAs
namespace Go.Proofs.YtpkoefpdpoikkaaGreatDoor
open Go.RowKit Go.Extern.Stop Go.Stop Go.Extern

def errVar : Nat → Nat
  | 0 => 2
  | 1 => 1
  | 2 => 9
  | 3 => 0
  | 4 => 3
  | 5 => 6
  | 6 => 5
  | 7 => 4
  | 8 => 8
  | 9 => 7
  | 10 => 10
  | _ => 11

structure Errs (W : World) (a : Nat → Addr) : Prop where
  cell : ∀ i, i < 12 → W.cell? ⟨errVar i, 0, none⟩ = some (.iface 289 (.pointer (some (a i))))
  inj : ∀ i j, i < 12 → j < 12 → a i = a j → i = j
  block : ∀ i, i < 12 → ∃ c t, W.heap[(a i).block]? = some (.cells c t (0, 0))
  handle : W.cell? ⟨12, 0, none⟩ = some (.iface 247 (.agg #[.pointer (some ⟨21, 29, none⟩)]))

def Hand (W : World) : Prop := W.cell? ⟨12, 0, none⟩ = some (.iface 247 (.agg #[.pointer (some ⟨21, 29, none⟩)]))
theorem lt_of_cell {W : World} {p : Addr} {v : Value} (h : W.cell? p = some v) : p.block < W.heap.size := by
  rcases Nat.lt_or_ge p.block W.heap.size with h' | h'
  · exact h'
  · simp [World.cell?, Array.getElem?_eq_none h'] at h

theorem lt_of_heap {W : World} {b : Nat} {o : Obj} (h : W.heap[b]? = some o) : b < W.heap.size := by
  rcases Nat.lt_or_ge b W.heap.size with h' | h'
  · exact h'
  · simp [Array.getElem?_eq_none h'] at h

theorem Hand.below {W W' : World} (h : Hand W) (hb : Below W.heap.size W W') : Hand W' := (hb.cell (lt_of_cell h)).trans h
theorem Errs.below {W W' : World} {a : Nat → Addr} (h : Errs W a) (hb : Below W.heap.size W W') : Errs W' a where
  cell i hi := by rw [hb.cell (lt_of_cell (h.cell i hi))]; exact h.cell i hi
  inj := h.inj
  block i hi := by
    obtain ⟨c, t, hc⟩ := h.block i hi
    exact ⟨c, t, by rw [hb.block _ (lt_of_heap hc)]; exact hc⟩
  handle := by rw [hb.cell (lt_of_cell h.handle)]; exact h.handle

theorem code_nil (w : World) : Calls Tryz.prog 78 #[.nilIface] w fun e w' => e = .returned (.tuple #[.int .i64 0, .int .i64 (-1)]) ∧ w' = w := by
  go_enter Tryz.func78, Tryz.ntmps78
  go_wp2
  go_ret2
  exact ⟨rfl, rfl⟩

theorem list_cell (w : World) (a : Nat → Addr) (n : Nat) (hn : n < 12) : (w.alloc (.cells #[.iface 289 (.pointer (some (a 0))), .iface 289 (.pointer (some (a 1))), .iface 289 (.pointer (some (a 2))), .iface 289 (.pointer (some (a 3))), .iface 289 (.pointer (some (a 4))), .iface 289 (.pointer (some (a 5))), .iface 289 (.pointer (some (a 6))), .iface 289 (.pointer (some (a 7))), .iface 289 (.pointer (some (a 8))), .iface 289 (.pointer (some (a 9))), .iface 289 (.pointer (some (a 10))), .iface 289 (.pointer (some (a 11)))] 29)).cell? ⟨w.heap.size, n, none⟩ = some (.iface 289 (.pointer (some (a n)))) := by
  rw [World.cell?_alloc_at _ _ _ _ rfl]
  match n, hn with
  | 0, _ => rfl
  | 1, _ => rfl
  | 2, _ => rfl
  | 3, _ => rfl
  | 4, _ => rfl
  | 5, _ => rfl
  | 6, _ => rfl
  | 7, _ => rfl
  | 8, _ => rfl
  | 9, _ => rfl
  | 10, _ => rfl
  | 11, _ => rfl

theorem as_miss_below (e t : Addr) (w : World) (h : Hand w) :
    Calls Tryz.prog 129 #[.iface 289 (.pointer (some e)), .iface 169 (.pointer (some t))] w fun ev w' => ev = .returned (.bool false) ∧ Below w.heap.size w w' := by
  refine (as_miss e t w h).mono fun ev w' ⟨he, hw⟩ => ⟨he, ?_⟩
  subst hw
  exact (((Below.refl _ _).alloc (Nat.le_refl _) _).alloc (by simp) _).alloc (by simp; omega) _

theorem is_at (w : World) (a : Nat → Addr) (h : Errs w a) (p : Addr) (cp : Array Value) (tp : TypeId) (hp : w.heap[p.block]? = some (.cells cp tp (0, 0))) (i n : Nat) (hn : n < 12) (hpi : p = a n ↔ n = i) :
    Calls Tryz.prog 130 #[.iface 289 (.pointer (some p)), .iface 289 (.pointer (some (a n)))] w fun e w' => e = .returned (.bool (decide (n = i))) ∧ w' = w := by
  obtain ⟨c, t, hc⟩ := h.block n hn
  by_cases e : n = i
  · have e' := hpi.2 e
    subst e'
    simp only [e, decide_true]
    exact is_same _ w
  · have hne : p ≠ a n := fun x => e (hpi.1 x)
    simp only [e, decide_false]
    exact is_other _ _ _ _ _ _ w hne hp hc

theorem is_at_wrap (w : World) (a : Nat → Addr) (h : Errs w a) (pb po : Nat) (p : Addr) (h1 : w.cell? ⟨pb, po + 1, none⟩ = some (.iface 289 (.pointer (some p)))) (cp : Array Value) (tp : TypeId) (hp : w.heap[p.block]? = some (.cells cp tp (0, 0))) (i n : Nat) (hn : n < 12) (hpi : p = a n ↔ n = i) :
    Calls Tryz.prog 130 #[.iface 108 (.pointer (some ⟨pb, po, none⟩)), .iface 289 (.pointer (some (a n)))] w fun e w' => e = .returned (.bool (decide (n = i))) ∧ w' = w := by
  obtain ⟨c, t, hc⟩ := h.block n hn
  by_cases e : n = i
  · have e' := hpi.2 e
    subst e'
    simp only [e, decide_true]
    exact is_wrap_same _ _ _ w (e ▸ h1)
  · have hne : p ≠ a n := fun x => e (hpi.1 x)
    simp only [e, decide_false]
    exact is_wrap_other _ _ _ _ _ _ _ _ w h1 hne hp hc

theorem ne_succ {n i : Nat} (hm : ∀ m, m < n → m ≠ i) (e : ¬ n = i) : ∀ m, m < n + 1 → m ≠ i := fun m h => by
  rcases Nat.lt_or_ge m n with h' | h'
  · exact hm m h'
  · obtain rfl : m = n := by omega
    exact e

def codeNum (i : Nat) : Int := if i < 12 then (i : Int) + 1 else -1

set_option maxHeartbeats 1000000 in
theorem code_bare (w : World) (a : Nat → Addr) (h : Errs w a) (p : Addr) (cp : Array Value) (tp : TypeId) (hp : w.heap[p.block]? = some (.cells cp tp (0, 0))) (i : Nat) (hpi : ∀ n, n < 12 → (p = a n ↔ n = i)) :
    Calls Tryz.prog 78 #[.iface 289 (.pointer (some p))] w fun e w' => e = .returned (.tuple #[.int .i64 (codeNum i), .int .i64 (-1)]) ∧ Below w.heap.size w w' := by
  have hE : Errs (w.alloc (.cells #[.pointer none] 108)) a := h.below ((Below.refl _ _).alloc (Nat.le_refl _) _)
  have hb0 : Below w.heap.size w (w.alloc (.cells #[.pointer none] 108)) := (Below.refl _ _).alloc (Nat.le_refl _) _
  go_enter Tryz.func78, Tryz.ntmps78
  go_wp2_with (go_at_call 129; refine (as_miss_below _ _ _ hE.handle).mono ?_; rintro e w1 ⟨rfl, hb⟩; have e1 := hE.below hb; have c0 : w1.cell? ⟨2, 0, none⟩ = some (.iface 289 (.pointer (some (a 0)))) := e1.cell 0 (by decide); have c1 : w1.cell? ⟨1, 0, none⟩ = some (.iface 289 (.pointer (some (a 1)))) := e1.cell 1 (by decide); have c2 : w1.cell? ⟨9, 0, none⟩ = some (.iface 289 (.pointer (some (a 2)))) := e1.cell 2 (by decide); have c3 : w1.cell? ⟨0, 0, none⟩ = some (.iface 289 (.pointer (some (a 3)))) := e1.cell 3 (by decide); have c4 : w1.cell? ⟨3, 0, none⟩ = some (.iface 289 (.pointer (some (a 4)))) := e1.cell 4 (by decide); have c5 : w1.cell? ⟨6, 0, none⟩ = some (.iface 289 (.pointer (some (a 5)))) := e1.cell 5 (by decide); have c6 : w1.cell? ⟨5, 0, none⟩ = some (.iface 289 (.pointer (some (a 6)))) := e1.cell 6 (by decide); have c7 : w1.cell? ⟨4, 0, none⟩ = some (.iface 289 (.pointer (some (a 7)))) := e1.cell 7 (by decide); have c8 : w1.cell? ⟨8, 0, none⟩ = some (.iface 289 (.pointer (some (a 8)))) := e1.cell 8 (by decide); have c9 : w1.cell? ⟨7, 0, none⟩ = some (.iface 289 (.pointer (some (a 9)))) := e1.cell 9 (by decide); have c10 : w1.cell? ⟨10, 0, none⟩ = some (.iface 289 (.pointer (some (a 10)))) := e1.cell 10 (by decide); have c11 : w1.cell? ⟨11, 0, none⟩ = some (.iface 289 (.pointer (some (a 11)))) := e1.cell 11 (by decide))
  have hB : Below w.heap.size w w1 := hb0.trans (hb.mono (by simp))
  have hB2 : Below w.heap.size w (w1.alloc (.cells #[.iface 289 (.pointer (some (a 0))), .iface 289 (.pointer (some (a 1))), .iface 289 (.pointer (some (a 2))), .iface 289 (.pointer (some (a 3))), .iface 289 (.pointer (some (a 4))), .iface 289 (.pointer (some (a 5))), .iface 289 (.pointer (some (a 6))), .iface 289 (.pointer (some (a 7))), .iface 289 (.pointer (some (a 8))), .iface 289 (.pointer (some (a 9))), .iface 289 (.pointer (some (a 10))), .iface 289 (.pointer (some (a 11)))] 29)) := hB.alloc hB.size _
  have hE2 : Errs (w1.alloc (.cells #[.iface 289 (.pointer (some (a 0))), .iface 289 (.pointer (some (a 1))), .iface 289 (.pointer (some (a 2))), .iface 289 (.pointer (some (a 3))), .iface 289 (.pointer (some (a 4))), .iface 289 (.pointer (some (a 5))), .iface 289 (.pointer (some (a 6))), .iface 289 (.pointer (some (a 7))), .iface 289 (.pointer (some (a 8))), .iface 289 (.pointer (some (a 9))), .iface 289 (.pointer (some (a 10))), .iface 289 (.pointer (some (a 11)))] 29)) a := h.below hB2
  have hp2 : (w1.alloc (.cells #[.iface 289 (.pointer (some (a 0))), .iface 289 (.pointer (some (a 1))), .iface 289 (.pointer (some (a 2))), .iface 289 (.pointer (some (a 3))), .iface 289 (.pointer (some (a 4))), .iface 289 (.pointer (some (a 5))), .iface 289 (.pointer (some (a 6))), .iface 289 (.pointer (some (a 7))), .iface 289 (.pointer (some (a 8))), .iface 289 (.pointer (some (a 9))), .iface 289 (.pointer (some (a 10))), .iface 289 (.pointer (some (a 11)))] 29)).heap[p.block]? = some (.cells cp tp (0, 0)) := by rw [hB2.block _ (lt_of_heap hp)]; exact hp
  have hl := list_cell w1 a
  clear c0 c1 c2 c3 c4 c5 c6 c7 c8 c9 c10 c11
  go_loop [3, 30] (fun t k => t = .int .i64 (-1) ∧ ∃ n : Nat, n ≤ 12 ∧ (∀ m, m < n → m ≠ i) ∧ k = .int .i64 n) (fun _ k => 12 - (intOf k).toNat)
  case atStart => exact ⟨rfl, 0, by omega, by omega, rfl⟩
  case round =>
    obtain ⟨rfl, n, hn, hm, rfl⟩ := hrel
    by_cases hlt : n < 12
    · have hcell := hl n hlt
      have his := is_at _ a hE2 p cp tp hp2 i n hlt (hpi n hlt)
      by_cases e : n = i
      · have hd : decide (n = i) = true := by simp [e]
        rw [hd] at his
        have hcn : codeNum i = (n : Int) + 1 := by unfold codeNum; rw [if_pos (by omega), e]
        have HC : Hid (codeNum i = (n : Int) + 1) := hcn
        clear hcn hd e hm hl
        go_wp2_with (go_at_call 130; refine his.mono ?_; rintro e w' ⟨rfl, rfl⟩)
        go_ret2
        exact ⟨by rw [HC.out]; rfl, hB2⟩
      · have hd : decide (n = i) = false := by simp [e]
        rw [hd] at his
        go_wp2_with (go_at_call 130; refine his.mono ?_; rintro e w' ⟨rfl, rfl⟩)
        go_round
        case rel => exact ⟨rfl, n + 1, by omega, ne_succ hm e, by go_num⟩
        case measure => simp [intOf]; omega
    · have hcn : codeNum i = -1 := by
        unfold codeNum
        rw [if_neg]
        intro hi
        exact hm i (by omega) rfl
      have HC : Hid (codeNum i = -1) := hcn
      have hn12 : n = 12 := by omega
      subst hn12
      clear hcn hm hl
      go_wp2
      go_ret2
      exact ⟨by rw [HC.out]; rfl, hB2⟩
theorem as_hit_below (e : Addr) (w : World) (h : Hand w) :
    Calls Tryz.prog 129 #[.iface 108 (.pointer (some e)), .iface 169 (.pointer (some ⟨w.heap.size, 0, none⟩))] (w.alloc (.cells #[.pointer none] 108)) fun ev w' => ev = .returned (.bool true) ∧ Below w.heap.size w w' ∧ w'.cell? ⟨w.heap.size, 0, none⟩ = some (.pointer (some e)) := by
  have hb0 : Below w.heap.size w (w.alloc (.cells #[.pointer none] 108)) := (Below.refl _ _).alloc (Nat.le_refl _) _
  refine (as_hit e ⟨w.heap.size, 0, none⟩ (.pointer none) _ (h.below hb0) (by simp) (by simp)).mono fun ev w' ⟨he, hw⟩ => ⟨he, ?_, ?_⟩
  · subst hw
    exact ((((hb0.alloc (by simp) _).alloc (by simp; omega) _).alloc (by simp; omega) _).alloc (by simp; omega) _).setCell (by simp) _
  · subst hw
    refine World.cell?_setCell_same (u := .pointer none) _ _ _ ?_
    rw [World.cell?_alloc_lt _ _ ⟨w.heap.size, 0, none⟩ (by simp; omega), World.cell?_alloc_lt _ _ ⟨w.heap.size, 0, none⟩ (by simp; omega), World.cell?_alloc_lt _ _ ⟨w.heap.size, 0, none⟩ (by simp; omega), World.cell?_alloc_lt _ _ ⟨w.heap.size, 0, none⟩ (by simp)]
    simp

set_option maxHeartbeats 1000000 in
theorem code_fault (w : World) (a : Nat → Addr) (h : Errs w a) (pb po : Nat) (at_ : Int) (h0 : w.cell? ⟨pb, po, none⟩ = some (.int .i64 at_)) (p : Addr) (h1 : w.cell? ⟨pb, po + 1, none⟩ = some (.iface 289 (.pointer (some p)))) (cp : Array Value) (tp : TypeId) (hp : w.heap[p.block]? = some (.cells cp tp (0, 0))) (i : Nat) (hpi : ∀ n, n < 12 → (p = a n ↔ n = i)) :
    Calls Tryz.prog 78 #[.iface 108 (.pointer (some ⟨pb, po, none⟩))] w fun e w' => e = .returned (.tuple #[.int .i64 (codeNum i), .int .i64 at_]) ∧ Below w.heap.size w w' := by
  go_enter Tryz.func78, Tryz.ntmps78
  go_wp2_with (go_at_call 129; refine (as_hit_below _ w h.handle).mono ?_; rintro e w1 ⟨rfl, hB, ht⟩; have e1 := h.below hB; have f0 : w1.cell? ⟨pb, po, none⟩ = some (.int .i64 at_) := (hB.cell (lt_of_cell h0)).trans h0; have c0 : w1.cell? ⟨2, 0, none⟩ = some (.iface 289 (.pointer (some (a 0)))) := e1.cell 0 (by decide); have c1 : w1.cell? ⟨1, 0, none⟩ = some (.iface 289 (.pointer (some (a 1)))) := e1.cell 1 (by decide); have c2 : w1.cell? ⟨9, 0, none⟩ = some (.iface 289 (.pointer (some (a 2)))) := e1.cell 2 (by decide); have c3 : w1.cell? ⟨0, 0, none⟩ = some (.iface 289 (.pointer (some (a 3)))) := e1.cell 3 (by decide); have c4 : w1.cell? ⟨3, 0, none⟩ = some (.iface 289 (.pointer (some (a 4)))) := e1.cell 4 (by decide); have c5 : w1.cell? ⟨6, 0, none⟩ = some (.iface 289 (.pointer (some (a 5)))) := e1.cell 5 (by decide); have c6 : w1.cell? ⟨5, 0, none⟩ = some (.iface 289 (.pointer (some (a 6)))) := e1.cell 6 (by decide); have c7 : w1.cell? ⟨4, 0, none⟩ = some (.iface 289 (.pointer (some (a 7)))) := e1.cell 7 (by decide); have c8 : w1.cell? ⟨8, 0, none⟩ = some (.iface 289 (.pointer (some (a 8)))) := e1.cell 8 (by decide); have c9 : w1.cell? ⟨7, 0, none⟩ = some (.iface 289 (.pointer (some (a 9)))) := e1.cell 9 (by decide); have c10 : w1.cell? ⟨10, 0, none⟩ = some (.iface 289 (.pointer (some (a 10)))) := e1.cell 10 (by decide); have c11 : w1.cell? ⟨11, 0, none⟩ = some (.iface 289 (.pointer (some (a 11)))) := e1.cell 11 (by decide))
  have hB2 : Below w.heap.size w (w1.alloc (.cells #[.iface 289 (.pointer (some (a 0))), .iface 289 (.pointer (some (a 1))), .iface 289 (.pointer (some (a 2))), .iface 289 (.pointer (some (a 3))), .iface 289 (.pointer (some (a 4))), .iface 289 (.pointer (some (a 5))), .iface 289 (.pointer (some (a 6))), .iface 289 (.pointer (some (a 7))), .iface 289 (.pointer (some (a 8))), .iface 289 (.pointer (some (a 9))), .iface 289 (.pointer (some (a 10))), .iface 289 (.pointer (some (a 11)))] 29)) := hB.alloc hB.size _
  have hE2 : Errs (w1.alloc (.cells #[.iface 289 (.pointer (some (a 0))), .iface 289 (.pointer (some (a 1))), .iface 289 (.pointer (some (a 2))), .iface 289 (.pointer (some (a 3))), .iface 289 (.pointer (some (a 4))), .iface 289 (.pointer (some (a 5))), .iface 289 (.pointer (some (a 6))), .iface 289 (.pointer (some (a 7))), .iface 289 (.pointer (some (a 8))), .iface 289 (.pointer (some (a 9))), .iface 289 (.pointer (some (a 10))), .iface 289 (.pointer (some (a 11)))] 29)) a := h.below hB2
  have hp2 : (w1.alloc (.cells #[.iface 289 (.pointer (some (a 0))), .iface 289 (.pointer (some (a 1))), .iface 289 (.pointer (some (a 2))), .iface 289 (.pointer (some (a 3))), .iface 289 (.pointer (some (a 4))), .iface 289 (.pointer (some (a 5))), .iface 289 (.pointer (some (a 6))), .iface 289 (.pointer (some (a 7))), .iface 289 (.pointer (some (a 8))), .iface 289 (.pointer (some (a 9))), .iface 289 (.pointer (some (a 10))), .iface 289 (.pointer (some (a 11)))] 29)).heap[p.block]? = some (.cells cp tp (0, 0)) := by rw [hB2.block _ (lt_of_heap hp)]; exact hp
  have hl := list_cell w1 a
  have f1 : (w1.alloc (.cells #[.iface 289 (.pointer (some (a 0))), .iface 289 (.pointer (some (a 1))), .iface 289 (.pointer (some (a 2))), .iface 289 (.pointer (some (a 3))), .iface 289 (.pointer (some (a 4))), .iface 289 (.pointer (some (a 5))), .iface 289 (.pointer (some (a 6))), .iface 289 (.pointer (some (a 7))), .iface 289 (.pointer (some (a 8))), .iface 289 (.pointer (some (a 9))), .iface 289 (.pointer (some (a 10))), .iface 289 (.pointer (some (a 11)))] 29)).cell? ⟨pb, po + 1, none⟩ = some (.iface 289 (.pointer (some p))) := by rw [hB2.cell (lt_of_cell h1)]; exact h1
  clear f0 ht c0 c1 c2 c3 c4 c5 c6 c7 c8 c9 c10 c11
  go_loop [3, 30] (fun t k => t = .int .i64 at_ ∧ ∃ n : Nat, n ≤ 12 ∧ (∀ m, m < n → m ≠ i) ∧ k = .int .i64 n) (fun _ k => 12 - (intOf k).toNat)
  case atStart => exact ⟨rfl, 0, by omega, by omega, rfl⟩
  case round =>
    obtain ⟨rfl, n, hn, hm, rfl⟩ := hrel
    by_cases hlt : n < 12
    · have hcell := hl n hlt
      have his := is_at_wrap _ a hE2 pb po p f1 cp tp hp2 i n hlt (hpi n hlt)
      by_cases e : n = i
      · have hd : decide (n = i) = true := by simp [e]
        rw [hd] at his
        have hcn : codeNum i = (n : Int) + 1 := by unfold codeNum; rw [if_pos (by omega), e]
        have HC : Hid (codeNum i = (n : Int) + 1) := hcn
        clear hcn hd e hm hl
        go_wp2_with (go_at_call 130; refine his.mono ?_; rintro e w' ⟨rfl, rfl⟩)
        go_ret2
        exact ⟨by rw [HC.out]; rfl, hB2⟩
      · have hd : decide (n = i) = false := by simp [e]
        rw [hd] at his
        go_wp2_with (go_at_call 130; refine his.mono ?_; rintro e w' ⟨rfl, rfl⟩)
        go_round
        case rel => exact ⟨rfl, n + 1, by omega, ne_succ hm e, by go_num⟩
        case measure => simp [intOf]; omega
    · have hcn : codeNum i = -1 := by
        unfold codeNum
        rw [if_neg]
        intro hi
        exact hm i (by omega) rfl
      have HC : Hid (codeNum i = -1) := hcn
      have hn12 : n = 12 := by omega
      subst hn12
      clear hcn hm hl
      go_wp2
      go_ret2
      exact ⟨by rw [HC.out]; rfl, hB2⟩
end Go.Proofs.YtpkoefpdpoikkaaGreatDoor
namespace Go.Proofs.YtpkoefpdpoikkaaGreatDoor
open Go.RowKit Go.Extern.Stop Go.Stop Go.Extern

def codedB (x y c : Int) : Bool := decide (x = c) && decide (y = -1)

theorem coded_of (v : Value) (x y c : Int) (w : World) (w1 : World → Prop)
    (hc : Calls Tryz.prog 78 #[v] w fun e w' => e = .returned (.tuple #[.int .i64 x, .int .i64 y]) ∧ w1 w') :
    Calls Tryz.prog 20 #[v, .int .i64 c] w fun e w' => e = .returned (.bool (codedB x y c)) ∧ w1 w' := by
  unfold codedB
  by_cases h1 : x = c
  · subst h1
    by_cases h2 : y = -1
    · subst h2
      go_enter Tryz.func20, Tryz.ntmps20
      go_wp2_with (go_at_call 78; refine hc.mono ?_; rintro e w' ⟨rfl, hw⟩)
      go_ret
      exact ⟨by simp, hw⟩
    · go_enter Tryz.func20, Tryz.ntmps20
      go_wp2_with (go_at_call 78; refine hc.mono ?_; rintro e w' ⟨rfl, hw⟩)
      go_ret
      exact ⟨by simp [h2], hw⟩
  · go_enter Tryz.func20, Tryz.ntmps20
    go_wp2_with (go_at_call 78; refine hc.mono ?_; rintro e w' ⟨rfl, hw⟩)
    go_ret
    exact ⟨by simp [h1], hw⟩

theorem coded_bare (w : World) (a : Nat → Addr) (h : Errs w a) (i : Nat) (hi : i < 12) (c : Int) :
    Calls Tryz.prog 20 #[.iface 289 (.pointer (some (a i))), .int .i64 c] w fun e w' => e = .returned (.bool (decide ((i : Int) + 1 = c))) ∧ Below w.heap.size w w' := by
  obtain ⟨cp, tp, hp⟩ := h.block i hi
  have hcn : codeNum i = (i : Int) + 1 := by unfold codeNum; rw [if_pos hi]
  have hc := code_bare w a h (a i) cp tp hp i (fun n hn => ⟨fun e => (h.inj i n hi hn e).symm, fun e => e ▸ rfl⟩)
  refine (coded_of _ _ _ c w _ hc).mono fun e w' ⟨he, hw⟩ => ⟨?_, hw⟩
  rw [he, hcn]
  simp [codedB]

theorem coded_nil (w : World) (c : Int) :
    Calls Tryz.prog 20 #[.nilIface, .int .i64 c] w fun e w' => e = .returned (.bool (decide (0 = c))) ∧ w' = w := by
  refine (coded_of .nilIface 0 (-1) c w (fun w' => w' = w) (code_nil w)).mono fun e w' ⟨he, hw⟩ => ⟨?_, hw⟩
  rw [he]
  simp [codedB]
end Go.Proofs.YtpkoefpdpoikkaaGreatDoor
namespace Go.Proofs.YtpkoefpdpoikkaaGreatDoor
open Go.RowKit Go.Extern.Stop Go.Stop Go.Extern Go.Sort Go.Shelf Go.Lib

theorem coded_same (n : Nat) (hn : n ≤ 12) (w : World) (a : Nat → Addr) (h : Errs w a) :
    Calls Tryz.prog 20 #[errV a n, .int .i64 n] w fun e w' => e = .returned (.bool true) ∧ Below w.heap.size w w' := by
  cases n with
  | zero =>
    refine (coded_nil w 0).mono fun e w' ⟨he, hw⟩ => ⟨he, ?_⟩
    subst hw; exact Below.refl _ _
  | succ n =>
    refine (coded_bare w a h n (by omega) ((n + 1 : Nat) : Int)).mono fun e w' ⟨he, hw⟩ => ⟨?_, hw⟩
    rw [he]
    simp

theorem err_code (n : Nat) (hn : n ≤ 12) (w : World) (a : Nat → Addr) (h : Errs w a) :
    Calls Tryz.prog 78 #[errV a n] w fun e w' => e = .returned (.tuple #[.int .i64 n, .int .i64 (-1)]) ∧ Below w.heap.size w w' := by
  cases n with
  | zero =>
    refine (code_nil w).mono fun e w' ⟨he, hw⟩ => ⟨he, ?_⟩
    subst hw; exact Below.refl _ _
  | succ i =>
    have hi : i < 12 := by omega
    obtain ⟨cp, tp, hp⟩ := h.block i hi
    have hcn : codeNum i = (i : Int) + 1 := by unfold codeNum; rw [if_pos hi]
    refine (code_bare w a h (a i) cp tp hp i (fun n hn => ⟨fun e => (h.inj i n hi hn e).symm, fun e => e ▸ rfl⟩)).mono fun e w' ⟨he, hw⟩ => ⟨?_, hw⟩
    rw [he, hcn]
    simp

theorem fault_code (n : Nat) (h0 : n ≠ 0) (hn : n ≤ 12) (w : World) (a : Nat → Addr) (h : Errs w a) (fb : Nat) (j : Int) (c0 : w.cell? ⟨fb, 0, none⟩ = some (.int .i64 j)) (c1 : w.cell? ⟨fb, 1, none⟩ = some (errV a n)) :
    Calls Tryz.prog 78 #[.iface 108 (.pointer (some ⟨fb, 0, none⟩))] w fun e w' => e = .returned (.tuple #[.int .i64 n, .int .i64 j]) ∧ Below w.heap.size w w' := by
  cases n with
  | zero => exact absurd rfl h0
  | succ i =>
    have hi : i < 12 := by omega
    obtain ⟨cp, tp, hp⟩ := h.block i hi
    have hcn : codeNum i = (i : Int) + 1 := by unfold codeNum; rw [if_pos hi]
    refine (code_fault w a h fb 0 j c0 (a i) c1 cp tp hp i (fun n hn => ⟨fun e => (h.inj i n hi hn e).symm, fun e => e ▸ rfl⟩)).mono fun e w' ⟨he, hw⟩ => ⟨?_, hw⟩
    rw [he, hcn]
    simp

end Go.Proofs.YtpkoefpdpoikkaaGreatDoor
namespace Go.Proofs.YtpkoefpdpoikkaaGreatDoor
open Go.RowKit Go.Extern.Stop Go.Stop Go.Extern Go.Sort Go.Shelf Go.Lib

theorem fine_of (w : World) : Calls Tryz.prog 101 #[] w fun e w' => e = .returned (.agg #[.int .i64 0, .int .i64 (-1)]) ∧ Below w.heap.size w w' := by
  go_enter Tryz.func101, Tryz.ntmps101
  go_wp2
  refine bodyPost_ret (v := .agg #[.int .i64 0, .int .i64 (-1)]) (by simp [results, Tryz.results101, go_sem]) rfl ⟨rfl, ?_⟩
  exact (Below.refl _ _).alloc (Nat.le_refl _) _

theorem bare_of (n : Int) (w : World) : Calls Tryz.prog 99 #[.int .i64 n] w fun e w' => e = .returned (.agg #[.int .i64 n, .int .i64 (-1)]) ∧ Below w.heap.size w w' := by
  go_enter Tryz.func99, Tryz.ntmps99
  go_wp2
  refine bodyPost_ret (v := .agg #[.int .i64 n, .int .i64 (-1)]) (by simp [results, Tryz.results99, go_sem]) rfl ⟨rfl, ?_⟩
  exact (Below.refl _ _).alloc (Nat.le_refl _) _

def FC (W : World) (F : Nat) (x y : Int) : Prop := W.heap[F]? = some (.cells #[.int .i64 x, .int .i64 y] 64 (0, 0))
theorem FC.lt {W : World} {F : Nat} {x y : Int} (h : FC W F x y) : F < W.heap.size := lt_of_block h
theorem FC.below {W W' : World} {F : Nat} {x y : Int} (h : FC W F x y) (hb : Below W.heap.size W W') : FC W' F x y := (hb.block F h.lt).trans h
theorem FC.c0 {W : World} {F : Nat} {x y : Int} (h : FC W F x y) : W.cell? ⟨F, 0, none⟩ = some (.int .i64 x) := by rw [cell_of_row _ _ _ _ _ _ h]; rfl
theorem FC.c1 {W : World} {F : Nat} {x y : Int} (h : FC W F x y) : W.cell? ⟨F, 1, none⟩ = some (.int .i64 y) := by rw [cell_of_row _ _ _ _ _ _ h]; rfl
theorem FC.fz {W : World} {F : Nat} {x y : Int} (h : FC W F x y) (o : Nat) : W.frozen? ⟨F, o, none⟩ = false := frozen_of_row _ _ _ _ _ h
theorem FC.new (w : World) : FC (w.alloc (.cells #[.int .i64 0, .int .i64 0] 64)) w.heap.size 0 0 := heap_alloc_new _ _
theorem FC.set {W : World} {F : Nat} {x y : Int} (h : FC W F x y) (a b : Int) : FC ((W.setCell ⟨F, 0, none⟩ (.int .i64 a)).setCell ⟨F, 1, none⟩ (.int .i64 b)) F a b := by
  have h1 : (W.setCell ⟨F, 0, none⟩ (.int .i64 a)).heap[F]? = some (.cells #[.int .i64 a, .int .i64 y] 64 (0, 0)) := by
    rw [heap_setCell_same _ _ _ _ _ _ h]; rfl
  show _ = _
  rw [heap_setCell_same _ _ _ _ _ _ h1]; rfl

end Go.Proofs.YtpkoefpdpoikkaaGreatDoor
