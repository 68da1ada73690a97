/-
  The walk of Names: wherever the errors of package api lie as they were laid, the call returns true, and what was there is as it was.
-/
import Derived.Test.YtgffkkijfmoooaaDoorCoded
import Derived.Test.YtgffkkijfmoooaaDoorSameInts
namespace Go.Proofs.YtgffkkijfmoooaaDoor
open Go.RowKit Go.Extern.Stop Go.Stop Go.Extern

def bounds : Nat → Int := fun i => [1073741824, 8, 40, 60, 40, 20000, 200, 262144, 100000, 80, 16].getD i 0

theorem drewN_cell (w : World) (n : Nat) (p : Addr) : (w.drewN n).cell? p = w.cell? p := rfl

theorem heap_new (w : World) (o : Obj) : (w.alloc o).heap[w.heap.size]? = some o := by
  show (w.heap.push o)[w.heap.size]? = some o
  simp

theorem new_any (s : ByteArray) (w : World) : Calls Tryd.prog 7 #[.string s] w fun e w' => e = .returned (.iface 38 (.pointer (some ⟨w.heap.size, 0, none⟩))) ∧ w' = w.alloc (.cells #[.string s] 40) := by
  go_enter Tryd.func7, Tryd.ntmps7
  go_wp2
  go_ret
  exact ⟨rfl, rfl⟩

theorem ints_cell (i : Nat) (hi : i < 11) : (#[.int .i64 1073741824, .int .i64 8, .int .i64 40, .int .i64 60, .int .i64 40, .int .i64 20000, .int .i64 200, .int .i64 262144, .int .i64 100000, .int .i64 80, .int .i64 16] : Array Value)[i]? = some (.int .i64 (bounds i)) := by
  match i, hi with
  | 0, _ => rfl
  | 1, _ => rfl
  | 2, _ => rfl
  | 3, _ => rfl
  | 4, _ => rfl
  | 5, _ => rfl
  | 6, _ => rfl
  | 7, _ => rfl
  | 8, _ => rfl
  | 9, _ => rfl
  | 10, _ => rfl

theorem sameInts_bounds (w : World) :
    Calls Tryd.prog 4 #[.slice (some ⟨w.heap.size, 0, none⟩) 11 11, .slice (some ⟨w.heap.size + 1, 0, none⟩) 11 11] ((w.alloc (.cells #[.int .i64 1073741824, .int .i64 8, .int .i64 40, .int .i64 60, .int .i64 40, .int .i64 20000, .int .i64 200, .int .i64 262144, .int .i64 100000, .int .i64 80, .int .i64 16] 3)).alloc (.cells #[.int .i64 1073741824, .int .i64 8, .int .i64 40, .int .i64 60, .int .i64 40, .int .i64 20000, .int .i64 200, .int .i64 262144, .int .i64 100000, .int .i64 80, .int .i64 16] 3)) fun e w' => e = .returned (.bool true) ∧ Below w.heap.size w w' := by
  have hb : Below w.heap.size w ((w.alloc (.cells #[.int .i64 1073741824, .int .i64 8, .int .i64 40, .int .i64 60, .int .i64 40, .int .i64 20000, .int .i64 200, .int .i64 262144, .int .i64 100000, .int .i64 80, .int .i64 16] 3)).alloc (.cells #[.int .i64 1073741824, .int .i64 8, .int .i64 40, .int .i64 60, .int .i64 40, .int .i64 20000, .int .i64 200, .int .i64 262144, .int .i64 100000, .int .i64 80, .int .i64 16] 3)) := ((Below.refl _ _).alloc (Nat.le_refl _) _).alloc (by simp) _
  refine (sameInts_eq _ w.heap.size 0 (w.heap.size + 1) 0 11 11 11 bounds bounds (by decide) (fun i hi => ?_) (fun i hi => ?_)).mono fun e w' ⟨⟨r, he, hr⟩, n, hw⟩ => ⟨?_, ?_⟩
  · rw [World.cell?_alloc_lt _ _ ⟨w.heap.size, 0 + i, none⟩ (by simp), World.cell?_alloc_at _ _ _ _ rfl, Nat.zero_add]
    exact ints_cell i hi
  · rw [World.cell?_alloc_at _ _ _ _ (by simp), Nat.zero_add]
    exact ints_cell i hi
  · rw [he, hr.2 (fun _ _ => rfl)]
  · subst hw
    exact ⟨hb.os, hb.tape, hb.output, hb.size, hb.block⟩

set_option maxHeartbeats 1000000 in
theorem names_any (w : World) (a : Nat → Addr) (h : Errs w a) :
    Calls Tryd.prog 3 #[] w fun e w' => e = .returned (.bool true) ∧ Below w.heap.size w w' := by
  go_enter Tryd.func3, Tryd.ntmps3
  go_wp2_with (go_at_call 4; refine (sameInts_bounds w).mono ?_; rintro e w1 ⟨rfl, hb⟩; have e1 := h.below hb; have c0 : w1.cell? ⟨0, 0, none⟩ = some (.iface 38 (.pointer (some (a 0)))) := e1.cell 0 (by decide); have c1 : w1.cell? ⟨1, 0, none⟩ = some (.iface 38 (.pointer (some (a 1)))) := e1.cell 1 (by decide); have c2 : w1.cell? ⟨2, 0, none⟩ = some (.iface 38 (.pointer (some (a 2)))) := e1.cell 2 (by decide); have c3 : w1.cell? ⟨3, 0, none⟩ = some (.iface 38 (.pointer (some (a 3)))) := e1.cell 3 (by decide); have c4 : w1.cell? ⟨4, 0, none⟩ = some (.iface 38 (.pointer (some (a 4)))) := e1.cell 4 (by decide); have c5 : w1.cell? ⟨5, 0, none⟩ = some (.iface 38 (.pointer (some (a 5)))) := e1.cell 5 (by decide); have c6 : w1.cell? ⟨6, 0, none⟩ = some (.iface 38 (.pointer (some (a 6)))) := e1.cell 6 (by decide); have c7 : w1.cell? ⟨7, 0, none⟩ = some (.iface 38 (.pointer (some (a 7)))) := e1.cell 7 (by decide); have c8 : w1.cell? ⟨8, 0, none⟩ = some (.iface 38 (.pointer (some (a 8)))) := e1.cell 8 (by decide); have c9 : w1.cell? ⟨9, 0, none⟩ = some (.iface 38 (.pointer (some (a 9)))) := e1.cell 9 (by decide); have c10 : w1.cell? ⟨10, 0, none⟩ = some (.iface 38 (.pointer (some (a 10)))) := e1.cell 10 (by decide); have c11 : w1.cell? ⟨11, 0, none⟩ = some (.iface 38 (.pointer (some (a 11)))) := e1.cell 11 (by decide))
  have hB2 : Below w.heap.size w (w1.alloc (.cells #[.iface 38 (.pointer (some (a 0))), .iface 38 (.pointer (some (a 1))), .iface 38 (.pointer (some (a 2))), .iface 38 (.pointer (some (a 3))), .iface 38 (.pointer (some (a 4))), .iface 38 (.pointer (some (a 5))), .iface 38 (.pointer (some (a 6))), .iface 38 (.pointer (some (a 7))), .iface 38 (.pointer (some (a 8))), .iface 38 (.pointer (some (a 9))), .iface 38 (.pointer (some (a 10))), .iface 38 (.pointer (some (a 11)))] 25)) := hb.alloc hb.size _
  have hl := list_cell w1 a
  have hs : w1.heap.size < (w1.alloc (.cells #[.iface 38 (.pointer (some (a 0))), .iface 38 (.pointer (some (a 1))), .iface 38 (.pointer (some (a 2))), .iface 38 (.pointer (some (a 3))), .iface 38 (.pointer (some (a 4))), .iface 38 (.pointer (some (a 5))), .iface 38 (.pointer (some (a 6))), .iface 38 (.pointer (some (a 7))), .iface 38 (.pointer (some (a 8))), .iface 38 (.pointer (some (a 9))), .iface 38 (.pointer (some (a 10))), .iface 38 (.pointer (some (a 11)))] 25)).heap.size := by simp
  clear c0 c1 c2 c3 c4 c5 c6 c7 c8 c9 c10 c11 e1
  generalize w1.alloc (.cells #[.iface 38 (.pointer (some (a 0))), .iface 38 (.pointer (some (a 1))), .iface 38 (.pointer (some (a 2))), .iface 38 (.pointer (some (a 3))), .iface 38 (.pointer (some (a 4))), .iface 38 (.pointer (some (a 5))), .iface 38 (.pointer (some (a 6))), .iface 38 (.pointer (some (a 7))), .iface 38 (.pointer (some (a 8))), .iface 38 (.pointer (some (a 9))), .iface 38 (.pointer (some (a 10))), .iface 38 (.pointer (some (a 11)))] 25) = W2 at hB2 hl hs ⊢
  have hE2 : Errs W2 a := h.below hB2
  generalize w1.heap.size = L at hl hs ⊢
  clear hb
  go_loopw [4] (fun k wr => ∃ n : Nat, n ≤ 12 ∧ k = .int .i64 n ∧ Below W2.heap.size W2 wr) (fun k _ => 12 - (intOf k).toNat)
  case atStart => exact ⟨0, by omega, rfl, Below.refl _ _⟩
  case round =>
    obtain ⟨n, hn, rfl, hr⟩ := hrel
    by_cases hlt : n < 12
    · have hc0 := (hr.cell (p := ⟨L, n, none⟩) hs).trans (hl n hlt)
      have hEr : Errs (wr.alloc (.cells #[.int .i64 7, .iface 38 (.pointer (some (a n)))] 31)) a := hE2.below (hr.alloc hr.size _)
      have hrA : Below W2.heap.size W2 (wr.alloc (.cells #[.int .i64 7, .iface 38 (.pointer (some (a n)))] 31)) := hr.alloc hr.size _
      obtain ⟨cp, tp, hp⟩ := hEr.block n hlt
      have cf := code_fault _ a hEr wr.heap.size 0 7 (by simp) (a n) (by simp) cp tp hp n (fun m hm => ⟨fun e => (h.inj n m hlt hm e).symm, fun e => e ▸ rfl⟩)
      have hcn : codeNum n = (n : Int) + 1 := by unfold codeNum; rw [if_pos hlt]
      rw [hcn] at cf
      clear hcn hp
      go_wp2_with (first
        | (go_at_call 5; refine cf.mono ?_; rintro e w3 ⟨rfl, hb3⟩; have hr3 : Below W2.heap.size W2 w3 := hrA.trans (hb3.mono hrA.size); have hE3 := hE2.below hr3; have hc3 := (hr3.cell (p := ⟨L, n, none⟩) hs).trans (hl n hlt))
        | (go_at_call 6; refine (coded_bare w3 a hE3 n hlt _).mono ?_; rintro e w4 ⟨rfl, hb4⟩; have hr4 : Below W2.heap.size W2 w4 := hr3.trans (hb4.mono hr3.size)))
      go_roundw
      case rel => exact ⟨n + 1, by omega, by go_num, hr4⟩
      case measure => simp [intOf]; omega
    · have hn' : n = 12 := by omega
      subst hn'
      have hrN : Below W2.heap.size W2 (wr.alloc (.cells #[.string ⟨#[97, 110, 111, 116, 104, 101, 114, 32, 111, 110, 101]⟩] 40)) := hr.alloc hr.size _
      have hEN := hE2.below hrN
      have cf := code_bare _ a hEN ⟨wr.heap.size, 0, none⟩ #[.string ⟨#[97, 110, 111, 116, 104, 101, 114, 32, 111, 110, 101]⟩] 40 (heap_new _ _) 12 (fun m hm => ⟨fun e => by
        obtain ⟨c, t, hc⟩ := hE2.block m hm
        have h1 := lt_of_heap hc
        have h2 := hr.size
        rw [← e] at h1
        simp at h1
        omega, fun e => by omega⟩)
      have hcn : codeNum 12 = -1 := rfl
      rw [hcn] at cf
      clear hcn
      go_wp2_with (first
        | (go_at_call 7; refine (new_any _ wr).mono ?_; rintro e w3 ⟨rfl, rfl⟩)
        | (go_at_call 5; refine cf.mono ?_; rintro e w3 ⟨rfl, hb3⟩; have hr3 : Below W2.heap.size W2 w3 := hrN.trans (hb3.mono hrN.size))
        | (go_at_call 6; refine (coded_nil w3 0).mono ?_; rintro e w4 ⟨rfl, rfl⟩))
      go_ret
      exact ⟨rfl, hB2.trans (hr3.mono hB2.size)⟩
end Go.Proofs.YtgffkkijfmoooaaDoor
