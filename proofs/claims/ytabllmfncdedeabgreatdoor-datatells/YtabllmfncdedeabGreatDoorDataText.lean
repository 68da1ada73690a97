/-
  The contract of head.text: a head's line.
-/
import Derived.Test.YtabllmfncdedeabGreatDoorDataHead
import Derived.Test.YtabllmfncdedeabGreatDoorPartRead
import Derived.Deep.RegionHeld3
import Derived.Lib.JoinLaws
namespace Go.Proofs.YtabllmfncdedeabGreatDoor
open Go.RowKit Go.Extern.Stop Go.Stop Go.Extern Go.Sort Go.Shelf Go.Lib

set_option maxRecDepth 100000 in
set_option maxHeartbeats 4000000 in
theorem headText_any (n lo hi sum : Int) (w : World) (a : Nat → Addr) (h : Env w a) (hn : 0 ≤ n ∧ n ≤ 1000) (hlo : inNum lo = true) (hhi : inNum hi = true) (hs : 0 ≤ sum ∧ sum < 4294967296) :
    Calls Tryz.prog 19 #[.agg #[.int .i64 n, .int .i64 lo, .int .i64 hi, .int .i64 sum]] w fun e w' => e = .returned (.string (bytesOf (headL n lo hi sum))) ∧ Below w.heap.size w w' := by
  have hlen := head_len n lo hi sum hn hlo hhi hs
  simp only [inNum, Bool.and_eq_true, decide_eq_true_eq] at hlo hhi
  have hal : Below w.heap.size w (w.alloc (.cells #[.int .i64 n, .int .i64 lo, .int .i64 hi, .int .i64 sum] 52)) := (Below.refl _ _).alloc (Nat.le_refl _) _
  have hEA := h.below hal
  have x0 : (w.alloc (.cells #[.int .i64 n, .int .i64 lo, .int .i64 hi, .int .i64 sum] 52)).cell? ⟨w.heap.size, 0, none⟩ = some (.int .i64 n) := by simp
  have x1 : (w.alloc (.cells #[.int .i64 n, .int .i64 lo, .int .i64 hi, .int .i64 sum] 52)).cell? ⟨w.heap.size, 1, none⟩ = some (.int .i64 lo) := by simp
  have x2 : (w.alloc (.cells #[.int .i64 n, .int .i64 lo, .int .i64 hi, .int .i64 sum] 52)).cell? ⟨w.heap.size, 2, none⟩ = some (.int .i64 hi) := by simp
  have x3 : (w.alloc (.cells #[.int .i64 n, .int .i64 lo, .int .i64 hi, .int .i64 sum] 52)).cell? ⟨w.heap.size, 3, none⟩ = some (.int .i64 sum) := by simp
  go_enter Tryz.func19, Tryz.ntmps19
  go_wp2_with fail
  generalize hW0 : w.alloc (.cells #[.int .i64 n, .int .i64 lo, .int .i64 hi, .int .i64 sum] 52) = W0 at hal hEA x0 x1 x2 x3 ⊢
  generalize w.heap.size = g at x0 x1 x2 x3
  have hb0 : Below W0.heap.size W0 W0 := Below.refl _ _
  go_region_held3 (fun w' => w'.cell? ⟨g, 0, none⟩ = some (.int .i64 n) ∧ w'.cell? ⟨g, 1, none⟩ = some (.int .i64 lo) ∧ w'.cell? ⟨g, 2, none⟩ = some (.int .i64 hi) ∧ w'.cell? ⟨g, 3, none⟩ = some (.int .i64 sum) ∧ Below W0.heap.size W0 w')
    (first
      | (go_split_ands; exact ⟨below_keep hbX (by assumption), below_keep hbX (by assumption), below_keep hbX (by assumption), below_keep hbX (by assumption), Below.trans (by assumption) (hbX.mono (Below.size (by assumption)))⟩)
      | (go_split_ands; exact ⟨by go_keep, by go_keep, by go_keep, by go_keep, by assumption⟩)
      | (go_split_ands; exact ⟨by go_keep, by go_keep, by go_keep, by go_keep, Below.drew (by assumption)⟩)
      | (go_split_ands; exact ⟨by go_keep, by go_keep, by go_keep, by go_keep, Below.alloc (by assumption) (Below.size (by assumption)) _⟩))
    ((go_at_call 44; refine (itoa_below _ _ a (hEA.below (by go_split_ands; assumption)) (by omega) (by omega)).mono ?_; rintro e w2 ⟨rfl, hbX⟩))
  go_split_ands
  have hbE : Below W0.heap.size W0 (w2.alloc (.cells #[.string ⟨#[100, 97, 116, 97]⟩, .string (bytesOf (itoa n)), .string (bytesOf (itoa lo)), .string (bytesOf (itoa hi)), .string (bytesOf (itoa sum))] 9)) := by assumption
  have hBE : Below w.heap.size w (w2.alloc (.cells #[.string ⟨#[100, 97, 116, 97]⟩, .string (bytesOf (itoa n)), .string (bytesOf (itoa lo)), .string (bytesOf (itoa hi)), .string (bytesOf (itoa sum))] 9)) := hal.trans (hbE.mono hal.size)
  have hjl : (Lib.join ([⟨#[100, 97, 116, 97]⟩, bytesOf (itoa n), bytesOf (itoa lo), bytesOf (itoa hi), bytesOf (itoa sum)].map (·.data.toList)) (⟨#[32]⟩ : ByteArray).data.toList) = headL n lo hi sum := by
    simp [Lib.join, headL, kData, bytesOf]
  have hj := Tryz.strings_Join w2.heap.size 0 5 [⟨#[100, 97, 116, 97]⟩, bytesOf (itoa n), bytesOf (itoa lo), bytesOf (itoa hi), bytesOf (itoa sum)] ⟨#[32]⟩ (w2.alloc (.cells #[.string ⟨#[100, 97, 116, 97]⟩, .string (bytesOf (itoa n)), .string (bytesOf (itoa lo)), .string (bytesOf (itoa hi)), .string (bytesOf (itoa sum))] 9)) (fun j x hx => by
      rw [Nat.zero_add, cell_of_row _ _ _ _ _ _ (heap_alloc_new _ _)]
      match j, hx with
      | 0, hx => simp at hx; subst hx; rfl
      | 1, hx => simp at hx; subst hx; rfl
      | 2, hx => simp at hx; subst hx; rfl
      | 3, hx => simp at hx; subst hx; rfl
      | 4, hx => simp at hx; subst hx; rfl
      | j + 5, hx => simp at hx) (by simp) (by simp) (by simp) (by rw [hjl]; omega)
  rw [hjl] at hj
  clear hjl hlen
  generalize w2.alloc (.cells #[.string ⟨#[100, 97, 116, 97]⟩, .string (bytesOf (itoa n)), .string (bytesOf (itoa lo)), .string (bytesOf (itoa hi)), .string (bytesOf (itoa sum))] 9) = WE at hj hBE ⊢
  go_wp2_with fail
  refine hj.mono ?_
  rintro e w9 ⟨rfl, hb9⟩
  go_wp2
  go_ret
  exact ⟨rfl, hBE.trans (hb9.mono hBE.size)⟩
end Go.Proofs.YtabllmfncdedeabGreatDoor
