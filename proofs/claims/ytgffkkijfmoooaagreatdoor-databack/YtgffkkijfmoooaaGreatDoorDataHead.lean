/-
  The contracts of head.count and head.text: one line more, and a file's first line.
-/
import Derived.Test.YtgffkkijfmoooaaGreatDoorDataPure
import Derived.Test.YtgffkkijfmoooaaGreatDoorDataShelf
import Derived.Test.YtgffkkijfmoooaaGreatDoorDataSum
import Derived.Test.YtgffkkijfmoooaaGreatDoorSortsWalk
import Derived.Test.YtgffkkijfmoooaaGreatDoorReadRow
import Derived.Test.YtgffkkijfmoooaaGreatDoorFmtU
import Derived.Lib.QuietBelow
import Derived.BigQuiet
import Derived.OneCell
import Derived.Deep.RegionHeld3
import Derived.Lib.JoinLaws
namespace Go.Proofs.YtgffkkijfmoooaaGreatDoor
open Go.RowKit Go.Extern.Stop Go.Stop Go.Extern Go.Sort Go.Shelf Go.Lib

theorem bytes_len (l : List UInt8) : (bytesOf l).size = l.length := by rw [← size_list]; simp [bytesOf]

theorem ends_snoc (zs : List Int) (k : Int) (h : zs ≠ []) : endsZ (zs ++ [k]) = (if k < (endsZ zs).1 then k else (endsZ zs).1, if (endsZ zs).2 < k then k else (endsZ zs).2) := by
  cases zs with
  | nil => exact absurd rfl h
  | cons z r =>
    show ((r ++ [k]).foldl _ z, (r ++ [k]).foldl _ z) = _
    rw [List.foldl_append, List.foldl_append]
    rfl
theorem ends_one (k : Int) : endsZ [k] = (k, k) := rfl

/-- A head's block: how many lines, the least and the greatest of their keys. -/
def HeadAt (W : World) (g : Nat) (n : Nat) (E : Int × Int) : Prop := W.heap[g]? = some (.cells #[.int .i64 n, .int .i64 E.1, .int .i64 E.2] 133 (0, 0))

/-- A head's block with other numbers. -/
def headW (W : World) (g : Nat) (n : Nat) (E : Int × Int) : World := ((W.setCell ⟨g, 1, none⟩ (.int .i64 E.1)).setCell ⟨g, 2, none⟩ (.int .i64 E.2)).setCell ⟨g, 0, none⟩ (.int .i64 n)

/-- One key more. -/
def endsP (n : Nat) (E : Int × Int) (key : Int) : Int × Int := if n = 0 then (key, key) else (if key < E.1 then key else E.1, if E.2 < key then key else E.2)

theorem ends_more (zs : List Int) (key : Int) : endsZ (zs ++ [key]) = endsP zs.length (endsZ zs) key := by
  unfold endsP
  by_cases h : zs = []
  · subst h; rfl
  · rw [ends_snoc _ _ h, if_neg (fun e => h (List.length_eq_zero_iff.1 e))]

theorem headW_at {W : World} {g n m : Nat} {E E' : Int × Int} (h : HeadAt W g n E) : HeadAt (headW W g m E') g m E' := by
  unfold HeadAt headW at *
  rw [heap_setCell_same _ _ _ _ _ _ (heap_setCell_same _ _ _ _ _ _ (heap_setCell_same _ _ _ _ _ _ h))]
  rfl
theorem headW_other (W : World) (g m j : Nat) (E' : Int × Int) (hj : j ≠ g) : (headW W g m E').heap[j]? = W.heap[j]? := by
  unfold headW
  rw [heap_setCell_other _ _ _ _ hj, heap_setCell_other _ _ _ _ hj, heap_setCell_other _ _ _ _ hj]
theorem headW_size (W : World) (g m : Nat) (E' : Int × Int) : (headW W g m E').heap.size = W.heap.size := by
  unfold headW; simp [World.setCell]
theorem headW_below {W W0 : World} {B g m : Nat} {E' : Int × Int} (h : Below B W0 W) (hg : B ≤ g) : Below B W0 (headW W g m E') := ((h.setCell hg _).setCell hg _).setCell hg _

theorem HeadAt.cells {W : World} {g n : Nat} {E : Int × Int} (h : HeadAt W g n E) : W.cell? ⟨g, 0, none⟩ = some (.int .i64 n) ∧ W.cell? ⟨g, 1, none⟩ = some (.int .i64 E.1) ∧ W.cell? ⟨g, 2, none⟩ = some (.int .i64 E.2) ∧ ∀ o, W.frozen? ⟨g, o, none⟩ = false := by
  unfold HeadAt at h
  exact ⟨by rw [cell_of_row _ _ _ _ _ _ h]; rfl, by rw [cell_of_row _ _ _ _ _ _ h]; rfl, by rw [cell_of_row _ _ _ _ _ _ h]; rfl, fun o => frozen_of_row _ _ _ _ _ h⟩

theorem HeadAt.below {W W' : World} {g n : Nat} {E : Int × Int} (h : HeadAt W g n E) (hb : Below W.heap.size W W') : HeadAt W' g n E := by
  unfold HeadAt at *
  exact (hb.block g (lt_of_block h)).trans h

set_option maxRecDepth 100000 in
set_option maxHeartbeats 4000000 in
theorem count_any (g n : Nat) (E : Int × Int) (key : Int) (W : World) (h : HeadAt W g n E) (hn : n ≤ 100000) :
    Calls Tryz.prog 98 #[.pointer (some ⟨g, 0, none⟩), .int .i64 key] W fun e w' => e = .returned (.tuple #[]) ∧ w' = headW W g (n + 1) (endsP n E key) := by
  obtain ⟨lo, hi⟩ := E
  have HA : Hid (HeadAt W g n (lo, hi)) := h
  obtain ⟨c0, c1, c2, cf⟩ := h.cells
  dsimp only at c1 c2
  have hw1 : IntKind.i64.wrap ((n : Int) + 1) = (n : Int) + 1 := IntWalk.i64_in _ (by omega)
  have key0 : ∀ lo' hi', Hid (HeadAt (W.setCell ⟨g, 1, none⟩ (.int .i64 lo')) g n (lo', hi) ∧ HeadAt ((W.setCell ⟨g, 1, none⟩ (.int .i64 lo')).setCell ⟨g, 2, none⟩ (.int .i64 hi')) g n (lo', hi')) := fun lo' hi' => by
    have h1 : HeadAt (W.setCell ⟨g, 1, none⟩ (.int .i64 lo')) g n (lo', hi) := by
      have := HA.out
      unfold HeadAt at *
      rw [heap_setCell_same _ _ _ _ _ _ this]; rfl
    refine ⟨h1, ?_⟩
    unfold HeadAt at *
    rw [heap_setCell_same _ _ _ _ _ _ h1]; rfl
  by_cases hn0 : n = 0
  · subst hn0
    have HE : Hid (endsP 0 (lo, hi) key = (key, key)) := rfl
    obtain ⟨d1, d2⟩ := (key0 key key).out
    obtain ⟨c10, c11, c12, c1f⟩ := d1.cells
    obtain ⟨c20, c21, c22, c2f⟩ := d2.cells
    clear key0 d1 d2 h
    dsimp only at c11 c12 c21 c22
    go_enter Tryz.func98, Tryz.ntmps98
    go_wp2
    go_end0
    refine ⟨rfl, ?_⟩
    rw [HE.out]
    rfl
  · have hnz : ((n : Int) == 0) = false := by rw [beq_eq_false_iff_ne]; omega
    have hnz2 : ¬ (n : Int) = 0 := by omega
    by_cases hl1 : key < lo
    · by_cases hl2 : hi < key
      · have HE : Hid (endsP n (lo, hi) key = (key, key)) := by show _ = _; unfold endsP; rw [if_neg hn0]; simp [hl1, hl2]
        obtain ⟨d1, d2⟩ := (key0 key key).out
        obtain ⟨c10, c11, c12, c1f⟩ := d1.cells
        obtain ⟨c20, c21, c22, c2f⟩ := d2.cells
        clear key0 d1 d2 h
        dsimp only at c11 c12 c21 c22
        go_enter Tryz.func98, Tryz.ntmps98
        go_wp2
        go_end0
        refine ⟨rfl, ?_⟩
        rw [HE.out]
        rfl
      · have HE : Hid (endsP n (lo, hi) key = (key, hi)) := by show _ = _; unfold endsP; rw [if_neg hn0]; simp [hl1, hl2]
        obtain ⟨d1, d2⟩ := (key0 key hi).out
        obtain ⟨c10, c11, c12, c1f⟩ := d1.cells
        have S : Hid ((W.setCell ⟨g, 1, none⟩ (.int .i64 key)).setCell ⟨g, 2, none⟩ (.int .i64 hi) = W.setCell ⟨g, 1, none⟩ (.int .i64 key)) := setCell_self c12
        clear key0 d1 d2 h
        dsimp only at c11 c12
        go_enter Tryz.func98, Tryz.ntmps98
        go_wp2
        go_end0
        refine ⟨rfl, ?_⟩
        rw [HE.out]
        unfold headW
        dsimp only
        rw [S.out]
        rfl
    · have S1 : Hid (W.setCell ⟨g, 1, none⟩ (.int .i64 lo) = W) := setCell_self c1
      have S2 : Hid (W.setCell ⟨g, 2, none⟩ (.int .i64 hi) = W) := setCell_self c2
      by_cases hl2 : hi < key
      · have HE : Hid (endsP n (lo, hi) key = (lo, key)) := by show _ = _; unfold endsP; rw [if_neg hn0]; simp [hl1, hl2]
        obtain ⟨d1, d2⟩ := (key0 lo key).out
        rw [S1.out] at d2
        obtain ⟨c20, c21, c22, c2f⟩ := d2.cells
        clear key0 d1 d2 h
        dsimp only at c21 c22
        go_enter Tryz.func98, Tryz.ntmps98
        go_wp2
        go_end0
        refine ⟨rfl, ?_⟩
        rw [HE.out]
        unfold headW
        dsimp only
        rw [S1.out]
        rfl
      · have HE : Hid (endsP n (lo, hi) key = (lo, hi)) := by show _ = _; unfold endsP; rw [if_neg hn0]; simp [hl1, hl2]
        clear key0 h
        go_enter Tryz.func98, Tryz.ntmps98
        go_wp2
        go_end0
        refine ⟨rfl, ?_⟩
        rw [HE.out]
        unfold headW
        dsimp only
        rw [S1.out, S2.out]
        rfl

set_option maxRecDepth 100000 in
set_option maxHeartbeats 4000000 in
theorem headText_any (kb : ByteArray) (hK : kb.data.toList.length ≤ 4) (n : Nat) (lo hi : Int) (sum : Nat) (w : World) (a : Nat → Addr) (h : Env0 w a) (hn : n ≤ 1000) (hlo : inNum lo = true) (hhi : inNum hi = true) (hs : sum < 4294967296) :
    Calls Tryz.prog 101 #[.agg #[.int .i64 n, .int .i64 lo, .int .i64 hi], .string kb, .int .u32 sum] w fun e w' => e = .returned (.string (bytesOf (headL kb.data.toList n lo hi sum))) ∧ Below w.heap.size w w' := by
  have hlen := head_len hK n lo hi sum (by omega) hlo hhi (by omega)
  simp only [inNum, Bool.and_eq_true, decide_eq_true_eq] at hlo hhi
  have hw0 : IntKind.u64.wrap (sum : Int) = (sum : Int) := by rw [IntKind.wrap_u64]; omega
  have hal : Below w.heap.size w (w.alloc (.cells #[.int .i64 n, .int .i64 lo, .int .i64 hi] 133)) := (Below.refl _ _).alloc (Nat.le_refl _) _
  have hEA := h.below hal
  have x0 : (w.alloc (.cells #[.int .i64 n, .int .i64 lo, .int .i64 hi] 133)).cell? ⟨w.heap.size, 0, none⟩ = some (.int .i64 n) := by simp
  have x1 : (w.alloc (.cells #[.int .i64 n, .int .i64 lo, .int .i64 hi] 133)).cell? ⟨w.heap.size, 1, none⟩ = some (.int .i64 lo) := by simp
  have x2 : (w.alloc (.cells #[.int .i64 n, .int .i64 lo, .int .i64 hi] 133)).cell? ⟨w.heap.size, 2, none⟩ = some (.int .i64 hi) := by simp
  go_enter Tryz.func101, Tryz.ntmps101
  go_wp2_with fail
  generalize hW0 : w.alloc (.cells #[.int .i64 n, .int .i64 lo, .int .i64 hi] 133) = W0 at hal hEA x0 x1 x2 ⊢
  generalize w.heap.size = g at x0 x1 x2
  have hb0 : Below W0.heap.size W0 W0 := Below.refl _ _
  go_region_held3 (fun w' => w'.cell? ⟨g, 0, none⟩ = some (.int .i64 n) ∧ w'.cell? ⟨g, 1, none⟩ = some (.int .i64 lo) ∧ w'.cell? ⟨g, 2, none⟩ = some (.int .i64 hi) ∧ Below W0.heap.size W0 w')
    (first
      | (go_split_ands; exact ⟨below_keep hbX (by assumption), below_keep hbX (by assumption), below_keep hbX (by assumption), Below.trans (by assumption) (hbX.mono (Below.size (by assumption)))⟩)
      | (go_split_ands; exact ⟨by go_keep, by go_keep, by go_keep, by assumption⟩)
      | (go_split_ands; exact ⟨by go_keep, by go_keep, by go_keep, Below.drew (by assumption)⟩)
      | (go_split_ands; exact ⟨by go_keep, by go_keep, by go_keep, Below.alloc (by assumption) (Below.size (by assumption)) _⟩))
    (first
      | (go_at_call 54; refine (itoa_below _ _ a (hEA.below (by go_split_ands; assumption)) (by omega) (by omega)).mono ?_; rintro e w2 ⟨rfl, hbX⟩)
      | (go_at_call 143; refine (fmtU_any sum (by omega) _ a (hEA.below (by go_split_ands; assumption))).mono ?_; rintro e w2 ⟨rfl, hbX⟩))
  go_split_ands
  have hbE : Below W0.heap.size W0 (w2.alloc (.cells #[.string kb, .string (bytesOf (itoa n)), .string (bytesOf (itoa lo)), .string (bytesOf (itoa hi)), .string (bytesOf (itoa sum))] 9)) := by assumption
  have hBE : Below w.heap.size w (w2.alloc (.cells #[.string kb, .string (bytesOf (itoa n)), .string (bytesOf (itoa lo)), .string (bytesOf (itoa hi)), .string (bytesOf (itoa sum))] 9)) := hal.trans (hbE.mono hal.size)
  have hjl : (Lib.join ([kb, bytesOf (itoa n), bytesOf (itoa lo), bytesOf (itoa hi), bytesOf (itoa sum)].map (·.data.toList)) (⟨#[32]⟩ : ByteArray).data.toList) = headL kb.data.toList n lo hi sum := by
    simp [Lib.join, headL, bytesOf]
  have hj := Tryz.strings_Join w2.heap.size 0 5 [kb, bytesOf (itoa n), bytesOf (itoa lo), bytesOf (itoa hi), bytesOf (itoa sum)] ⟨#[32]⟩ (w2.alloc (.cells #[.string kb, .string (bytesOf (itoa n)), .string (bytesOf (itoa lo)), .string (bytesOf (itoa hi)), .string (bytesOf (itoa sum))] 9)) (fun j x hx => by
      rw [Nat.zero_add, cell_of_row _ _ _ _ _ _ (heap_alloc_new _ _)]
      match j, hx with
      | 0, hx => simp at hx; subst hx; rfl
      | 1, hx => simp at hx; subst hx; rfl
      | 2, hx => simp at hx; subst hx; rfl
      | 3, hx => simp at hx; subst hx; rfl
      | 4, hx => simp at hx; subst hx; rfl
      | j + 5, hx => simp at hx) (by simp) (by simp) (by simp) (by rw [hjl]; omega)
  rw [hjl] at hj
  clear hjl hlen
  generalize w2.alloc (.cells #[.string kb, .string (bytesOf (itoa n)), .string (bytesOf (itoa lo)), .string (bytesOf (itoa hi)), .string (bytesOf (itoa sum))] 9) = WE at hj hBE ⊢
  go_wp2_with fail
  refine hj.mono ?_
  rintro e w9 ⟨rfl, hb9⟩
  go_wp2
  go_ret
  exact ⟨rfl, hBE.trans (hb9.mono hBE.size)⟩
end Go.Proofs.YtgffkkijfmoooaaGreatDoor
