/-
  The contract of data.WriteLines for rows: a file's text.
-/
import Derived.Test.YtpkoefpdpoikkaaGreatDoorFmtU
import Derived.Deep.RegionHeld3
import Derived.Lib.JoinLaws
namespace Go.Proofs.YtpkoefpdpoikkaaGreatDoor
open Go.RowKit Go.Extern.Stop Go.Stop Go.Extern Go.Sort Go.Shelf Go.Lib

theorem bytes_len (l : List UInt8) : (bytesOf l).size = l.length := by rw [← size_list]; simp [bytesOf]

theorem ends_snoc (zs : List Int) (k : Int) (h : zs ≠ []) : endsZ (zs ++ [k]) = (if k < (endsZ zs).1 then k else (endsZ zs).1, if (endsZ zs).2 < k then k else (endsZ zs).2) := by
  cases zs with
  | nil => exact absurd rfl h
  | cons z r =>
    show ((r ++ [k]).foldl _ z, (r ++ [k]).foldl _ z) = _
    rw [List.foldl_append, List.foldl_append]
    rfl
def HeadAt (W : World) (g : Nat) (n : Nat) (E : Int × Int) : Prop := W.heap[g]? = some (.cells #[.int .i64 n, .int .i64 E.1, .int .i64 E.2] 160 (0, 0))

def headW (W : World) (g : Nat) (n : Nat) (E : Int × Int) : World := ((W.setCell ⟨g, 1, none⟩ (.int .i64 E.1)).setCell ⟨g, 2, none⟩ (.int .i64 E.2)).setCell ⟨g, 0, none⟩ (.int .i64 n)

def endsP (n : Nat) (E : Int × Int) (key : Int) : Int × Int := if n = 0 then (key, key) else (if key < E.1 then key else E.1, if E.2 < key then key else E.2)

theorem ends_more (zs : List Int) (key : Int) : endsZ (zs ++ [key]) = endsP zs.length (endsZ zs) key := by
  unfold endsP
  by_cases h : zs = []
  · subst h; rfl
  · rw [ends_snoc _ _ h, if_neg (fun e => h (List.length_eq_zero_iff.1 e))]

theorem headW_at {W : World} {g n m : Nat} {E E' : Int × Int} (h : HeadAt W g n E) : HeadAt (headW W g m E') g m E' := by
  unfold HeadAt headW at *
  rw [heap_setCell_same _ _ _ _ _ _ (heap_setCell_same _ _ _ _ _ _ (heap_setCell_same _ _ _ _ _ _ h))]
  rfl
theorem headW_other (W : World) (g m j : Nat) (E' : Int × Int) (hj : j ≠ g) : (headW W g m E').heap[j]? = W.heap[j]? := by
  unfold headW
  rw [heap_setCell_other _ _ _ _ hj, heap_setCell_other _ _ _ _ hj, heap_setCell_other _ _ _ _ hj]
theorem headW_size (W : World) (g m : Nat) (E' : Int × Int) : (headW W g m E').heap.size = W.heap.size := by
  unfold headW; simp [World.setCell]
theorem headW_below {W W0 : World} {B g m : Nat} {E' : Int × Int} (h : Below B W0 W) (hg : B ≤ g) : Below B W0 (headW W g m E') := ((h.setCell hg _).setCell hg _).setCell hg _

theorem HeadAt.cells {W : World} {g n : Nat} {E : Int × Int} (h : HeadAt W g n E) : W.cell? ⟨g, 0, none⟩ = some (.int .i64 n) ∧ W.cell? ⟨g, 1, none⟩ = some (.int .i64 E.1) ∧ W.cell? ⟨g, 2, none⟩ = some (.int .i64 E.2) ∧ ∀ o, W.frozen? ⟨g, o, none⟩ = false := by
  unfold HeadAt at h
  exact ⟨by rw [cell_of_row _ _ _ _ _ _ h]; rfl, by rw [cell_of_row _ _ _ _ _ _ h]; rfl, by rw [cell_of_row _ _ _ _ _ _ h]; rfl, fun o => frozen_of_row _ _ _ _ _ h⟩

theorem HeadAt.below {W W' : World} {g n : Nat} {E : Int × Int} (h : HeadAt W g n E) (hb : Below W.heap.size W W') : HeadAt W' g n E := by
  unfold HeadAt at *
  exact (hb.block g (lt_of_block h)).trans h

set_option maxRecDepth 100000 in
set_option maxHeartbeats 4000000 in
theorem count_any (g n : Nat) (E : Int × Int) (key : Int) (W : World) (h : HeadAt W g n E) (hn : n ≤ 100000) :
    Calls Tryz.prog 122 #[.pointer (some ⟨g, 0, none⟩), .int .i64 key] W fun e w' => e = .returned (.tuple #[]) ∧ w' = headW W g (n + 1) (endsP n E key) := by
  obtain ⟨lo, hi⟩ := E
  have HA : Hid (HeadAt W g n (lo, hi)) := h
  obtain ⟨c0, c1, c2, cf⟩ := h.cells
  dsimp only at c1 c2
  have hw1 : IntKind.i64.wrap ((n : Int) + 1) = (n : Int) + 1 := IntWalk.i64_in _ (by omega)
  have key0 : ∀ lo' hi', Hid (HeadAt (W.setCell ⟨g, 1, none⟩ (.int .i64 lo')) g n (lo', hi) ∧ HeadAt ((W.setCell ⟨g, 1, none⟩ (.int .i64 lo')).setCell ⟨g, 2, none⟩ (.int .i64 hi')) g n (lo', hi')) := fun lo' hi' => by
    have h1 : HeadAt (W.setCell ⟨g, 1, none⟩ (.int .i64 lo')) g n (lo', hi) := by
      have := HA.out
      unfold HeadAt at *
      rw [heap_setCell_same _ _ _ _ _ _ this]; rfl
    refine ⟨h1, ?_⟩
    unfold HeadAt at *
    rw [heap_setCell_same _ _ _ _ _ _ h1]; rfl
  by_cases hn0 : n = 0
  · subst hn0
    have HE : Hid (endsP 0 (lo, hi) key = (key, key)) := rfl
    obtain ⟨d1, d2⟩ := (key0 key key).out
    obtain ⟨c10, c11, c12, c1f⟩ := d1.cells
    obtain ⟨c20, c21, c22, c2f⟩ := d2.cells
    clear key0 d1 d2 h
    dsimp only at c11 c12 c21 c22
    go_enter Tryz.func122, Tryz.ntmps122
    go_wp2
    go_end0
    refine ⟨rfl, ?_⟩
    rw [HE.out]
    rfl
  · have hnz : ((n : Int) == 0) = false := by rw [beq_eq_false_iff_ne]; omega
    have hnz2 : ¬ (n : Int) = 0 := by omega
    by_cases hl1 : key < lo
    · by_cases hl2 : hi < key
      · have HE : Hid (endsP n (lo, hi) key = (key, key)) := by show _ = _; unfold endsP; rw [if_neg hn0]; simp [hl1, hl2]
        obtain ⟨d1, d2⟩ := (key0 key key).out
        obtain ⟨c10, c11, c12, c1f⟩ := d1.cells
        obtain ⟨c20, c21, c22, c2f⟩ := d2.cells
        clear key0 d1 d2 h
        dsimp only at c11 c12 c21 c22
        go_enter Tryz.func122, Tryz.ntmps122
        go_wp2
        go_end0
        refine ⟨rfl, ?_⟩
        rw [HE.out]
        rfl
      · have HE : Hid (endsP n (lo, hi) key = (key, hi)) := by show _ = _; unfold endsP; rw [if_neg hn0]; simp [hl1, hl2]
        obtain ⟨d1, d2⟩ := (key0 key hi).out
        obtain ⟨c10, c11, c12, c1f⟩ := d1.cells
        have S : Hid ((W.setCell ⟨g, 1, none⟩ (.int .i64 key)).setCell ⟨g, 2, none⟩ (.int .i64 hi) = W.setCell ⟨g, 1, none⟩ (.int .i64 key)) := setCell_self c12
        clear key0 d1 d2 h
        dsimp only at c11 c12
        go_enter Tryz.func122, Tryz.ntmps122
        go_wp2
        go_end0
        refine ⟨rfl, ?_⟩
        rw [HE.out]
        unfold headW
        dsimp only
        rw [S.out]
        rfl
    · have S1 : Hid (W.setCell ⟨g, 1, none⟩ (.int .i64 lo) = W) := setCell_self c1
      have S2 : Hid (W.setCell ⟨g, 2, none⟩ (.int .i64 hi) = W) := setCell_self c2
      by_cases hl2 : hi < key
      · have HE : Hid (endsP n (lo, hi) key = (lo, key)) := by show _ = _; unfold endsP; rw [if_neg hn0]; simp [hl1, hl2]
        obtain ⟨d1, d2⟩ := (key0 lo key).out
        rw [S1.out] at d2
        obtain ⟨c20, c21, c22, c2f⟩ := d2.cells
        clear key0 d1 d2 h
        dsimp only at c21 c22
        go_enter Tryz.func122, Tryz.ntmps122
        go_wp2
        go_end0
        refine ⟨rfl, ?_⟩
        rw [HE.out]
        unfold headW
        dsimp only
        rw [S1.out]
        rfl
      · have HE : Hid (endsP n (lo, hi) key = (lo, hi)) := by show _ = _; unfold endsP; rw [if_neg hn0]; simp [hl1, hl2]
        clear key0 h
        go_enter Tryz.func122, Tryz.ntmps122
        go_wp2
        go_end0
        refine ⟨rfl, ?_⟩
        rw [HE.out]
        unfold headW
        dsimp only
        rw [S1.out, S2.out]
        rfl

set_option maxRecDepth 100000 in
set_option maxHeartbeats 4000000 in
theorem headText_any (kb : ByteArray) (hK : kb.data.toList.length ≤ 4) (n : Nat) (lo hi : Int) (sum : Nat) (w : World) (a : Nat → Addr) (h : Env0 w a) (hn : n ≤ 1000) (hlo : inNum lo = true) (hhi : inNum hi = true) (hs : sum < 4294967296) :
    Calls Tryz.prog 123 #[.agg #[.int .i64 n, .int .i64 lo, .int .i64 hi], .string kb, .int .u32 sum] w fun e w' => e = .returned (.string (bytesOf (headL kb.data.toList n lo hi sum))) ∧ Below w.heap.size w w' := by
  have hlen := head_len hK n lo hi sum (by omega) hlo hhi (by omega)
  simp only [inNum, Bool.and_eq_true, decide_eq_true_eq] at hlo hhi
  have hw0 : IntKind.u64.wrap (sum : Int) = (sum : Int) := by rw [IntKind.wrap_u64]; omega
  have hal : Below w.heap.size w (w.alloc (.cells #[.int .i64 n, .int .i64 lo, .int .i64 hi] 160)) := (Below.refl _ _).alloc (Nat.le_refl _) _
  have hEA := h.below hal
  have x0 : (w.alloc (.cells #[.int .i64 n, .int .i64 lo, .int .i64 hi] 160)).cell? ⟨w.heap.size, 0, none⟩ = some (.int .i64 n) := by simp
  have x1 : (w.alloc (.cells #[.int .i64 n, .int .i64 lo, .int .i64 hi] 160)).cell? ⟨w.heap.size, 1, none⟩ = some (.int .i64 lo) := by simp
  have x2 : (w.alloc (.cells #[.int .i64 n, .int .i64 lo, .int .i64 hi] 160)).cell? ⟨w.heap.size, 2, none⟩ = some (.int .i64 hi) := by simp
  go_enter Tryz.func123, Tryz.ntmps123
  go_wp2_with fail
  generalize hW0 : w.alloc (.cells #[.int .i64 n, .int .i64 lo, .int .i64 hi] 160) = W0 at hal hEA x0 x1 x2 ⊢
  generalize w.heap.size = g at x0 x1 x2
  have hb0 : Below W0.heap.size W0 W0 := Below.refl _ _
  go_region_held3 (fun w' => w'.cell? ⟨g, 0, none⟩ = some (.int .i64 n) ∧ w'.cell? ⟨g, 1, none⟩ = some (.int .i64 lo) ∧ w'.cell? ⟨g, 2, none⟩ = some (.int .i64 hi) ∧ Below W0.heap.size W0 w')
    (first
      | (go_split_ands; exact ⟨below_keep hbX (by assumption), below_keep hbX (by assumption), below_keep hbX (by assumption), Below.trans (by assumption) (hbX.mono (Below.size (by assumption)))⟩)
      | (go_split_ands; exact ⟨by go_keep, by go_keep, by go_keep, by assumption⟩)
      | (go_split_ands; exact ⟨by go_keep, by go_keep, by go_keep, Below.drew (by assumption)⟩)
      | (go_split_ands; exact ⟨by go_keep, by go_keep, by go_keep, Below.alloc (by assumption) (Below.size (by assumption)) _⟩))
    (first
      | (go_at_call 61; refine (itoa_below _ _ a (hEA.below (by go_split_ands; assumption)) (by omega) (by omega)).mono ?_; rintro e w2 ⟨rfl, hbX⟩)
      | (go_at_call 143; refine (fmtU_any sum (by omega) _ a (hEA.below (by go_split_ands; assumption))).mono ?_; rintro e w2 ⟨rfl, hbX⟩))
  go_split_ands
  have hbE : Below W0.heap.size W0 (w2.alloc (.cells #[.string kb, .string (bytesOf (itoa n)), .string (bytesOf (itoa lo)), .string (bytesOf (itoa hi)), .string (bytesOf (itoa sum))] 9)) := by assumption
  have hBE : Below w.heap.size w (w2.alloc (.cells #[.string kb, .string (bytesOf (itoa n)), .string (bytesOf (itoa lo)), .string (bytesOf (itoa hi)), .string (bytesOf (itoa sum))] 9)) := hal.trans (hbE.mono hal.size)
  have hjl : (Lib.join ([kb, bytesOf (itoa n), bytesOf (itoa lo), bytesOf (itoa hi), bytesOf (itoa sum)].map (·.data.toList)) (⟨#[32]⟩ : ByteArray).data.toList) = headL kb.data.toList n lo hi sum := by
    simp [Lib.join, headL, bytesOf]
  have hj := Tryz.strings_Join w2.heap.size 0 5 [kb, bytesOf (itoa n), bytesOf (itoa lo), bytesOf (itoa hi), bytesOf (itoa sum)] ⟨#[32]⟩ (w2.alloc (.cells #[.string kb, .string (bytesOf (itoa n)), .string (bytesOf (itoa lo)), .string (bytesOf (itoa hi)), .string (bytesOf (itoa sum))] 9)) (fun j x hx => by
      rw [Nat.zero_add, cell_of_row _ _ _ _ _ _ (heap_alloc_new _ _)]
      match j, hx with
      | 0, hx => simp at hx; subst hx; rfl
      | 1, hx => simp at hx; subst hx; rfl
      | 2, hx => simp at hx; subst hx; rfl
      | 3, hx => simp at hx; subst hx; rfl
      | 4, hx => simp at hx; subst hx; rfl
      | j + 5, hx => simp at hx) (by simp) (by simp) (by simp) (by rw [hjl]; omega)
  rw [hjl] at hj
  clear hjl hlen
  generalize w2.alloc (.cells #[.string kb, .string (bytesOf (itoa n)), .string (bytesOf (itoa lo)), .string (bytesOf (itoa hi)), .string (bytesOf (itoa sum))] 9) = WE at hj hBE ⊢
  go_wp2_with fail
  refine hj.mono ?_
  rintro e w9 ⟨rfl, hb9⟩
  go_wp2
  go_ret
  exact ⟨rfl, hBE.trans (hb9.mono hBE.size)⟩
end Go.Proofs.YtpkoefpdpoikkaaGreatDoor
namespace Go.Proofs.YtpkoefpdpoikkaaGreatDoor
open Go.RowKit Go.Extern.Stop Go.Stop Go.Extern Go.Sort Go.Shelf Go.Lib

theorem writeString_any (B b : Nat) (bs : List Value) (s : ByteArray) (w : World) (h : Lib.IsBuilder 130 5 B b bs w) (hlen : bs.length + s.size ≤ 140737488355328) (hBw : B ≤ w.heap.size) :
    Calls Tryz.prog 89 #[.pointer (some ⟨b, 0, none⟩), .string s] w fun e w' => e = .returned (.tuple #[.int .i64 s.size, .nilIface]) ∧ (Lib.BuilderAt 130 5 B b (.pointer (some ⟨b, 0, none⟩)) (bs ++ Lib.strCells s) w' ∧ Below B w w') := by
  first
  | exact Any.Builder_WriteString { Tryz.lays156 with } Tryz.Builder_Extra_156 B b bs s w h hlen hBw
  | exact Tryz.Builder_WriteString B b bs s w h hlen hBw

theorem isBuilder_below {T e : TypeId} {B b : Nat} {bs : List Value} {w w' : World} (h : Lib.IsBuilder T e B b bs w) (hb : Below w.heap.size w w') : Lib.IsBuilder T e B b bs w' := by
  rcases h with h | h
  · have hlt := h.lt
    obtain ⟨hB, v, hbk, hown, hne⟩ := h
    exact Or.inl ⟨hB, v, (hb.block b hlt).trans hbk, own_below hown hb, hne⟩
  · have hlt := h.lt
    obtain ⟨hB, v, hbk, hown, hne⟩ := h
    exact Or.inr ⟨hB, v, (hb.block b hlt).trans hbk, own_below hown hb, hne⟩

theorem isBuilder_set {T e : TypeId} {B b : Nat} {bs : List Value} {w : World} (h : Lib.IsBuilder T e B b bs w) (g o : Nat) (u : Value) (hg : g < B) : Lib.IsBuilder T e B b bs (w.setCell ⟨g, o, none⟩ u) := by
  rcases h with h | h
  · obtain ⟨hB, v, hbk, hown, hne⟩ := h
    exact Or.inl ⟨hB, v, (heap_setCell_other _ _ _ _ (by show b ≠ g; omega)).trans hbk, ownsRow_setCell_other hown (fun e => by have := (hown.lt g e).1; omega) u, hne⟩
  · obtain ⟨hB, v, hbk, hown, hne⟩ := h
    exact Or.inr ⟨hB, v, (heap_setCell_other _ _ _ _ (by show b ≠ g; omega)).trans hbk, ownsRow_setCell_other hown (fun e => by have := (hown.lt g e).1; omega) u, hne⟩

theorem isBuilder_head {T e : TypeId} {B b : Nat} {bs : List Value} {w : World} (h : Lib.IsBuilder T e B b bs w) (g m : Nat) (E : Int × Int) (hg : g < B) : Lib.IsBuilder T e B b bs (headW w g m E) :=
  isBuilder_set (isBuilder_set (isBuilder_set h g 1 _ hg) g 2 _ hg) g 0 _ hg

set_option maxRecDepth 100000 in
set_option maxHeartbeats 1000000 in
theorem make1_any (x : Rw) (w : World) (a : Nat → Addr) (h : Env w a) (hx : x.1.size ≤ 100) :
    Calls Tryz.prog 71 #[.agg #[.string x.1, .int .i64 x.2.1, .int .i64 x.2.2]] w fun e w' => e = .returned (.tuple #[.string (textB x), .int .i64 x.2.1]) ∧ Below w.heap.size w w' := by
  have htx := fun W (hW : Env W a) => text_any x W a hW (by unfold maxLen; omega)
  generalize textB x = tb at htx ⊢
  obtain ⟨xp, xk, xv⟩ := x
  dsimp only at htx ⊢
  have hal : Below w.heap.size w (w.alloc (.cells #[.string xp, .int .i64 xk, .int .i64 xv] 41)) := (Below.refl _ _).alloc (Nat.le_refl _) _
  have htx2 := htx _ (h.below hal)
  have x1 : (w.alloc (.cells #[.string xp, .int .i64 xk, .int .i64 xv] 41)).cell? ⟨w.heap.size, 1, none⟩ = some (.int .i64 xk) := by simp
  have x0 : (w.alloc (.cells #[.string xp, .int .i64 xk, .int .i64 xv] 41)).cell? ⟨w.heap.size, 0, none⟩ = some (.string xp) := by simp
  have x2 : (w.alloc (.cells #[.string xp, .int .i64 xk, .int .i64 xv] 41)).cell? ⟨w.heap.size, 2, none⟩ = some (.int .i64 xv) := by simp
  have hEA := h.below hal
  clear htx2
  go_enter Tryz.func71, Tryz.ntmps71
  go_wp2_with fail
  generalize w.alloc (.cells #[.string xp, .int .i64 xk, .int .i64 xv] 41) = W0 at hal hEA x0 x1 x2 ⊢
  generalize w.heap.size = g at x0 x1 x2 ⊢
  have hb0 : Below W0.heap.size W0 W0 := Below.refl _ _
  go_region_held3 (fun w' => w'.cell? ⟨g, 0, none⟩ = some (.string xp) ∧ w'.cell? ⟨g, 1, none⟩ = some (.int .i64 xk) ∧ w'.cell? ⟨g, 2, none⟩ = some (.int .i64 xv) ∧ Below W0.heap.size W0 w')
    (first
      | (go_split_ands; exact ⟨below_keep hbX (by assumption), below_keep hbX (by assumption), below_keep hbX (by assumption), Below.trans (by assumption) (hbX.mono (Below.size (by assumption)))⟩)
      | (go_split_ands; exact ⟨by go_keep, by go_keep, by go_keep, by assumption⟩)
      | (go_split_ands; exact ⟨by go_keep, by go_keep, by go_keep, Below.drew (by assumption)⟩)
      | (go_split_ands; exact ⟨by go_keep, by go_keep, by go_keep, Below.alloc (by assumption) (Below.size (by assumption)) _⟩))
    ((go_at_call 72; refine (htx _ (hEA.below (by go_split_ands; assumption))).mono ?_; rintro e w2 ⟨rfl, hbX⟩))
  go_split_ands
  have hbE : Below W0.heap.size W0 w2 := by assumption
  go_wp2
  go_ret2
  exact ⟨rfl, hal.trans (hbE.mono hal.size)⟩

set_option maxRecDepth 100000 in
set_option maxHeartbeats 4000000 in
theorem writeRows_any (kb : ByteArray) (hK : kb.data.toList.length ≤ 4) (v : Value) (xs : List Rw) (w : World) (a : Nat → Addr) (h : Env w a) (hx : RowsAt w v xs) (hl : xs.length ≤ 1000) (hall : ∀ x ∈ xs, rowE x = 0) :
    Calls Tryz.prog 69 #[.string kb, v, .func (.func 71) #[] #[]] w fun e w' => e = .returned (.string (bytesOf (headL kb.data.toList xs.length (endsZ (keysR xs)).1 (endsZ (keysR xs)).2 (sumL (linesL xs)) ++ 10 :: linesL xs))) ∧ Below w.heap.size w w' := by
  have eg : ∀ args w, (callFunc 71 args).run Tryz.prog w = .ok (.enter 71 args) w := enters_of Tryz.func71 (by kernel_rfl) rfl
  obtain ⟨q, cap, rfl⟩ := hx.form
  obtain ⟨L, hL⟩ : ∃ L, xs.length = L := ⟨_, rfl⟩
  have HX : Hid (xs.length = L) := hL
  have harg : (Value.slice q xs.length cap) = .slice q L cap := by rw [hL]
  rw [harg] at hx ⊢
  rw [hL] at hl
  clear hL harg
  have hA := heap_alloc2_old w (.cells #[.int .i64 0, .int .i64 0, .int .i64 0] 160) (.cells #[.pointer none, .slice none 0 0] 130)
  have hB := heap_alloc2_new w (.cells #[.int .i64 0, .int .i64 0, .int .i64 0] 160) (.cells #[.pointer none, .slice none 0 0] 130)
  have hal : Below w.heap.size w ((w.alloc (.cells #[.int .i64 0, .int .i64 0, .int .i64 0] 160)).alloc (.cells #[.pointer none, .slice none 0 0] 130)) := ((Below.refl _ _).alloc (Nat.le_refl _) _).alloc (by simp) _
  have hbld : Lib.IsBuilder 130 5 (w.heap.size + 1) (w.heap.size + 1) (Lib.byteCells (linesL [])) ((w.alloc (.cells #[.int .i64 0, .int .i64 0, .int .i64 0] 160)).alloc (.cells #[.pointer none, .slice none 0 0] 130)) :=
    Or.inl ⟨Nat.le_refl _, .slice none 0 0, hB, World.ownsRow_nil _ _ _ _, by simp [Value.ownBlock]⟩
  go_enter Tryz.func69, Tryz.ntmps69
  go_wp2
  go_loopw [16] (fun k wr => ∃ n : Nat, n ≤ L ∧ k = .int .i64 n ∧ Below w.heap.size w wr ∧ HeadAt wr w.heap.size n (endsZ (keysR (xs.take n))) ∧ Lib.IsBuilder 130 5 (w.heap.size + 1) (w.heap.size + 1) (Lib.byteCells (linesL (xs.take n))) wr) (fun k _ => L - (intOf k).toNat)
  case atStart => exact ⟨0, by omega, rfl, hal, hA, by simpa using hbld⟩
  case round =>
    clear hal hbld hA hB
    obtain ⟨n, hn, rfl, hb, hH, hB⟩ := hrel
    have hbh : w.heap.size ≤ wr.heap.size := hb.size
    have hbh1 : w.heap.size + 1 < wr.heap.size := by
      rcases hB with hB | hB
      · exact hB.lt
      · exact hB.lt
    by_cases hlt : n < L
    · have hltx : n < xs.length := by rw [HX.out]; exact hlt
      have hrows := hx.below hb
      rcases hrows with ⟨_, _, e, e'⟩ | ⟨b, o, cap2, e, hcells⟩
      · exfalso; have := HX.out; rw [e'] at this; simp at this; omega
      injection e with e1 e2 e3
      subst e1
      clear e2 e3
      obtain ⟨c1, c2, c3⟩ := hcells n hltx
      clear hcells
      have hi : (n : Int) < (L : Int) := by omega
      have hmem : xs[n] ∈ xs := List.getElem_mem _
      have hrok := hall _ hmem
      have htk : xs.take (n + 1) = xs.take n ++ [xs[n]] := by rw [List.take_append_getElem hltx]
      have hxs : xs[n].1.size ≤ 8 := by
        have := name_of_row hrok
        simp only [nameB, Bool.and_eq_true, decide_eq_true_eq] at this
        rw [← size_list]; exact this.1.2
      have htx := fun W (hW : Env W a) => make1_any xs[n] W a hW (by omega)
      have HTB : Hid ((textB xs[n]).data.toList = textL xs[n]) := textB_ok _ hrok
      have htl := text_len xs[n] hrok
      have hts : (textB xs[n]).size ≤ 32 := by rw [← size_list, HTB.out]; exact htl
      have HT : Hid (linesL (xs.take (n + 1)) = linesL (xs.take n) ++ (textL xs[n] ++ [10])) := by
        show _ = _
        rw [htk]; exact linesG_snoc dataK _ _
      have HKE : Hid (endsZ (keysR (xs.take (n + 1))) = endsP n (endsZ (keysR (xs.take n))) xs[n].2.1) := by
        show _ = _
        have hkl : (keysR (xs.take n)).length = n := by simp [keysG]; omega
        have := ends_more (keysR (xs.take n)) xs[n].2.1
        rw [hkl] at this
        rw [← this, htk, keys_snoc]
      have hll := linesG_len data_fine (xs.take n) (fun x hx2 => hall x (List.mem_of_mem_take hx2))
      have hlen : (Lib.byteCells (linesL (xs.take n))).length ≤ 40000 := by
        rw [Lib.byteCells_length]
        have : (xs.take n).length ≤ n := List.length_take_le _ _
        show (linesG dataK (xs.take n)).length ≤ 40000
        omega
      clear htk hmem hrok hxs htl hll
      generalize xs[n] = x at c1 c2 c3 htx HTB hts HT HKE
      generalize linesL (xs.take n) = acc at hB HT hlen
      generalize endsZ (keysR (xs.take n)) = E at hH HKE
      obtain ⟨xp, xk, xv⟩ := x
      generalize textB (xp, xk, xv) = tb at htx HTB hts
      dsimp only at c1 c2 c3 htx HKE
      have hal : Below wr.heap.size wr (wr.alloc (.cells #[.string xp, .int .i64 xk, .int .i64 xv] 41)) := (Below.refl _ _).alloc (Nat.le_refl _) _
      have hb2 : Below w.heap.size w (wr.alloc (.cells #[.string xp, .int .i64 xk, .int .i64 xv] 41)) := hb.trans (hal.mono hb.size)
      have htx2 := htx _ (h.below hb2)
      have hB2 := isBuilder_below hB hal
      have hH2 := hH.below hal
      clear htx hB hH
      go_wp2_with (go_at_fn 71; refine htx2.mono ?_; rintro e w3 ⟨rfl, hb3⟩)
      clear htx2 c1 c2 c3
      have hb4 : Below w.heap.size w w3 := hb2.trans (hb3.mono hb2.size)
      have hH3 := hH2.below hb3
      have hB3 := isBuilder_below hB2 hb3
      have hct := count_any w.heap.size n E xk w3 hH3 (by omega)
      clear hB2 hH2 hal
      go_wp2_with fail
      refine hct.mono ?_
      rintro e w4 ⟨rfl, rfl⟩
      clear hct
      have hH4 : HeadAt (headW w3 w.heap.size (n + 1) (endsP n E xk)) w.heap.size (n + 1) (endsP n E xk) := headW_at hH3
      have hB4 := isBuilder_head hB3 w.heap.size (n + 1) (endsP n E xk) (by omega)
      have hb5 : Below w.heap.size w (headW w3 w.heap.size (n + 1) (endsP n E xk)) := headW_below hb4 (Nat.le_refl _)
      have hsz5 : w.heap.size + 1 ≤ (headW w3 w.heap.size (n + 1) (endsP n E xk)).heap.size := by rw [headW_size]; exact lt_of_block hH3
      clear hB3 hH3 hb4
      generalize headW w3 w.heap.size (n + 1) (endsP n E xk) = W4 at hH4 hB4 hb5 hsz5 ⊢
      have hws := writeString_any (w.heap.size + 1) (w.heap.size + 1) _ tb W4 hB4 (by omega) hsz5
      clear hB4
      go_wp2_with fail
      refine hws.mono ?_
      rintro e w5 ⟨rfl, hB5, hb6⟩
      clear hws
      have hb7 : Below w.heap.size w w5 := hb5.trans (hb6.mono (Nat.le_succ _))
      have hH5 : HeadAt w5 w.heap.size (n + 1) (endsP n E xk) := by
        unfold HeadAt at *
        exact (hb6.block _ (Nat.lt_succ_self _)).trans hH4
      have hws := writeString_any (w.heap.size + 1) (w.heap.size + 1) _ ⟨#[10]⟩ w5 (Or.inr hB5) (by rw [List.length_append, Lib.strCells_length]; have : (⟨#[10]⟩ : ByteArray).size = 1 := rfl; omega) (Nat.le_trans hsz5 hb6.size)
      clear hH4
      go_wp2_with fail
      refine hws.mono ?_
      rintro e w7 ⟨rfl, hB7, hb8⟩
      clear hws hB5
      have hb9 : Below w.heap.size w w7 := hb7.trans (hb8.mono (Nat.le_succ _))
      have HH7 : Hid (HeadAt w7 w.heap.size (n + 1) (endsZ (keysR (xs.take (n + 1))))) := by
        show HeadAt _ _ _ _
        rw [HKE.out]
        unfold HeadAt at *
        exact (hb8.block _ (Nat.lt_succ_self _)).trans hH5
      have HB8 : Hid (Lib.IsBuilder 130 5 (w.heap.size + 1) (w.heap.size + 1) (Lib.byteCells (linesL (xs.take (n + 1)))) w7) := by
        show Lib.IsBuilder _ _ _ _ _ _
        rw [HT.out, Lib.byteCells_append, Lib.byteCells_append, ← HTB.out, ← List.append_assoc]
        exact Or.inr hB7
      clear hB7 hH5
      go_wp2
      go_roundw
      case rel => exact ⟨n + 1, by omega, by go_num, hb9, HH7.out, HB8.out⟩
      case measure => simp [intOf]; omega
    · obtain rfl : n = L := by omega
      have hta : xs.take n = xs := List.take_of_length_le (by rw [HX.out]; exact Nat.le_refl _)
      rw [hta] at hB hH
      have hst := Tryz.Builder_String_any (w.heap.size + 1) (w.heap.size + 1) (linesL xs) wr hB (by omega)
      have hfl := linesG_len data_fine xs hall
      have hends := ends_inG data_fine hall
      have hsum := fun W => sum_any (bytesOf (linesL xs)) W (by rw [bytes_len]; unfold maxLen; show (linesG dataK xs).length ≤ _; rw [HX.out] at hfl; omega)
      have eL : (bytesOf (linesL xs)).data.toList = linesL xs := by simp [bytesOf]
      rw [eL] at hsum
      have hsl := sumL_lt (linesL xs)
      have hht := fun W (hW : Env W a) => headText_any kb hK n (endsZ (keysR xs)).1 (endsZ (keysR xs)).2 (sumL (linesL xs)) W a hW.weak (by omega) hends.1 hends.2 hsl
      have hhl := head_len hK n (endsZ (keysR xs)).1 (endsZ (keysR xs)).2 (sumL (linesL xs)) (by omega) hends.1 hends.2 (by omega)
      obtain ⟨T0, hT0⟩ : ∃ T0, bytesOf (headL kb.data.toList xs.length (endsZ (keysR xs)).1 (endsZ (keysR xs)).2 (sumL (linesL xs)) ++ 10 :: linesL xs) = T0 := ⟨_, rfl⟩
      have HT0 : Hid (bytesOf (headL kb.data.toList xs.length (endsZ (keysR xs)).1 (endsZ (keysR xs)).2 (sumL (linesL xs)) ++ 10 :: linesL xs) = T0) := hT0
      have HF : Hid (T0 = bytesOf (headL kb.data.toList n (endsZ (keysR xs)).1 (endsZ (keysR xs)).2 (sumL (linesL xs))) ++ ⟨#[10]⟩ ++ bytesOf (linesL xs)) := by
        show _ = _
        rw [← hT0, HX.out]
        apply ByteArray.ext
        apply Array.ext'
        simp [bytesOf]
      have hs1 : (bytesOf (headL kb.data.toList n (endsZ (keysR xs)).1 (endsZ (keysR xs)).2 (sumL (linesL xs)))).size ≤ 2000 := by rw [bytes_len]; omega
      have hs2 : (bytesOf (linesL xs)).size ≤ 40000 := by rw [bytes_len]; show (linesG dataK xs).length ≤ _; rw [HX.out] at hfl; omega
      clear eL hfl hends hhl hta hB hall hT0
      generalize sumL (linesL xs) = S at hht hsum HF hs1 hsl
      generalize endsZ (keysR xs) = E at hht HF hs1 hH
      obtain ⟨lo, hi2⟩ := E
      dsimp only at hht HF hs1
      generalize bytesOf (headL kb.data.toList n lo hi2 (S : Int)) = hB at hht HF hs1
      have eS : (⟨(linesL xs).toArray⟩ : ByteArray) = bytesOf (linesL xs) := rfl
      rw [eS] at hst
      generalize bytesOf (linesL xs) = lB at hst hsum HF hs2
      clear eS
      go_wp2_with fail
      refine hst.mono ?_
      rintro e w2 ⟨rfl, hb2⟩
      clear hst
      have hH2 : HeadAt w2 w.heap.size n (lo, hi2) := by
        unfold HeadAt at *
        exact (hb2.block _ (Nat.lt_succ_self _)).trans hH
      obtain ⟨g0, g1, g2, _⟩ := hH2.cells
      dsimp only at g1 g2
      clear hH hH2
      have hB2 : Below w.heap.size w w2 := hb.trans (hb2.mono (Nat.le_succ _))
      have hE2 := h.below hB2
      have hb0 : Below w2.heap.size w2 w2 := Below.refl _ _
      have n1 : ¬ 9223372036854775807 < hB.size + 1 := by omega
      have n2 : ¬ 9223372036854775807 < hB.size + 1 + lB.size := by omega
      go_wp2_with fail
      go_region_held3 (fun w' => w'.cell? ⟨w.heap.size, 0, none⟩ = some (.int .i64 n) ∧ w'.cell? ⟨w.heap.size, 1, none⟩ = some (.int .i64 lo) ∧ w'.cell? ⟨w.heap.size, 2, none⟩ = some (.int .i64 hi2) ∧ Below w2.heap.size w2 w')
        (first
          | (go_split_ands; exact ⟨below_keep hbX (by assumption), below_keep hbX (by assumption), below_keep hbX (by assumption), Below.trans (by assumption) (hbX.mono (Below.size (by assumption)))⟩)
          | (go_split_ands; exact ⟨by go_keep, by go_keep, by go_keep, by assumption⟩)
          | (go_split_ands; exact ⟨by go_keep, by go_keep, by go_keep, Below.drew (by assumption)⟩))
        (first
          | (go_at_call 105; refine (hsum _).mono ?_; rintro e w3 ⟨rfl, hbX⟩)
          | (go_at_call 123; refine (hht _ (hE2.below (by go_split_ands; assumption))).mono ?_; rintro e w4 ⟨rfl, hbX⟩))
      go_split_ands
      have hbE : Below w2.heap.size w2 w4 := by assumption
      go_wp2
      go_ret
      exact ⟨by rw [HT0.out, HF.out]; rfl, hB2.trans (hbE.mono hB2.size)⟩
end Go.Proofs.YtpkoefpdpoikkaaGreatDoor
