/-
  The contracts of head.count and head.text: one line more, and a file's first line.
  The contracts of the document's own KeysOf, Ends and wholeText.
  The contract of the document's own ReadRow.
  Plain mathematics of the document's own SortRows: a row put in its place.
-/
import Derived.Test.YtoobgeekmaeccaaGreatDoorDataPure
import Derived.Test.YtoobgeekmaeccaaGreatDoorFmtU
import Derived.Test.YtoobgeekmaeccaaGreatDoorRefCut
import Derived.Test.YtoobgeekmaeccaaGreatDoorAppendSrc
import Derived.Lib.QuietBelow
import Derived.BigQuiet
import Derived.OneCell
import Derived.Deep.RegionHeld3
import Derived.Lib.JoinLaws
import Derived.BigRegion
namespace Go.Proofs.YtoobgeekmaeccaaGreatDoor
open Go.RowKit Go.Extern.Stop Go.Stop Go.Extern Go.Sort Go.Shelf Go.Lib

theorem bytes_len (l : List UInt8) : (bytesOf l).size = l.length := by rw [← size_list]; simp [bytesOf]

theorem ends_snoc (zs : List Int) (k : Int) (h : zs ≠ []) : endsZ (zs ++ [k]) = (if k < (endsZ zs).1 then k else (endsZ zs).1, if (endsZ zs).2 < k then k else (endsZ zs).2) := by
  cases zs with
  | nil => exact absurd rfl h
  | cons z r =>
    show ((r ++ [k]).foldl _ z, (r ++ [k]).foldl _ z) = _
    rw [List.foldl_append, List.foldl_append]
    rfl
def HeadAt (W : World) (g : Nat) (n : Nat) (E : Int × Int) : Prop := W.heap[g]? = some (.cells #[.int .i64 n, .int .i64 E.1, .int .i64 E.2] 174 (0, 0))

def headW (W : World) (g : Nat) (n : Nat) (E : Int × Int) : World := ((W.setCell ⟨g, 1, none⟩ (.int .i64 E.1)).setCell ⟨g, 2, none⟩ (.int .i64 E.2)).setCell ⟨g, 0, none⟩ (.int .i64 n)

def endsP (n : Nat) (E : Int × Int) (key : Int) : Int × Int := if n = 0 then (key, key) else (if key < E.1 then key else E.1, if E.2 < key then key else E.2)

theorem ends_more (zs : List Int) (key : Int) : endsZ (zs ++ [key]) = endsP zs.length (endsZ zs) key := by
  unfold endsP
  by_cases h : zs = []
  · subst h; rfl
  · rw [ends_snoc _ _ h, if_neg (fun e => h (List.length_eq_zero_iff.1 e))]

theorem headW_at {W : World} {g n m : Nat} {E E' : Int × Int} (h : HeadAt W g n E) : HeadAt (headW W g m E') g m E' := by
  unfold HeadAt headW at *
  rw [heap_setCell_same _ _ _ _ _ _ (heap_setCell_same _ _ _ _ _ _ (heap_setCell_same _ _ _ _ _ _ h))]
  rfl
theorem headW_other (W : World) (g m j : Nat) (E' : Int × Int) (hj : j ≠ g) : (headW W g m E').heap[j]? = W.heap[j]? := by
  unfold headW
  rw [heap_setCell_other _ _ _ _ hj, heap_setCell_other _ _ _ _ hj, heap_setCell_other _ _ _ _ hj]
theorem headW_size (W : World) (g m : Nat) (E' : Int × Int) : (headW W g m E').heap.size = W.heap.size := by
  unfold headW; simp [World.setCell]
theorem headW_below {W W0 : World} {B g m : Nat} {E' : Int × Int} (h : Below B W0 W) (hg : B ≤ g) : Below B W0 (headW W g m E') := ((h.setCell hg _).setCell hg _).setCell hg _

theorem HeadAt.cells {W : World} {g n : Nat} {E : Int × Int} (h : HeadAt W g n E) : W.cell? ⟨g, 0, none⟩ = some (.int .i64 n) ∧ W.cell? ⟨g, 1, none⟩ = some (.int .i64 E.1) ∧ W.cell? ⟨g, 2, none⟩ = some (.int .i64 E.2) ∧ ∀ o, W.frozen? ⟨g, o, none⟩ = false := by
  unfold HeadAt at h
  exact ⟨by rw [cell_of_row _ _ _ _ _ _ h]; rfl, by rw [cell_of_row _ _ _ _ _ _ h]; rfl, by rw [cell_of_row _ _ _ _ _ _ h]; rfl, fun o => frozen_of_row _ _ _ _ _ h⟩

theorem HeadAt.below {W W' : World} {g n : Nat} {E : Int × Int} (h : HeadAt W g n E) (hb : Below W.heap.size W W') : HeadAt W' g n E := by
  unfold HeadAt at *
  exact (hb.block g (lt_of_block h)).trans h

set_option maxRecDepth 100000 in
set_option maxHeartbeats 4000000 in
theorem count_any (g n : Nat) (E : Int × Int) (key : Int) (W : World) (h : HeadAt W g n E) (hn : n ≤ 100000) :
    Calls Tryz.prog 113 #[.pointer (some ⟨g, 0, none⟩), .int .i64 key] W fun e w' => e = .returned (.tuple #[]) ∧ w' = headW W g (n + 1) (endsP n E key) := by
  obtain ⟨lo, hi⟩ := E
  have HA : Hid (HeadAt W g n (lo, hi)) := h
  obtain ⟨c0, c1, c2, cf⟩ := h.cells
  dsimp only at c1 c2
  have hw1 : IntKind.i64.wrap ((n : Int) + 1) = (n : Int) + 1 := IntWalk.i64_in _ (by omega)
  have key0 : ∀ lo' hi', Hid (HeadAt (W.setCell ⟨g, 1, none⟩ (.int .i64 lo')) g n (lo', hi) ∧ HeadAt ((W.setCell ⟨g, 1, none⟩ (.int .i64 lo')).setCell ⟨g, 2, none⟩ (.int .i64 hi')) g n (lo', hi')) := fun lo' hi' => by
    have h1 : HeadAt (W.setCell ⟨g, 1, none⟩ (.int .i64 lo')) g n (lo', hi) := by
      have := HA.out
      unfold HeadAt at *
      rw [heap_setCell_same _ _ _ _ _ _ this]; rfl
    refine ⟨h1, ?_⟩
    unfold HeadAt at *
    rw [heap_setCell_same _ _ _ _ _ _ h1]; rfl
  by_cases hn0 : n = 0
  · subst hn0
    have HE : Hid (endsP 0 (lo, hi) key = (key, key)) := rfl
    obtain ⟨d1, d2⟩ := (key0 key key).out
    obtain ⟨c10, c11, c12, c1f⟩ := d1.cells
    obtain ⟨c20, c21, c22, c2f⟩ := d2.cells
    clear key0 d1 d2 h
    dsimp only at c11 c12 c21 c22
    go_enter Tryz.func113, Tryz.ntmps113
    go_wp2
    go_end0
    refine ⟨rfl, ?_⟩
    rw [HE.out]
    rfl
  · have hnz : ((n : Int) == 0) = false := by rw [beq_eq_false_iff_ne]; omega
    have hnz2 : ¬ (n : Int) = 0 := by omega
    by_cases hl1 : key < lo
    · by_cases hl2 : hi < key
      · have HE : Hid (endsP n (lo, hi) key = (key, key)) := by show _ = _; unfold endsP; rw [if_neg hn0]; simp [hl1, hl2]
        obtain ⟨d1, d2⟩ := (key0 key key).out
        obtain ⟨c10, c11, c12, c1f⟩ := d1.cells
        obtain ⟨c20, c21, c22, c2f⟩ := d2.cells
        clear key0 d1 d2 h
        dsimp only at c11 c12 c21 c22
        go_enter Tryz.func113, Tryz.ntmps113
        go_wp2
        go_end0
        refine ⟨rfl, ?_⟩
        rw [HE.out]
        rfl
      · have HE : Hid (endsP n (lo, hi) key = (key, hi)) := by show _ = _; unfold endsP; rw [if_neg hn0]; simp [hl1, hl2]
        obtain ⟨d1, d2⟩ := (key0 key hi).out
        obtain ⟨c10, c11, c12, c1f⟩ := d1.cells
        have S : Hid ((W.setCell ⟨g, 1, none⟩ (.int .i64 key)).setCell ⟨g, 2, none⟩ (.int .i64 hi) = W.setCell ⟨g, 1, none⟩ (.int .i64 key)) := setCell_self c12
        clear key0 d1 d2 h
        dsimp only at c11 c12
        go_enter Tryz.func113, Tryz.ntmps113
        go_wp2
        go_end0
        refine ⟨rfl, ?_⟩
        rw [HE.out]
        unfold headW
        dsimp only
        rw [S.out]
        rfl
    · have S1 : Hid (W.setCell ⟨g, 1, none⟩ (.int .i64 lo) = W) := setCell_self c1
      have S2 : Hid (W.setCell ⟨g, 2, none⟩ (.int .i64 hi) = W) := setCell_self c2
      by_cases hl2 : hi < key
      · have HE : Hid (endsP n (lo, hi) key = (lo, key)) := by show _ = _; unfold endsP; rw [if_neg hn0]; simp [hl1, hl2]
        obtain ⟨d1, d2⟩ := (key0 lo key).out
        rw [S1.out] at d2
        obtain ⟨c20, c21, c22, c2f⟩ := d2.cells
        clear key0 d1 d2 h
        dsimp only at c21 c22
        go_enter Tryz.func113, Tryz.ntmps113
        go_wp2
        go_end0
        refine ⟨rfl, ?_⟩
        rw [HE.out]
        unfold headW
        dsimp only
        rw [S1.out]
        rfl
      · have HE : Hid (endsP n (lo, hi) key = (lo, hi)) := by show _ = _; unfold endsP; rw [if_neg hn0]; simp [hl1, hl2]
        clear key0 h
        go_enter Tryz.func113, Tryz.ntmps113
        go_wp2
        go_end0
        refine ⟨rfl, ?_⟩
        rw [HE.out]
        unfold headW
        dsimp only
        rw [S1.out, S2.out]
        rfl

set_option maxRecDepth 100000 in
set_option maxHeartbeats 4000000 in
theorem headText_any (kb : ByteArray) (hK : kb.data.toList.length ≤ 4) (n : Nat) (lo hi : Int) (sum : Nat) (w : World) (a : Nat → Addr) (h : Env0 w a) (hn : n ≤ 1000) (hlo : inNum lo = true) (hhi : inNum hi = true) (hs : sum < 4294967296) :
    Calls Tryz.prog 116 #[.agg #[.int .i64 n, .int .i64 lo, .int .i64 hi], .string kb, .int .u32 sum] w fun e w' => e = .returned (.string (bytesOf (headL kb.data.toList n lo hi sum))) ∧ Below w.heap.size w w' := by
  have hlen := head_len hK n lo hi sum (by omega) hlo hhi (by omega)
  simp only [inNum, Bool.and_eq_true, decide_eq_true_eq] at hlo hhi
  have hw0 : IntKind.u64.wrap (sum : Int) = (sum : Int) := by rw [IntKind.wrap_u64]; omega
  have hal : Below w.heap.size w (w.alloc (.cells #[.int .i64 n, .int .i64 lo, .int .i64 hi] 174)) := (Below.refl _ _).alloc (Nat.le_refl _) _
  have hEA := h.below hal
  have x0 : (w.alloc (.cells #[.int .i64 n, .int .i64 lo, .int .i64 hi] 174)).cell? ⟨w.heap.size, 0, none⟩ = some (.int .i64 n) := by simp
  have x1 : (w.alloc (.cells #[.int .i64 n, .int .i64 lo, .int .i64 hi] 174)).cell? ⟨w.heap.size, 1, none⟩ = some (.int .i64 lo) := by simp
  have x2 : (w.alloc (.cells #[.int .i64 n, .int .i64 lo, .int .i64 hi] 174)).cell? ⟨w.heap.size, 2, none⟩ = some (.int .i64 hi) := by simp
  go_enter Tryz.func116, Tryz.ntmps116
  go_wp2_with fail
  generalize hW0 : w.alloc (.cells #[.int .i64 n, .int .i64 lo, .int .i64 hi] 174) = W0 at hal hEA x0 x1 x2 ⊢
  generalize w.heap.size = g at x0 x1 x2
  have hb0 : Below W0.heap.size W0 W0 := Below.refl _ _
  go_region_held3 (fun w' => w'.cell? ⟨g, 0, none⟩ = some (.int .i64 n) ∧ w'.cell? ⟨g, 1, none⟩ = some (.int .i64 lo) ∧ w'.cell? ⟨g, 2, none⟩ = some (.int .i64 hi) ∧ Below W0.heap.size W0 w')
    (first
      | (go_split_ands; exact ⟨below_keep hbX (by assumption), below_keep hbX (by assumption), below_keep hbX (by assumption), Below.trans (by assumption) (hbX.mono (Below.size (by assumption)))⟩)
      | (go_split_ands; exact ⟨by go_keep, by go_keep, by go_keep, by assumption⟩)
      | (go_split_ands; exact ⟨by go_keep, by go_keep, by go_keep, Below.drew (by assumption)⟩)
      | (go_split_ands; exact ⟨by go_keep, by go_keep, by go_keep, Below.alloc (by assumption) (Below.size (by assumption)) _⟩))
    (first
      | (go_at_call 64; refine (itoa_below _ _ a (hEA.below (by go_split_ands; assumption)) (by omega) (by omega)).mono ?_; rintro e w2 ⟨rfl, hbX⟩)
      | (go_at_call 166; refine (fmtU_any sum (by omega) _ a (hEA.below (by go_split_ands; assumption))).mono ?_; rintro e w2 ⟨rfl, hbX⟩))
  go_split_ands
  have hbE : Below W0.heap.size W0 (w2.alloc (.cells #[.string kb, .string (bytesOf (itoa n)), .string (bytesOf (itoa lo)), .string (bytesOf (itoa hi)), .string (bytesOf (itoa sum))] 9)) := by assumption
  have hBE : Below w.heap.size w (w2.alloc (.cells #[.string kb, .string (bytesOf (itoa n)), .string (bytesOf (itoa lo)), .string (bytesOf (itoa hi)), .string (bytesOf (itoa sum))] 9)) := hal.trans (hbE.mono hal.size)
  have hjl : (Lib.join ([kb, bytesOf (itoa n), bytesOf (itoa lo), bytesOf (itoa hi), bytesOf (itoa sum)].map (·.data.toList)) (⟨#[32]⟩ : ByteArray).data.toList) = headL kb.data.toList n lo hi sum := by
    simp [Lib.join, headL, bytesOf]
  have hj := Tryz.strings_Join w2.heap.size 0 5 [kb, bytesOf (itoa n), bytesOf (itoa lo), bytesOf (itoa hi), bytesOf (itoa sum)] ⟨#[32]⟩ (w2.alloc (.cells #[.string kb, .string (bytesOf (itoa n)), .string (bytesOf (itoa lo)), .string (bytesOf (itoa hi)), .string (bytesOf (itoa sum))] 9)) (fun j x hx => by
      rw [Nat.zero_add, cell_of_row _ _ _ _ _ _ (heap_alloc_new _ _)]
      match j, hx with
      | 0, hx => simp at hx; subst hx; rfl
      | 1, hx => simp at hx; subst hx; rfl
      | 2, hx => simp at hx; subst hx; rfl
      | 3, hx => simp at hx; subst hx; rfl
      | 4, hx => simp at hx; subst hx; rfl
      | j + 5, hx => simp at hx) (by simp) (by simp) (by simp) (by rw [hjl]; omega)
  rw [hjl] at hj
  clear hjl hlen
  generalize w2.alloc (.cells #[.string kb, .string (bytesOf (itoa n)), .string (bytesOf (itoa lo)), .string (bytesOf (itoa hi)), .string (bytesOf (itoa sum))] 9) = WE at hj hBE ⊢
  go_wp2_with fail
  refine hj.mono ?_
  rintro e w9 ⟨rfl, hb9⟩
  go_wp2
  go_ret
  exact ⟨rfl, hBE.trans (hb9.mono hBE.size)⟩
end Go.Proofs.YtoobgeekmaeccaaGreatDoor
namespace Go.Proofs.YtoobgeekmaeccaaGreatDoor
open Go.RowKit Go.Extern.Stop Go.Stop Go.Extern Go.Sort Go.Shelf Go.Lib

def encZ (n : Int) : Value := .int .i64 n

theorem keysAt_of_own {w : World} {base : Nat} {v : Value} {zs : List Int} (h : w.ownsRow base 3 1 v zs.length (zs.map encZ)) : KeysAt w v zs := by
  obtain ⟨hl, h⟩ := h
  rcases h with ⟨hv, hn⟩ | ⟨g, cap, cur, rfl, _, hg, hc, _, _, ht⟩
  · have : zs = [] := List.length_eq_zero_iff.1 hn
    subst this
    exact .inl ⟨none, 0, hv, rfl⟩
  · refine .inr ⟨g, 0, cap, rfl, fun j hj => ?_⟩
    have hu : (zs.map encZ)[j]? = some (.int .i64 zs[j]) := by simp [hj, encZ]
    rw [← ht, List.getElem?_take, if_pos (by omega)] at hu
    simp only [World.cell?, hg, Nat.zero_add]
    simpa using hu

set_option maxRecDepth 100000 in
set_option maxHeartbeats 2000000 in
theorem keysOf_any (v : Value) (xs : List Rw) (w : World) (hx : RowsAt w v xs) (hl : xs.length ≤ 20000) :
    Calls Tryz.prog 78 #[v] w fun e w' => ∃ v', e = .returned v' ∧ KeysAt w' v' (keysR xs) ∧ Below w.heap.size w w' := by
  obtain ⟨i0, hi0, hz0, hs0, hby0⟩ := Tryz.numInfo
  obtain ⟨q, cap, rfl⟩ := hx.form
  generalize hL : xs.length = L at hx hl ⊢
  have HX : Hid (xs.length = L) := hL
  clear hL
  go_enter Tryz.func78, Tryz.ntmps78
  go_wp2
  go_loopw [3, 4] (fun out k wr => ∃ n : Nat, n ≤ L ∧ k = .int .i64 n ∧ Below w.heap.size w wr ∧ wr.ownsRow w.heap.size 3 1 out n ((keysR (xs.take n)).map encZ)) (fun _ k _ => L - (intOf k).toNat)
  case atStart => exact ⟨0, by omega, rfl, Below.refl _ _, by simp [keysG]; exact World.ownsRow_nil _ _ _ _⟩
  case round =>
    obtain ⟨n, hn, rfl, hb, hown⟩ := hrel
    have OW : Hid (wr.ownsRow w.heap.size 3 1 u3 n ((keysR (xs.take n)).map encZ)) := hown
    clear hown
    by_cases hlt : n < L
    · have hltx : n < xs.length := by rw [HX.out]; exact hlt
      have hrows := hx.below hb
      rcases hrows with ⟨_, _, e, e'⟩ | ⟨b, o, cap2, e, hcells⟩
      · exfalso; have := HX.out; rw [e'] at this; simp at this; omega
      injection e with e1 e2 e3
      subst e1
      clear e2 e3
      obtain ⟨c1, c2, c3⟩ := hcells n hltx
      clear hcells
      have hi : (n : Int) < (L : Int) := by omega
      have HK : Hid ((keysR (xs.take (n + 1))).map encZ = (keysR (xs.take n)).map encZ ++ [.int .i64 xs[n].2.1]) := by
        show _ = _
        rw [← List.take_append_getElem hltx, keys_snoc, List.map_append]
        rfl
      generalize xs[n].2.1 = xk at c2 HK
      clear c1 c3 hltx
      have hal : Below wr.heap.size wr (wr.alloc (.cells #[.int .i64 xk] 3)) := (Below.refl _ _).alloc (Nat.le_refl _) _
      have hbA : Below w.heap.size w (wr.alloc (.cells #[.int .i64 xk] 3)) := hb.alloc hb.size _
      go_wp2_with (at_builtin; refine wpList_append_own _ rfl _ _ 50 rfl w.heap.size 3 i0 (.int .i64 0) 1 8 Tryz.underlying50 hi0 hz0 hs0 hby0 rfl (by decide) u3 n ((keysR (xs.take n)).map encZ) rfl ?qc0 ⟨wr.heap.size, 0, none⟩ 1 1 [.int .i64 xk] rfl ?qc1 ?qc2 ?qc3 ?qc4 ?qc5 ?qc6 ?_)
      case qc0 => exact own_below OW.out hal
      case qc1 => rfl
      case qc2 => exact cell_one _ _ _
      case qc3 => intro u hu; simp at hu; subst hu; rfl
      case qc4 => unfold maxLen; omega
      case qc5 => omega
      case qc6 => first | exact hbA.size | (have := hb.size; omega)
      intro v' w4 hown4 hgrow hnil
      have hbC : Below w.heap.size w w4 := hbA.grown hgrow hbA.size (fun k hk => by
        rcases OW.out.2 with ⟨e, _⟩ | ⟨g', cap', cur, e, hg', _⟩
        · rw [e] at hk; simp [Value.ownBlock] at hk
        · rw [e] at hk; simp [Value.ownBlock] at hk; omega)
      have OW4 : Hid (w4.ownsRow w.heap.size 3 1 v' (n + 1) ((keysR (xs.take n)).map encZ ++ [.int .i64 xk])) := hown4
      clear hown4 hnil hgrow
      go_wp2
      go_roundw
      case rel => exact ⟨n + 1, by omega, by go_num, hbC, by rw [HK.out]; exact OW4.out⟩
      case measure => simp [intOf]; omega
    · obtain rfl : n = L := by omega
      have hta : xs.take n = xs := List.take_of_length_le (by rw [HX.out]; exact Nat.le_refl _)
      rw [hta] at OW
      have HKA : Hid (KeysAt wr u3 (keysR xs)) := keysAt_of_own (base := w.heap.size) (by
        have e : (keysR xs).length = n := by simp [keysG, HX.out]
        rw [e]; exact OW.out)
      clear hta
      go_wp2
      go_ret
      exact ⟨_, rfl, HKA.out, hb⟩

set_option maxRecDepth 100000 in
set_option maxHeartbeats 2000000 in
theorem ends_any (v : Value) (zs : List Int) (w : World) (hz : KeysAt w v zs) (hl : zs.length ≤ maxLen) :
    Calls Tryz.prog 83 #[v] w fun e w' => e = .returned (.tuple #[.int .i64 (endsZ zs).1, .int .i64 (endsZ zs).2]) ∧ w' = w := by
  unfold maxLen at hl
  rcases hz with ⟨p, c, rfl, rfl⟩ | ⟨b, o, cap, rfl, hc⟩
  · have e0 : endsZ [] = (0, 0) := rfl
    rw [e0]
    clear hl
    go_enter Tryz.func83, Tryz.ntmps83
    go_wp2
    go_ret2
    exact ⟨rfl, rfl⟩
  by_cases h0 : zs.length = 0
  · have hz0 : zs = [] := List.length_eq_zero_iff.1 h0
    subst hz0
    have e0 : endsZ [] = (0, 0) := rfl
    rw [e0]
    clear hl hc
    have e1 : ([] : List Int).length = 0 := rfl
    rw [e1]
    clear h0 e1 e0
    go_enter Tryz.func83, Tryz.ntmps83
    go_wp2
    go_ret2
    exact ⟨rfl, rfl⟩
  have c0 := hc 0 (by omega)
  simp only [Nat.add_zero] at c0
  have HZ1 : Hid (endsZ (zs.take 1) = (zs[0], zs[0])) := by
    show _ = _
    have e : zs.take 1 = [zs[0]] := by
      cases zs with
      | nil => simp at h0
      | cons z r => simp
    rw [e]; rfl
  generalize zs[0] = z0 at c0 HZ1
  have HC : Hid (∀ j (h : j < zs.length), w.cell? ⟨b, o + j, none⟩ = some (.int .i64 zs[j])) := hc
  clear hc
  generalize hL : zs.length = L at hl h0 ⊢
  have HX : Hid (zs.length = L) := hL
  clear hL
  have hL0 : ¬ (L : Int) = 0 := by omega
  have hLp : (0 : Int) < (L : Int) := by omega
  go_enter Tryz.func83, Tryz.ntmps83
  go_wp2
  go_loop [4, 5, 6] (fun lo hi k => ∃ n : Nat, 1 ≤ n ∧ n ≤ L ∧ k = .int .i64 n ∧ lo = .int .i64 (endsZ (zs.take n)).1 ∧ hi = .int .i64 (endsZ (zs.take n)).2) (fun _ _ k => L - (intOf k).toNat)
  case atStart => exact ⟨1, Nat.le_refl _, by omega, rfl, by rw [HZ1.out], by rw [HZ1.out]⟩
  case round =>
    obtain ⟨n, hn1, hn, rfl, rfl, rfl⟩ := hrel
    by_cases hlt : n < L
    · have hltx : n < zs.length := by rw [HX.out]; exact hlt
      have cn := HC.out n hltx
      have hi : (n : Int) < (L : Int) := by omega
      have hi0 : (0 : Int) ≤ (n : Int) := by omega
      have HK : Hid (endsZ (zs.take (n + 1)) = (if zs[n] < (endsZ (zs.take n)).1 then zs[n] else (endsZ (zs.take n)).1, if (endsZ (zs.take n)).2 < zs[n] then zs[n] else (endsZ (zs.take n)).2)) := by
        show _ = _
        rw [← List.take_append_getElem hltx, ends_snoc _ _ (fun e => by
          have := congrArg List.length e
          rw [List.length_take, List.length_nil] at this
          have := HX.out
          omega)]
      generalize zs[n] = z at cn HK
      generalize endsZ (zs.take n) = E at HK ⊢
      obtain ⟨lo, hi2⟩ := E
      dsimp only at HK ⊢
      clear hltx
      by_cases hl1 : z < lo
      · by_cases hl2 : hi2 < z
        · rw [if_pos hl1, if_pos hl2] at HK
          go_wp2
          go_round
          case rel => exact ⟨n + 1, by omega, by omega, by go_num, by rw [HK.out], by rw [HK.out]⟩
          case measure => simp [intOf]; omega
        · rw [if_pos hl1, if_neg hl2] at HK
          go_wp2
          go_round
          case rel => exact ⟨n + 1, by omega, by omega, by go_num, by rw [HK.out], by rw [HK.out]⟩
          case measure => simp [intOf]; omega
      · by_cases hl2 : hi2 < z
        · rw [if_neg hl1, if_pos hl2] at HK
          go_wp2
          go_round
          case rel => exact ⟨n + 1, by omega, by omega, by go_num, by rw [HK.out], by rw [HK.out]⟩
          case measure => simp [intOf]; omega
        · rw [if_neg hl1, if_neg hl2] at HK
          go_wp2
          go_round
          case rel => exact ⟨n + 1, by omega, by omega, by go_num, by rw [HK.out], by rw [HK.out]⟩
          case measure => simp [intOf]; omega
    · obtain rfl : n = L := by omega
      have hta : zs.take n = zs := List.take_of_length_le (by rw [HX.out]; exact Nat.le_refl _)
      rw [hta]
      clear hta
      go_wp2
      go_ret2
      exact ⟨rfl, rfl⟩

set_option maxRecDepth 100000 in
set_option maxHeartbeats 2000000 in
theorem wholeText_any (kw : ByteArray) (hkw : kw.size ≤ 100) (v : Value) (zs : List Int) (body : ByteArray) (w : World) (hz : KeysAt w v zs) (hl : zs.length ≤ 20000) (hb : body.size ≤ 20000) (h1 : -1073741824 ≤ (endsZ zs).1 ∧ (endsZ zs).1 ≤ 4294967296) (h2 : -1073741824 ≤ (endsZ zs).2 ∧ (endsZ zs).2 ≤ 4294967296) :
    Calls Tryz.prog 77 #[.string kw, v, .string body] w fun e w' => e = .returned (.string (bytesOf (headL kw.data.toList zs.length (endsZ zs).1 (endsZ zs).2 (sumL body.data.toList) ++ 10 :: body.data.toList))) ∧ Below w.heap.size w w' := by
  have hen := ends_any v zs w hz (by unfold maxLen; omega)
  obtain ⟨q, cap, rfl⟩ := hz.form
  have hsl := sumL_lt body.data.toList
  have hsu := fun W => sumOf_any body W (by unfold maxLen; omega)
  have HT : Hid (((((((((((kw ++ ⟨#[32]⟩) ++ bytesOf (itoa zs.length)) ++ ⟨#[32]⟩) ++ bytesOf (itoa (endsZ zs).1)) ++ ⟨#[32]⟩) ++ bytesOf (itoa (endsZ zs).2)) ++ ⟨#[32]⟩) ++ bytesOf (itoa (sumL body.data.toList))) ++ ⟨#[10]⟩) ++ body) = bytesOf (headL kw.data.toList zs.length (endsZ zs).1 (endsZ zs).2 (sumL body.data.toList) ++ 10 :: body.data.toList)) := by
    show _ = _
    apply part_ext
    simp [bytesOf, ByteArray.data_append, headL]
  have hd1 := fun W => decimal_any zs.length W (by omega) (by omega)
  have hd2 := fun W => decimal_any (endsZ zs).1 W (by omega) (by omega)
  have hd3 := fun W => decimal_any (endsZ zs).2 W (by omega) (by omega)
  have hd4 := fun W => decimal_any (sumL body.data.toList) W (by omega) (by omega)
  have z1 : (bytesOf (itoa zs.length)).size ≤ 11 := by rw [bytesOf_size]; exact itoa_len11 _ (by omega) (by omega)
  have z2 : (bytesOf (itoa (endsZ zs).1)).size ≤ 11 := by rw [bytesOf_size]; exact itoa_len11 _ h1.1 h1.2
  have z3 : (bytesOf (itoa (endsZ zs).2)).size ≤ 11 := by rw [bytesOf_size]; exact itoa_len11 _ h2.1 h2.2
  have z4 : (bytesOf (itoa (sumL body.data.toList))).size ≤ 11 := by rw [bytesOf_size]; exact itoa_len11 _ (by omega) (by omega)
  generalize bytesOf (headL kw.data.toList zs.length (endsZ zs).1 (endsZ zs).2 (sumL body.data.toList) ++ 10 :: body.data.toList) = T at HT ⊢
  generalize (endsZ zs).1 = lo at hen hd2 HT z2
  generalize (endsZ zs).2 = hi at hen hd3 HT z3
  generalize sumL body.data.toList = su at hsu hd4 HT hsl z4
  generalize zs.length = L at hen hd1 HT hl z1 ⊢
  generalize bytesOf (itoa L) = t1 at hd1 HT z1
  generalize bytesOf (itoa lo) = t2 at hd2 HT z2
  generalize bytesOf (itoa hi) = t3 at hd3 HT z3
  generalize bytesOf (itoa su) = t4 at hd4 HT z4
  clear hz h1 h2
  go_enter Tryz.func77, Tryz.ntmps77
  go_wp2_with fail
  refine hen.mono ?_
  rintro e w1 ⟨rfl, rfl⟩
  clear hen
  go_wp2_with fail
  refine (hd1 _).mono ?_
  rintro e w2 ⟨rfl, hg2⟩
  clear hd1
  go_wp2_with fail
  refine (hd2 _).mono ?_
  rintro e w3 ⟨rfl, hg3⟩
  clear hd2
  go_wp2_with fail
  refine (hd3 _).mono ?_
  rintro e w4 ⟨rfl, hg4⟩
  clear hd3
  go_wp2_with fail
  refine (hsu _).mono ?_
  rintro e w5 ⟨rfl, rfl⟩
  clear hsu
  go_wp2_with fail
  refine (hd4 _).mono ?_
  rintro e w6 ⟨rfl, hg6⟩
  clear hd4
  have b2 := hg2.below
  have b3 := b2.trans (hg3.below.mono b2.size)
  have b4 := b3.trans (hg4.below.mono b3.size)
  have b6 := b4.trans (hg6.below.mono b4.size)
  clear hg2 hg3 hg4 hg6
  go_wp2
  go_ret
  exact ⟨congrArg (fun x => Ending.returned (Value.string x)) HT.out, b6⟩
end Go.Proofs.YtoobgeekmaeccaaGreatDoor
namespace Go.Proofs.YtoobgeekmaeccaaGreatDoor
open Go.RowKit Go.Extern.Stop Go.Stop Go.Extern Go.Sort Go.Shelf Go.Lib

set_option maxRecDepth 100000 in
set_option maxHeartbeats 2000000 in
theorem readRow_any (s : ByteArray) (w : World) (hs : s.size < 4294967281) :
    Calls Tryz.prog 104 #[.string s] w fun e w' => e = .returned (.tuple #[rowV (readO s.data.toList).1, .int .i64 (readO s.data.toList).2]) ∧ Below w.heap.size w w' := by
  generalize hR : readO s.data.toList = R
  have HR : Hid (readO s.data.toList = R) := hR
  clear hR
  have hb0 : Below w.heap.size w (w.alloc (.cells #[.string ⟨#[]⟩, .int .i64 0, .int .i64 0] 54)) := (Below.refl _ _).alloc (Nat.le_refl _) _
  go_enter Tryz.func104, Tryz.ntmps104
  go_wp2_with fail
  refine (cutText_any s _ hs).mono ?_
  rintro e w1 ⟨v, ts, rfl, hT, hmap, hb1⟩
  obtain ⟨b, cap, rfl, hcap, hcells⟩ := hT
  have z0 : w1.cell? ⟨w.heap.size, 0, none⟩ = some (.string ⟨#[]⟩) := below_keep hb1 (by simp)
  have z1 : w1.cell? ⟨w.heap.size, 1, none⟩ = some (.int .i64 0) := below_keep hb1 (by simp)
  have z2 : w1.cell? ⟨w.heap.size, 2, none⟩ = some (.int .i64 0) := below_keep hb1 (by simp)
  have fz : ∀ o, w1.frozen? ⟨w.heap.size, o, none⟩ = false := fun o => by rw [hb1.frozen (p := ⟨w.heap.size, o, none⟩) (by simp)]; simp
  have hB1 : Below w.heap.size w w1 := hb0.trans (hb1.mono hb0.size)
  have hlen : ts.length = (words s.data.toList).length := by rw [← hmap, List.length_map]
  have hlenW := words_len s.data.toList
  by_cases h3 : ts.length = 3
  · obtain ⟨P, K, V, rfl⟩ : ∃ P K V, ts = [P, K, V] := by
      match ts, h3 with
      | [P, K, V], _ => exact ⟨P, K, V, rfl⟩
    simp only [List.map_cons, List.map_nil] at hmap
    have c0 : w1.cell? ⟨b, 0, none⟩ = some (.string P) := hcells 0 (by simp)
    have c1 : w1.cell? ⟨b, 1, none⟩ = some (.string K) := hcells 1 (by simp)
    have c2 : w1.cell? ⟨b, 2, none⟩ = some (.string V) := hcells 2 (by simp)
    have hsK : K.size ≤ maxLen := by
      have := hlenW K.data.toList (by rw [← hmap]; simp)
      rw [size_list, size_list] at this
      unfold maxLen; omega
    have hsV : V.size ≤ maxLen := by
      have := hlenW V.data.toList (by rw [← hmap]; simp)
      rw [size_list, size_list] at this
      unfold maxLen; omega
    have hsP : P.size ≤ maxLen := by
      have := hlenW P.data.toList (by rw [← hmap]; simp)
      rw [size_list, size_list] at this
      unfold maxLen; omega
    have hr := readO_three hmap.symm
    rw [bytesOf_data] at hr
    have HRR := HR.out.symm.trans hr
    clear HR hr hmap hlen hlenW hcells h3
    simp only [List.length_cons, List.length_nil, Nat.zero_add, Nat.reduceAdd] at hcap ⊢
    have HE : Hid (R = match numO K.data.toList, numO V.data.toList with
      | some a, some b => if rowE (P, a, b) = 0 then ((P, a, b), 0) else ((bytesOf [], 0, 0), rowE (P, a, b))
      | _, _ => ((bytesOf [], 0, 0), 1)) := HRR
    clear HRR
    go_wp2_with fail
    refine (numbersOf_any b 1 _ K V w1 c1 c2 hsK hsV).mono ?_
    rintro e w2 ⟨hN, hb2⟩
    have hB2 : Below w.heap.size w w2 := hB1.trans (hb2.mono hB1.size)
    have y0 := below_keep hb2 z0
    have y1 := below_keep hb2 z1
    have y2 := below_keep hb2 z2
    have d0 := below_keep hb2 c0
    have hz1 : w.heap.size < w1.heap.size := cell_lt z0
    have fy : ∀ o, w2.frozen? ⟨w.heap.size, o, none⟩ = false := fun o => by rw [hb2.frozen (p := ⟨w.heap.size, o, none⟩) hz1]; exact fz o
    have hz2 : w.heap.size < w2.heap.size := cell_lt y0
    clear z0 z1 z2 fz c0 c1 c2 hz1
    have HE' := HE.out
    clear HE
    generalize numO K.data.toList = nk at hN HE'
    generalize numO V.data.toList = nv at hN HE'
    by_cases hgood : ∃ x y, nk = some x ∧ nv = some y
    · obtain ⟨x, y, rfl, rfl⟩ := hgood
      obtain ⟨g, c, rfl, k0, k1⟩ := hN
      dsimp only at HE'
      have hbR : Below w2.heap.size w2 (w2.alloc (.cells #[.string P, .int .i64 x, .int .i64 y] 54)).drew := ((Below.refl _ _).alloc (Nat.le_refl _) _).drew
      have hBR : Below w.heap.size w (w2.alloc (.cells #[.string P, .int .i64 x, .int .i64 y] 54)).drew := hB2.trans (hbR.mono hB2.size)
      have hck := rowError_any (P, x, y) ((w2.alloc (.cells #[.string P, .int .i64 x, .int .i64 y] 54)).drew) hsP
      dsimp only at hck
      have q0 := below_keep hbR y0
      have q1 := below_keep hbR y1
      have q2 := below_keep hbR y2
      have r0 : (w2.alloc (.cells #[.string P, .int .i64 x, .int .i64 y] 54)).drew.cell? ⟨w2.heap.size, 0, none⟩ = some (.string P) := by simp
      have r1 : (w2.alloc (.cells #[.string P, .int .i64 x, .int .i64 y] 54)).drew.cell? ⟨w2.heap.size, 1, none⟩ = some (.int .i64 x) := by simp
      have r2 : (w2.alloc (.cells #[.string P, .int .i64 x, .int .i64 y] 54)).drew.cell? ⟨w2.heap.size, 2, none⟩ = some (.int .i64 y) := by simp
      have hbZ : Below w2.heap.size w2 (w2.alloc (.cells #[.string ⟨#[]⟩, .int .i64 0, .int .i64 0] 54)) := (Below.refl _ _).alloc (Nat.le_refl _) _
      have j0 := below_keep hbZ k0
      have j1 := below_keep hbZ k1
      have j2 := below_keep hbZ d0
      have l0 := below_keep hbZ.drew k0
      have l1 := below_keep hbZ.drew k1
      have l2 := below_keep hbZ.drew d0
      have m0 := below_keep (Below.refl w2.heap.size w2).drew k0
      have m1 := below_keep (Below.refl w2.heap.size w2).drew k1
      have m2 := below_keep (Below.refl w2.heap.size w2).drew d0
      by_cases he : rowE (P, x, y) = 0
      · rw [if_pos he] at HE'
        subst HE'
        rw [he] at hck
        clear he
        go_wp2
        go_region
        all_goals go_wp2_with fail
        refine hck.mono ?_
        rintro e w5 ⟨rfl, hb5⟩
        have g0 := below_keep hb5 q0
        have g1 := below_keep hb5 q1
        have g2 := below_keep hb5 q2
        have u0 := below_keep hb5 r0
        have u1 := below_keep hb5 r1
        have u2 := below_keep hb5 r2
        have hB5 : Below w.heap.size w w5 := hBR.trans (hb5.mono hBR.size)
        have f5 : ∀ o, w5.frozen? ⟨w.heap.size, o, none⟩ = false := fun o => by
          rw [hb5.frozen (p := ⟨w.heap.size, o, none⟩) (by simp; omega), hbR.frozen (p := ⟨w.heap.size, o, none⟩) hz2]; exact fy o
        clear hck q0 q1 q2 r0 r1 r2 y0 y1 y2 fy
        go_wp2
        refine bodyPost_ret (v := .tuple #[.agg #[.string P, .int .i64 x, .int .i64 y], .int .i64 0]) (by simp [results, Tryz.results104, go_sem, g0, g1, g2]) rfl ⟨rfl, ?_⟩
        exact ((hB5.setCell (by simp) _).setCell (by simp) _).setCell (by simp) _
      · rw [if_neg he] at HE'
        generalize rowE (P, x, y) = E at he hck HE'
        subst HE'
        have hE : (0 : Int) < (E : Int) := by omega
        clear he
        go_wp2
        go_region
        all_goals go_wp2_with fail
        refine hck.mono ?_
        rintro e w5 ⟨rfl, hb5⟩
        have g0 := below_keep hb5 q0
        have g1 := below_keep hb5 q1
        have g2 := below_keep hb5 q2
        have hB5 : Below w.heap.size w w5 := hBR.trans (hb5.mono hBR.size)
        have f5 : ∀ o, w5.frozen? ⟨w.heap.size, o, none⟩ = false := fun o => by
          rw [hb5.frozen (p := ⟨w.heap.size, o, none⟩) (by simp; omega), hbR.frozen (p := ⟨w.heap.size, o, none⟩) hz2]; exact fy o
        have s0 := setCell_self g0
        have s1 := setCell_self g1
        have s2 := setCell_self g2
        clear hck q0 q1 q2 r0 r1 r2 y0 y1 y2 fy
        go_wp2
        exact bodyPost_ret (v := .tuple #[.agg #[.string ⟨#[]⟩, .int .i64 0, .int .i64 0], .int .i64 E]) (by simp [results, Tryz.results104, go_sem, g0, g1, g2]) rfl ⟨rfl, hB5⟩
    · have hbadE : e = .returned (.tuple #[.slice none 0 0, .bool false]) := by
        cases nk with
        | none => cases nv <;> exact hN
        | some x =>
          cases nv with
          | none => exact hN
          | some y => exact absurd ⟨x, y, rfl, rfl⟩ hgood
      have hbadR : R = ((bytesOf [], 0, 0), 1) := by
        cases nk with
        | none => cases nv <;> exact HE'
        | some x =>
          cases nv with
          | none => exact HE'
          | some y => exact absurd ⟨x, y, rfl, rfl⟩ hgood
      subst hbadE hbadR
      clear HE' hN hgood
      have s0 := setCell_self y0
      have s1 := setCell_self y1
      have s2 := setCell_self y2
      go_wp2
      exact bodyPost_ret (v := .tuple #[.agg #[.string ⟨#[]⟩, .int .i64 0, .int .i64 0], .int .i64 1]) (by simp [results, Tryz.results104, go_sem, y0, y1, y2]) rfl ⟨rfl, hB2⟩
  · have hr := readO_other (l := s.data.toList) (by omega)
    have hRR := HR.out.symm.trans hr
    subst hRR
    generalize ts.length = L at h3 hcap ⊢
    have hne : ¬ (L : Int) = 3 := by omega
    clear hr hmap hlen hlenW hcells HR h3
    have s0 := setCell_self z0
    have s1 := setCell_self z1
    have s2 := setCell_self z2
    go_wp2
    exact bodyPost_ret (v := .tuple #[.agg #[.string ⟨#[]⟩, .int .i64 0, .int .i64 0], .int .i64 1]) (by simp [results, Tryz.results104, go_sem, z0, z1, z2]) rfl ⟨rfl, hB1⟩
end Go.Proofs.YtoobgeekmaeccaaGreatDoor
namespace Go.Proofs.YtoobgeekmaeccaaGreatDoor
open Go.RowKit Go.Extern.Stop Go.Stop Go.Extern Go.Sort Go.Shelf Go.Lib

theorem sort_insert (xs O : List Rw) (x : Rw) (k : Nat) (hO : O = sortR xs) (hk : k ≤ O.length)
    (h1 : ∀ j (h : j < O.length), k ≤ j → ltOf cfR x O[j] = true) (h2 : ∀ (h : k - 1 < O.length), 0 < k → ltOf cfR x O[k - 1] = false) :
    O.take k ++ x :: O.drop k = sortR (xs ++ [x]) := by
  have hs : O.Pairwise fun x y => (!(ltOf cfR) y x) = true := by rw [hO]; exact sortR_sorted xs
  have hpr := List.pairwise_iff_getElem.1 hs
  refine List.Perm.eq_of_pairwise (le := fun x y => (!(ltOf cfR) y x) = true) (fun a b _ _ h1 h2 => ?_) ?_ (sortR_sorted _) ?_
  · simp only [Bool.not_eq_true'] at h1 h2
    exact totR a b h2 h1
  · have hs' := hs
    rw [← List.take_append_drop k O, List.pairwise_append] at hs'
    rw [List.pairwise_append]
    refine ⟨hs'.1, ?_, ?_⟩
    · rw [List.pairwise_cons]
      refine ⟨fun b hb => ?_, hs'.2.1⟩
      obtain ⟨j, hj, rfl⟩ := List.mem_iff_getElem.1 hb
      rw [List.getElem_drop]
      have hj' : k + j < O.length := by rw [List.length_drop] at hj; omega
      have h := h1 (k + j) hj' (by omega)
      cases h' : ltOf cfR O[k + j] x
      · rfl
      · have := swoR.trans _ _ _ h h'
        rw [swoR.irrefl] at this
        cases this
    · intro a ha b hb
      rw [List.mem_cons] at hb
      rcases hb with rfl | hb
      · obtain ⟨i, hi, rfl⟩ := List.mem_iff_getElem.1 ha
        rw [List.getElem_take]
        rw [List.length_take] at hi
        have hl := h2 (by omega) (by omega)
        rcases Nat.lt_or_ge i (k - 1) with h' | h'
        · have := hpr i (k - 1) (by omega) (by omega) h'
          simp only [Bool.not_eq_true'] at this ⊢
          exact swoR.ntrans _ _ _ hl this
        · obtain rfl : i = k - 1 := by omega
          simp only [Bool.not_eq_true']
          exact hl
      · exact hs'.2.2 a ha b hb
  · have p1 : (O.take k ++ x :: O.drop k).Perm (x :: (O.take k ++ O.drop k)) := List.perm_middle
    rw [List.take_append_drop] at p1
    refine p1.trans ?_
    have p2 : (x :: O).Perm (x :: xs) := by rw [hO]; exact (sortR_perm xs).cons x
    refine p2.trans ?_
    refine List.Perm.trans ?_ (sortR_perm _).symm
    exact (List.perm_append_singleton x xs).symm

theorem sort_nil : sortR [] = [] := by simp [sortR]
end Go.Proofs.YtoobgeekmaeccaaGreatDoor
