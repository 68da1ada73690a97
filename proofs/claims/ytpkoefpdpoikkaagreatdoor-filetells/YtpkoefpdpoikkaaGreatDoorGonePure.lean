/-
  Plain mathematics of keys that rise, each once.
-/
import Derived.Test.YtpkoefpdpoikkaaGreatDoorShelf
import Derived.WalkKit
import Derived.StillTailTactics
import Derived.Sort.Grow
import Derived.Deep.QuietTactic
import Derived.BigQuiet
import Derived.Laws.StructEq
import Derived.Shelf.GgSortFunc.RowK
import Derived.Shelf.SlSortCmp.NoneTotal
import Derived.Ground.SlsfProg
import Derived.Lib.OwnBridge
import Derived.Shelf.Abstract
import Derived.Test.YtpkoefpdpoikkaaGreatDoorIntShelf
import Derived.Test.YtpkoefpdpoikkaaGreatDoorDataPure
import Derived.Lib.SlicesCompact
namespace Go.Proofs.YtpkoefpdpoikkaaGreatDoor
open Go.RowKit Go.Extern.Stop Go.Stop Go.Extern Go.Sort

set_option maxHeartbeats 1000000 in
theorem or3 (x y z : Int) (b : Nat) (w : World) (h0 : w.cell? ⟨b, 0, none⟩ = some (.int .i64 x)) (h1 : w.cell? ⟨b, 1, none⟩ = some (.int .i64 y)) (h2 : w.cell? ⟨b, 2, none⟩ = some (.int .i64 z)) :
    Calls Tryz.prog 159 #[.slice (some ⟨b, 0, none⟩) 3 3] w fun e w' => e = .returned (.int .i64 (orOf x y z)) ∧ w' = w := by
  unfold orOf
  by_cases e0 : x = 0
  · subst e0
    by_cases e1 : y = 0
    · subst e1
      by_cases e2 : z = 0
      · subst e2
        go_enter Tryz.func159, Tryz.ntmps159
        go_wp2
        refine wp_loop_rounds 4 ?_
        rw [rounds_succ]
        go_wp2
        rw [rounds_succ]
        go_wp2
        rw [rounds_succ]
        go_wp2
        rw [rounds_succ]
        go_wp2
        go_ret
        exact ⟨rfl, rfl⟩
      · go_enter Tryz.func159, Tryz.ntmps159
        go_wp2
        refine wp_loop_rounds 3 ?_
        rw [rounds_succ]
        go_wp2
        rw [rounds_succ]
        go_wp2
        rw [rounds_succ]
        go_wp2
        go_ret
        exact ⟨rfl, rfl⟩
    · go_enter Tryz.func159, Tryz.ntmps159
      go_wp2
      refine wp_loop_rounds 2 ?_
      rw [rounds_succ]
      go_wp2
      rw [rounds_succ]
      go_wp2
      go_ret
      exact ⟨by simp, rfl⟩
  · go_enter Tryz.func159, Tryz.ntmps159
    go_wp2
    refine wp_loop_rounds 1 ?_
    rw [rounds_succ]
    go_wp2
    go_ret
    exact ⟨by simp, rfl⟩

theorem grow_alloc {V w : World} {n : Nat} {os : Array Obj} {o : Obj} (h : V = grow (w.drewN n) os) : ∃ q os', V.alloc o = grow (w.drewN q) os' := ⟨n, os ++ #[o], by rw [alloc_eq_grow, h, grow_grow]⟩

theorem still_tail {P : Program} {id : Nat} {Q : Exit → Act → World → Prop} {a : Act} {w : World} {l : List Oper} (n : Nat) (hm : P.follows .mixedOrders = true) (hB : Region.lexTailB .any l.toArray n = true)
    (h : wpStill P l.toArray w.drew (fun a' => wpList P l.toArray Q (l.drop n) a' w.drew) (l.take n) a) : (Code.region id l.toArray true).wp P Q a w := wp_region_still_tail n hm hB h

set_option maxRecDepth 100000 in
set_option maxHeartbeats 2000000 in
theorem order_any (x y : Rw) (w : World) :
    Calls Tryz.prog 126 #[.agg #[.string x.1, .int .i64 x.2.1, .int .i64 x.2.2], .agg #[.string y.1, .int .i64 y.2.1, .int .i64 y.2.2]] w fun e w' => e = .returned (.int .i64 (cfR x y)) ∧ ∃ q os, w' = grow (w.drewN q) os := by
  obtain ⟨xp, xk, xv⟩ := x
  obtain ⟨yp, yk, yv⟩ := y
  have hcb := Tryz.strings_Compare xp yp
  have hck := Tryz.cmp_Compare_int xk yk
  have hcv := Tryz.cmp_Compare_int xv yv
  show Calls Tryz.prog 126 #[.agg #[.string xp, .int .i64 xk, .int .i64 xv], .agg #[.string yp, .int .i64 yk, .int .i64 yv]] w fun e w' => e = .returned (.int .i64 (cfR (xp, xk, xv) (yp, yk, yv))) ∧ ∃ q os, w' = grow (w.drewN q) os
  unfold cfR
  dsimp only
  generalize Lib.compareBytes xp.data.toList yp.data.toList = cb at hcb ⊢
  generalize Lib.compareInt xk yk = ck at hck ⊢
  generalize Lib.compareInt xv yv = cv at hcv ⊢
  have ho := or3 cb ck cv
  generalize orOf cb ck cv = r at ho ⊢
  have hm : Tryz.prog.follows .mixedOrders = true := by kernel_rfl
  go_enter Tryz.func126, Tryz.ntmps126
  go_wp2
  refine still_tail 15 hm (by kernel_rfl) ?_
  have c0 : ((w.alloc (.cells #[.string xp, .int .i64 xk, .int .i64 xv] 41)).alloc (.cells #[.string yp, .int .i64 yk, .int .i64 yv] 41)).drew.cell? ⟨w.heap.size, 0, none⟩ = some (.string xp) := by simp
  have c1 : ((w.alloc (.cells #[.string xp, .int .i64 xk, .int .i64 xv] 41)).alloc (.cells #[.string yp, .int .i64 yk, .int .i64 yv] 41)).drew.cell? ⟨w.heap.size, 1, none⟩ = some (.int .i64 xk) := by simp
  have c2 : ((w.alloc (.cells #[.string xp, .int .i64 xk, .int .i64 xv] 41)).alloc (.cells #[.string yp, .int .i64 yk, .int .i64 yv] 41)).drew.cell? ⟨w.heap.size, 2, none⟩ = some (.int .i64 xv) := by simp
  have c3 : ((w.alloc (.cells #[.string xp, .int .i64 xk, .int .i64 xv] 41)).alloc (.cells #[.string yp, .int .i64 yk, .int .i64 yv] 41)).drew.cell? ⟨w.heap.size + 1, 0, none⟩ = some (.string yp) := by simp
  have c4 : ((w.alloc (.cells #[.string xp, .int .i64 xk, .int .i64 xv] 41)).alloc (.cells #[.string yp, .int .i64 yk, .int .i64 yv] 41)).drew.cell? ⟨w.heap.size + 1, 1, none⟩ = some (.int .i64 yk) := by simp
  have c5 : ((w.alloc (.cells #[.string xp, .int .i64 xk, .int .i64 xv] 41)).alloc (.cells #[.string yp, .int .i64 yk, .int .i64 yv] 41)).drew.cell? ⟨w.heap.size + 1, 2, none⟩ = some (.int .i64 yv) := by simp
  have hV : Hid (((w.alloc (.cells #[.string xp, .int .i64 xk, .int .i64 xv] 41)).alloc (.cells #[.string yp, .int .i64 yk, .int .i64 yv] 41)).drew = grow (w.drewN 1) #[.cells #[.string xp, .int .i64 xk, .int .i64 xv] 41, .cells #[.string yp, .int .i64 yk, .int .i64 yv] 41]) := by
    show _ = _
    rw [alloc_eq_grow, alloc_eq_grow, grow_grow]; rfl
  generalize ((w.alloc (.cells #[.string xp, .int .i64 xk, .int .i64 xv] 41)).alloc (.cells #[.string yp, .int .i64 yk, .int .i64 yv] 41)).drew = V at c0 c1 c2 c3 c4 c5 hV ⊢
  simp only [List.take_succ_cons, List.take_zero, List.drop_succ_cons, List.drop_zero]
  still_step
  still_step
  still_step
  still_step
  still_call (hcb _)
  still_step
  still_step
  still_step
  still_step
  still_call (hck _)
  still_step
  still_step
  still_step
  still_step
  still_call (hcv _)
  refine wpStill_nil ?_
  go_wp2_with (go_at_call 159; refine (ho V.heap.size _ (by simp) (by simp) (by simp)).mono ?_; rintro e w' ⟨rfl, rfl⟩)
  go_ret
  exact ⟨rfl, grow_alloc hV.out⟩
end Go.Proofs.YtpkoefpdpoikkaaGreatDoor
namespace Go.Proofs.YtpkoefpdpoikkaaGreatDoor
open Go.RowKit Go.Extern.Stop Go.Stop Go.Extern Go.Sort Go.Shelf Go.Lib

theorem cell_lt {W : World} {p : Addr} {v : Value} (h : W.cell? p = some v) : p.block < W.heap.size := by
  rcases Nat.lt_or_ge p.block W.heap.size with h' | h'
  · exact h'
  · simp [World.cell?, Array.getElem?_eq_none h'] at h

theorem below_keep {W W' : World} (hb : Below W.heap.size W W') {p : Addr} {v : Value} (h : W.cell? p = some v) : W'.cell? p = some v :=
  (hb.cell (cell_lt h)).trans h

theorem below_drewN {B : Nat} {a w : World} (h : Below B a w) (n : Nat) : Below B a (w.drewN n) := ⟨h.os, h.tape, h.output, h.size, h.block⟩

theorem below_grow {w : World} (os : Array Obj) : Below w.heap.size w (grow w os) :=
  ⟨rfl, rfl, rfl, by simp [grow], fun k hk => by simp [grow, Array.getElem?_append, hk]⟩

def RowCells (w : World) (b o : Nat) (xs : List Rw) : Prop :=
  ∀ j (h : j < xs.length), w.cell? ⟨b, o + j * 3, none⟩ = some (.string xs[j].1) ∧ w.cell? ⟨b, o + j * 3 + 1, none⟩ = some (.int .i64 xs[j].2.1) ∧ w.cell? ⟨b, o + j * 3 + 2, none⟩ = some (.int .i64 xs[j].2.2)

def RowsAt (w : World) (v : Value) (xs : List Rw) : Prop :=
  (∃ p c, v = .slice p 0 c ∧ xs = []) ∨ ∃ b o cap, v = .slice (some ⟨b, o, none⟩) xs.length cap ∧ RowCells w b o xs

theorem RowCells.below {w w' : World} {b o : Nat} {xs : List Rw} (h : RowCells w b o xs) (hb : Below w.heap.size w w') : RowCells w' b o xs :=
  fun j hj => ⟨below_keep hb (h j hj).1, below_keep hb (h j hj).2.1, below_keep hb (h j hj).2.2⟩

theorem RowsAt.below {w w' : World} {v : Value} {xs : List Rw} (h : RowsAt w v xs) (hb : Below w.heap.size w w') : RowsAt w' v xs := by
  rcases h with h | ⟨b, o, cap, hv, hc⟩
  · exact Or.inl h
  · exact Or.inr ⟨b, o, cap, hv, hc.below hb⟩

end Go.Proofs.YtpkoefpdpoikkaaGreatDoor
namespace Go.Proofs.YtpkoefpdpoikkaaGreatDoor
open Go.RowKit Go.Extern.Stop Go.Stop Go.Extern Go.Sort Go.Shelf Go.Lib

def flatR (xs : List Rw) : List Value := xs.flatMap encR

theorem encR_len (x : Rw) : (encR x).length = 3 := rfl
theorem encR_one (x : Rw) : ∀ u ∈ encR x, u.oneCell' = true := by
  intro u hu
  simp only [encR, List.mem_cons, List.not_mem_nil, or_false] at hu
  rcases hu with rfl | rfl | rfl <;> rfl

theorem flat_len : ∀ xs : List Rw, (flatR xs).length = xs.length * 3
  | [] => rfl
  | x :: xs => by
    have := flat_len xs
    simp only [flatR, List.flatMap_cons, List.length_append, List.length_cons] at *
    rw [this, encR_len]; omega

theorem flat_append (xs ys : List Rw) : flatR (xs ++ ys) = flatR xs ++ flatR ys := by simp [flatR]

theorem flat_get : ∀ (xs : List Rw) (j c : Nat) (h : j < xs.length), c < 3 → (flatR xs)[j * 3 + c]? = (encR xs[j])[c]?
  | [], j, _, h, _ => by simp at h
  | x :: xs, 0, c, _, hc => by
    simp only [flatR, List.flatMap_cons, Nat.zero_mul, Nat.zero_add, List.getElem_cons_zero]
    rw [List.getElem?_append_left (by rw [encR_len]; exact hc)]
  | x :: xs, j + 1, c, h, hc => by
    have hj : j < xs.length := by simp at h; omega
    have := flat_get xs j c hj hc
    simp only [flatR, List.flatMap_cons, List.getElem_cons_succ] at *
    rw [List.getElem?_append_right (by rw [encR_len]; omega), encR_len, show (j + 1) * 3 + c - 3 = j * 3 + c by omega]
    exact this

theorem rowCells_of {w : World} {b o : Nat} {xs : List Rw} (h : ∀ t u, (flatR xs)[t]? = some u → w.cell? ⟨b, o + t, none⟩ = some u) : RowCells w b o xs := fun j hj =>
  ⟨h (j * 3) _ (by have := flat_get xs j 0 hj (by omega); simpa [encR] using this),
   by have := h (j * 3 + 1) _ (by have := flat_get xs j 1 hj (by omega); simpa [encR] using this); rw [← Nat.add_assoc] at this; exact this,
   by have := h (j * 3 + 2) _ (by have := flat_get xs j 2 hj (by omega); simpa [encR] using this); rw [← Nat.add_assoc] at this; exact this⟩

theorem own_cases {w : World} {base : Nat} {v : Value} {n : Nat} {xs : List Rw} (h : w.ownsRow base 41 3 v n (flatR xs)) : n = xs.length ∧ ((v = .slice none 0 0 ∧ xs = []) ∨ ∃ g cap, v = .slice (some ⟨g, 0, none⟩) xs.length cap ∧ RowCells w g 0 xs) := by
  obtain ⟨hl, h⟩ := h
  have hn : n = xs.length := by rw [flat_len] at hl; omega
  refine ⟨hn, ?_⟩
  subst hn
  rcases h with ⟨hv, hn⟩ | ⟨g, cap, cur, rfl, _, hg, _, _, _, ht⟩
  · exact Or.inl ⟨hv, List.length_eq_zero_iff.1 hn⟩
  · refine Or.inr ⟨g, cap, rfl, rowCells_of fun t u hu => ?_⟩
    have ht' : t < xs.length * 3 := by
      rw [← flat_len]
      rcases Nat.lt_or_ge t (flatR xs).length with h' | h'
      · exact h'
      · rw [List.getElem?_eq_none h'] at hu; cases hu
    rw [← ht, List.getElem?_take, if_pos ht'] at hu
    simp only [World.cell?, hg, Nat.zero_add]
    simpa using hu

theorem rowsAt_of_own {w : World} {base : Nat} {v : Value} {n : Nat} {xs : List Rw} (h : w.ownsRow base 41 3 v n (flatR xs)) : RowsAt w v xs ∧ n = xs.length := by
  obtain ⟨hn, h⟩ := own_cases h
  refine ⟨?_, hn⟩
  rcases h with ⟨hv, hx⟩ | ⟨g, cap, hv, hc⟩
  · exact Or.inl ⟨none, 0, hv, hx⟩
  · exact Or.inr ⟨g, 0, cap, hv, hc⟩

end Go.Proofs.YtpkoefpdpoikkaaGreatDoor
namespace Go.Proofs.YtpkoefpdpoikkaaGreatDoor
open Go.RowKit Go.Extern.Stop Go.Stop Go.Extern Go.Sort Go.Shelf Go.Lib

theorem Tryz.rowInfo3 : (Tryz.prog.info? 41).map (fun i => (i.zero, i.size, i.bytes)) = some (some (.agg #[.string ⟨#[]⟩, .int .i64 0, .int .i64 0]), 3, 32) := by kernel_rfl
theorem Tryz.rowInfo : ∃ i0 : TypeInfo, Tryz.prog.info? 41 = some i0 ∧ i0.zero = some (.agg #[.string ⟨#[]⟩, .int .i64 0, .int .i64 0]) ∧ i0.size = 3 ∧ i0.bytes = 32 := by
  obtain ⟨i, hi, h⟩ := Option.map_eq_some_iff.1 Tryz.rowInfo3
  simp only [Prod.mk.injEq] at h
  exact ⟨i, hi, h.1, h.2.1, h.2.2⟩

end Go.Proofs.YtpkoefpdpoikkaaGreatDoor
namespace Go.Proofs.YtpkoefpdpoikkaaGreatDoor
open Go.RowKit Go.Extern.Stop Go.Stop Go.Extern Go.Sort Go.Shelf Go.Lib

set_option maxHeartbeats 1000000 in
theorem less_any (x y : Rw) (w : World) :
    Calls Tryz.prog 167 #[.agg #[.string x.1, .int .i64 x.2.1, .int .i64 x.2.2], .agg #[.string y.1, .int .i64 y.2.1, .int .i64 y.2.2]] w fun e w' => e = .returned (.bool (ltOf cfR x y)) ∧ Below w.heap.size w w' := by
  have ho := order_any x y
  unfold ltOf
  generalize cfR x y = r at ho ⊢
  obtain ⟨xp, xk, xv⟩ := x
  obtain ⟨yp, yk, yv⟩ := y
  dsimp only at ho ⊢
  have hb0 : Below w.heap.size w ((w.alloc (.cells #[.string xp, .int .i64 xk, .int .i64 xv] 41)).alloc (.cells #[.string yp, .int .i64 yk, .int .i64 yv] 41)) := ((Below.refl _ _).alloc (Nat.le_refl _) _).alloc (by simp) _
  go_enter Tryz.func167, Tryz.ntmps167
  go_wp2_with (go_at_call 126; refine (ho _).mono ?_; rintro e w1 ⟨rfl, q, os, hw⟩)
  go_ret
  refine ⟨rfl, ?_⟩
  exact (below_drewN hb0 q).trans ((below_grow os).mono (below_drewN hb0 q).size)

end Go.Proofs.YtpkoefpdpoikkaaGreatDoor
namespace Go.Proofs.YtpkoefpdpoikkaaGreatDoor
open Go.RowKit Go.Extern.Stop Go.Stop Go.Extern Go.Sort Go.Shelf Go.Lib

theorem own_below {w w' : World} {base : Nat} {e : TypeId} {size : Nat} {v : Value} {n : Nat} {xs : List Value} (h : w.ownsRow base e size v n xs) (hb : Below w.heap.size w w') : w'.ownsRow base e size v n xs := by
  obtain ⟨h1, h2⟩ := h
  refine ⟨h1, ?_⟩
  rcases h2 with h2 | ⟨g, cap, cur, hv, hg, hc, r⟩
  · exact Or.inl h2
  · refine Or.inr ⟨g, cap, cur, hv, hg, ?_, r⟩
    have hlt : g < w.heap.size := by
      rcases Nat.lt_or_ge g w.heap.size with h' | h'
      · exact h'
      · rw [Array.getElem?_eq_none h'] at hc; cases hc
    rw [hb.block g hlt]; exact hc

theorem flat_single (x : Rw) : flatR [x] = encR x := by simp [flatR]

end Go.Proofs.YtpkoefpdpoikkaaGreatDoor
namespace Go.Proofs.YtpkoefpdpoikkaaGreatDoor
open Go.RowKit Go.Extern.Stop Go.Stop Go.Extern Go.Sort Go.Shelf Go.Lib

def KeysAt (w : World) (v : Value) (zs : List Int) : Prop :=
  (∃ p c, v = .slice p 0 c ∧ zs = []) ∨ ∃ b o cap, v = .slice (some ⟨b, o, none⟩) zs.length cap ∧ ∀ j (h : j < zs.length), w.cell? ⟨b, o + j, none⟩ = some (.int .i64 zs[j])

theorem KeysAt.below {w w' : World} {v : Value} {zs : List Int} (h : KeysAt w v zs) (hb : Below w.heap.size w w') : KeysAt w' v zs := by
  rcases h with h | ⟨b, o, cap, hv, hc⟩
  · exact Or.inl h
  · exact Or.inr ⟨b, o, cap, hv, fun j hj => below_keep hb (hc j hj)⟩

theorem getD_of {zs : List Int} {j : Nat} (h : j < zs.length) : zs.getD j 0 = zs[j] := by simp [List.getD, List.getElem?_eq_getElem h]

theorem cloneInts_any (v : Value) (zs : List Int) (w : World) (h : KeysAt w v zs) (hl : zs.length ≤ 20000) :
    Calls Tryz.prog 146 #[v] w fun e w' => ∃ v', e = .returned v' ∧ w'.ownsRow w.heap.size 3 1 v' zs.length (zs.map (Value.int .i64)) ∧ Below w.heap.size w w' := by
  rcases h with ⟨p, c, rfl, rfl⟩ | ⟨b, o, cap, rfl, hc⟩
  · cases p with
    | none =>
      refine (Tryz.slices_Clone_int_nil 0 c w).mono fun e w' ⟨he, hw⟩ => ⟨_, he, World.ownsRow_nil _ _ _ _, ?_⟩
      subst hw; exact Below.refl _ _
    | some ad => exact (Tryz.slices_Clone_int_zero ad c w).mono fun e w' ⟨v', he, ho, _, hb⟩ => ⟨v', he, ho, hb⟩
  · refine (Tryz.slices_Clone_int b o zs.length cap zs w (Nat.le_refl _) (by omega) (fun j hj => by rw [getD_of hj]; exact hc j hj)).mono fun e w' ⟨v', he, ho, _, hb⟩ => ⟨v', he, ?_, hb⟩
    rw [List.take_length] at ho
    exact ho

def sortZ (zs : List Int) : List Int := zs.mergeSort fun x y => decide (x ≤ y)
theorem sortZ_len (zs : List Int) : (sortZ zs).length = zs.length := by simp [sortZ]
theorem sortZ_mem (zs : List Int) (x : Int) : x ∈ sortZ zs ↔ x ∈ zs := (List.mergeSort_perm _ _).mem_iff
theorem sortZ_sorted (zs : List Int) : (sortZ zs).Pairwise (· ≤ ·) := by
  have h := List.pairwise_mergeSort (le := fun x y : Int => decide (x ≤ y)) (fun a b c h1 h2 => by simp at *; omega) (fun a b => by simp; omega) zs
  exact h.imp fun h => by simpa using h

end Go.Proofs.YtpkoefpdpoikkaaGreatDoor
namespace Go.Proofs.YtpkoefpdpoikkaaGreatDoor
open Go.RowKit Go.Extern.Stop Go.Stop Go.Extern Go.Sort Go.Shelf Go.Lib

def riseZ (zs : List Int) : List Int := Lib.compact (sortZ zs)

theorem compact_up (d : Array Int) (hs : ∀ i j, i ≤ j → j < d.size → d[i]! ≤ d[j]!) : ∀ m, m ≤ d.size → (compactUpTo d m).Pairwise (· < ·) ∧ (∀ x, x ∈ compactUpTo d m ↔ ∃ j, j < m ∧ d[j]! = x) ∧ ∀ x ∈ compactUpTo d m, ∀ j, m ≤ j + 1 → j < d.size → x ≤ d[j]! := by
  intro m
  induction m with
  | zero => intro _; exact ⟨by simp [compactUpTo], by simp [compactUpTo], by simp [compactUpTo]⟩
  | succ m ih =>
    intro hm
    obtain ⟨h1, h2, h3⟩ := ih (by omega)
    rw [compactUpTo_succ]
    cases hk : keeps d m with
    | true =>
      simp only [if_true]
      have hlt : ∀ x ∈ compactUpTo d m, x < d[m]! := by
        intro x hx
        have hm0 : m ≠ 0 := by
          intro e; subst e
          obtain ⟨j, hj, _⟩ := (h2 x).1 hx
          omega
        simp only [keeps, decide_eq_true_eq] at hk
        rcases hk with hk | hk
        · exact absurd hk hm0
        · have a1 := h3 x hx (m - 1) (by omega) (by omega)
          have a2 := hs (m - 1) m (by omega) (by omega)
          omega
      refine ⟨List.pairwise_append.2 ⟨h1, List.pairwise_singleton _ _, fun x hx y hy => by rw [List.mem_singleton.1 hy]; exact hlt x hx⟩, fun x => ?_, fun x hx j hj1 hj2 => ?_⟩
      · rw [List.mem_append, List.mem_singleton, h2]
        constructor
        · rintro (⟨j, hj, e⟩ | e)
          · exact ⟨j, by omega, e⟩
          · exact ⟨m, by omega, e.symm⟩
        · rintro ⟨j, hj, e⟩
          rcases Nat.lt_or_ge j m with h | h
          · exact Or.inl ⟨j, h, e⟩
          · have : j = m := by omega
            subst this; exact Or.inr e.symm
      · rw [List.mem_append, List.mem_singleton] at hx
        have hmj := hs m j (by omega) hj2
        rcases hx with hx | hx
        · have := hlt x hx; omega
        · omega
    | false =>
      simp only [Bool.false_eq_true, if_false, List.append_nil]
      simp only [keeps, decide_eq_false_iff_not, not_or, ne_eq, Classical.not_not] at hk
      refine ⟨h1, fun x => ?_, fun x hx j hj1 hj2 => h3 x hx j (by omega) hj2⟩
      rw [h2]
      constructor
      · rintro ⟨j, hj, e⟩; exact ⟨j, by omega, e⟩
      · rintro ⟨j, hj, e⟩
        rcases Nat.lt_or_ge j m with h | h
        · exact ⟨j, h, e⟩
        · have : j = m := by omega
          subst this
          exact ⟨j - 1, by omega, by rw [← e, hk.2]⟩

theorem sortZ_get (zs : List Int) (i j : Nat) (hij : i ≤ j) (hj : j < (sortZ zs).toArray.size) : (sortZ zs).toArray[i]! ≤ (sortZ zs).toArray[j]! := by
  have hj' : j < (sortZ zs).length := by simpa using hj
  rw [getElem!_pos _ i (by omega), getElem!_pos _ j hj]
  simp only [List.getElem_toArray]
  rcases Nat.lt_or_eq_of_le hij with h | h
  · exact List.pairwise_iff_getElem.1 (sortZ_sorted zs) i j (by omega) hj' h
  · subst h; exact Int.le_refl _

theorem rise_sorted (zs : List Int) : (riseZ zs).Pairwise (· < ·) := by
  have h := compact_up (sortZ zs).toArray (sortZ_get zs) (sortZ zs).length (by simp)
  exact h.1
theorem rise_mem (zs : List Int) (x : Int) : x ∈ riseZ zs ↔ x ∈ zs := by
  have h := (compact_up (sortZ zs).toArray (sortZ_get zs) (sortZ zs).length (by simp)).2.1 x
  show x ∈ compactUpTo (sortZ zs).toArray (sortZ zs).length ↔ _
  rw [h, ← sortZ_mem zs x]
  constructor
  · rintro ⟨j, hj, e⟩
    rw [getElem!_pos _ j (by simpa using hj)] at e
    rw [← e]
    simp only [List.getElem_toArray]
    exact List.getElem_mem _
  · intro hx
    obtain ⟨j, hj, e⟩ := List.mem_iff_getElem.1 hx
    exact ⟨j, hj, by rw [getElem!_pos _ j (by simpa using hj)]; simpa using e⟩

theorem rise_unique : ∀ xs ys : List Int, xs.Pairwise (· < ·) → ys.Pairwise (· < ·) → (∀ x, x ∈ xs ↔ x ∈ ys) → xs = ys
  | [], [], _, _, _ => rfl
  | [], y :: ys, _, _, h => absurd ((h y).2 List.mem_cons_self) (by simp)
  | x :: xs, [], _, _, h => absurd ((h x).1 List.mem_cons_self) (by simp)
  | x :: xs, y :: ys, hx, hy, h => by
    obtain ⟨hx1, hx2⟩ := List.pairwise_cons.1 hx
    obtain ⟨hy1, hy2⟩ := List.pairwise_cons.1 hy
    have e : x = y := by
      have a := (h x).1 List.mem_cons_self
      have b := (h y).2 List.mem_cons_self
      rcases List.mem_cons.1 a with a | a
      · exact a
      · rcases List.mem_cons.1 b with b | b
        · exact b.symm
        · have := hx1 y b; have := hy1 x a; omega
    subst e
    rw [rise_unique xs ys hx2 hy2 fun z => ⟨fun hz => by
      rcases List.mem_cons.1 ((h z).1 (List.mem_cons_of_mem _ hz)) with q | q
      · have := hx1 z hz; omega
      · exact q, fun hz => by
      rcases List.mem_cons.1 ((h z).2 (List.mem_cons_of_mem _ hz)) with q | q
      · have := hy1 z hz; omega
      · exact q⟩]

theorem rise_is {xs zs : List Int} (h : xs.Pairwise (· < ·)) (hm : ∀ x, x ∈ xs ↔ x ∈ zs) : riseZ zs = xs :=
  rise_unique _ _ (rise_sorted zs) h fun x => (rise_mem zs x).trans (hm x).symm

theorem rise_len (zs : List Int) : (riseZ zs).length ≤ zs.length := by
  have h : (riseZ zs).length ≤ (sortZ zs).length := by
    unfold riseZ Lib.compact compactUpTo
    rw [List.length_map]
    refine Nat.le_trans (List.length_filter_le _ _) ?_
    simp
  rw [sortZ_len] at h
  exact h

theorem rise_nil : riseZ [] = [] := rise_is List.Pairwise.nil (fun _ => Iff.rfl)

theorem rise_good (zs : List Int) : (riseZ zs).Pairwise (fun x y => goneK.bad y x = false) := (rise_sorted zs).imp fun {a b} h => by
  show decide (b ≤ a) = false
  rw [decide_eq_false_iff_not]; omega

abbrev goneO (s : List UInt8) : List Int × Nat × Option Nat := readG goneK s
abbrev goneF (zs : List Int) : List UInt8 := fileG goneK zs
end Go.Proofs.YtpkoefpdpoikkaaGreatDoor
