/-
  The contract of the function that data.readRows hands over: one line more.
-/
import Derived.Test.YtabllmfncdedeabGreatDoorDataRead
import Derived.Lib.QuietBelow
import Derived.BigQuiet
import Derived.OneCell
import Derived.Maps.AppendAt
import Derived.Deep.Onto
namespace Go.Proofs.YtabllmfncdedeabGreatDoor
open Go.RowKit Go.Extern.Stop Go.Stop Go.Extern Go.Sort Go.Shelf Go.Lib

/-- A variable of rows, in a block of its own. -/
structure BoxR (W : World) (B bl : Nat) (v : Value) (acc : List Rw) : Prop where
  box : W.heap[bl]? = some (.cells #[v] 22 (0, 0))
  own : W.ownsRow B 45 3 v acc.length (flatR acc)
  off : v.ownBlock ≠ some bl
  low : B ≤ bl

theorem BoxR.below {W W' : World} {B bl : Nat} {v : Value} {acc : List Rw} (h : BoxR W B bl v acc) (hb : Below W.heap.size W W') : BoxR W' B bl v acc :=
  ⟨(hb.block bl (lt_of_block h.box)).trans h.box, own_below h.own hb, h.off, h.low⟩

set_option maxRecDepth 100000 in
set_option maxHeartbeats 2000000 in
theorem line_bad (line : ByteArray) (bl : Nat) (W : World) (a : Nat → Addr) (h : EnvD W a) (hs : line.size ≤ 100000) (hr : (readO line.data.toList).2 ≠ 0) :
    Calls Tryz.prog 56 #[.string line, .pointer (some ⟨bl, 0, none⟩)] W fun e w' => e = .returned (errV a (readO line.data.toList).2) ∧ Below W.heap.size W w' := by
  have hrd := read_any line W a h.env (by omega)
  obtain ⟨E, hE⟩ : ∃ E, (readO line.data.toList).2 = E + 1 := ⟨(readO line.data.toList).2 - 1, by omega⟩
  rw [hE] at hrd ⊢
  simp only [errV] at hrd ⊢
  generalize (readO line.data.toList).1 = x at hrd
  obtain ⟨xp, xk, xv⟩ := x
  simp only [rowV] at hrd
  clear hr hE
  go_enter Tryz.func56, Tryz.ntmps56
  go_wp2_with fail
  refine hrd.mono ?_
  rintro e w1 ⟨rfl, hb1⟩
  clear hrd
  have hb2 : Below W.heap.size W (w1.alloc (.cells #[.string xp, .int .i64 xk, .int .i64 xv] 45)) := hb1.alloc hb1.size _
  go_wp2
  go_ret
  exact ⟨rfl, hb2⟩

theorem own_shape {W : World} {base : Nat} {e : TypeId} {size : Nat} {v : Value} {n : Nat} {xs : List Value} (h : W.ownsRow base e size v n xs) : ∃ q c, v = .slice q n c := by
  rcases h.2 with ⟨rfl, rfl⟩ | ⟨g, cap, cur, rfl, _⟩
  · exact ⟨none, 0, rfl⟩
  · exact ⟨_, _, rfl⟩
theorem own_next {W : World} {base : Nat} {e : TypeId} {size : Nat} {v : Value} {n : Nat} {xs : List Value} (h : W.ownsRow base e size v (n + 1) xs) : ∃ g c, v = .slice (some ⟨g, 0, none⟩) (n + 1) c := by
  rcases h.2 with ⟨_, h0⟩ | ⟨g, cap, cur, rfl, _⟩
  · omega
  · exact ⟨_, _, rfl⟩
theorem own_far {W : World} {base : Nat} {e : TypeId} {size : Nat} {v : Value} {n : Nat} {xs : List Value} (h : W.ownsRow base e size v n xs) {k : Nat} (hk : v.ownBlock = some k) : base ≤ k := (h.lt k hk).1
theorem row_cells (wr : World) (xp : ByteArray) (xk xv : Int) (j : Nat) (u : Value) (hj : (encR (xp, xk, xv))[j]? = some u) : (wr.alloc (.cells #[.string xp, .int .i64 xk, .int .i64 xv] 45)).cell? ⟨wr.heap.size, j, none⟩ = some u := by
  rw [cell_of_row _ _ _ _ _ _ (heap_alloc_new _ _)]
  match j, hj with
  | 0, hj => simpa [encR] using hj
  | 1, hj => simpa [encR] using hj
  | 2, hj => simpa [encR] using hj
  | j + 3, hj => simp [encR] at hj

/-- What the last part of it does: the row is put behind the others. -/
theorem box_put {W w5 : World} {B bl : Nat} {v v' : Value} {acc : List Rw} {x : Rw} (h : BoxR W B bl v acc) (ho : w5.ownsRow B 45 3 v' (acc.length + 1) (flatR acc ++ encR x)) (hg : W.grownBy w5 v.ownBlock) (hat : v'.ownBlock = v.ownBlock ∨ v'.ownBlock = some W.heap.size) :
    BoxR (w5.setCell ⟨bl, 0, none⟩ v') B bl v' (acc ++ [x]) ∧ w5.heap[bl]? = some (.cells #[v] 22 (0, 0)) := by
  have hlt := lt_of_block h.box
  have hb5 : w5.heap[bl]? = some (.cells #[v] 22 (0, 0)) := (hg.block bl hlt (fun e => h.off e.symm)).trans h.box
  have hoff : v'.ownBlock ≠ some bl := by
    rcases hat with e | e
    · rw [e]; exact h.off
    · rw [e]; intro e'; have := Option.some.inj e'; omega
  refine ⟨⟨one_setCell hb5, ?_, hoff, h.low⟩, hb5⟩
  rw [List.length_append, flat_append, flat_single]
  exact ownsRow_setCell_other ho hoff _

set_option maxRecDepth 100000 in
set_option maxHeartbeats 4000000 in
theorem line_first (line : ByteArray) (bl B : Nat) (v : Value) (W : World) (a : Nat → Addr) (h : EnvD W a) (hB : BoxR W B bl v []) (hs : line.size ≤ 100000) (hr : (readO line.data.toList).2 = 0) :
    Calls Tryz.prog 56 #[.string line, .pointer (some ⟨bl, 0, none⟩)] W fun e w' => e = .returned .nilIface ∧ (∃ v', BoxR w' B bl v' [(readO line.data.toList).1]) ∧ Below B W w' := by
  obtain ⟨i0, hi0, hz0, hs0, hby0⟩ := Tryz.rowInfo
  have hrd := read_any line W a h.env (by omega)
  rw [hr] at hrd
  simp only [errV] at hrd
  obtain ⟨x, hx⟩ : ∃ x, (readO line.data.toList).1 = x := ⟨_, rfl⟩
  rw [hx] at hrd ⊢
  clear hx hr
  obtain ⟨xp, xk, xv⟩ := x
  simp only [rowV] at hrd
  have hBW : B ≤ W.heap.size := Nat.le_trans hB.low (Nat.le_of_lt (lt_of_block hB.box))
  go_enter Tryz.func56, Tryz.ntmps56
  go_wp2_with fail
  refine hrd.mono ?_
  rintro e w1 ⟨rfl, hb1⟩
  clear hrd
  have hb2 : Below W.heap.size W (w1.alloc (.cells #[.string xp, .int .i64 xk, .int .i64 xv] 45)) := hb1.alloc hb1.size _
  have hB2 := hB.below hb2
  have x0 : (w1.alloc (.cells #[.string xp, .int .i64 xk, .int .i64 xv] 45)).cell? ⟨w1.heap.size, 0, none⟩ = some (.string xp) := by simp
  have x1 : (w1.alloc (.cells #[.string xp, .int .i64 xk, .int .i64 xv] 45)).cell? ⟨w1.heap.size, 1, none⟩ = some (.int .i64 xk) := by simp
  have x2 : (w1.alloc (.cells #[.string xp, .int .i64 xk, .int .i64 xv] 45)).cell? ⟨w1.heap.size, 2, none⟩ = some (.int .i64 xv) := by simp
  obtain ⟨q, cp, rfl⟩ := own_shape hB2.own
  simp only [List.length_nil] at hB2
  have hcb := cell_of_one hB2.box
  have hfb := free_of_one hB2.box
  clear hB
  go_wp2_with fail
  generalize w1.heap.size = bx at x0 x1 x2 ⊢
  generalize w1.alloc (.cells #[.string xp, .int .i64 xk, .int .i64 xv] 45) = W2 at hb2 hB2 x0 x1 x2 hcb hfb ⊢
  go_quiet (fail)
  have hbq : Below W2.heap.size W2 (W2.drewN nq) := below_drewN (Below.refl _ _) nq
  have hb3 : Below W.heap.size W (W2.drewN nq) := hb2.trans (hbq.mono hb2.size)
  have hB3 := hB2.below hbq
  have y0 := below_keep hbq x0
  have y1 := below_keep hbq x1
  have y2 := below_keep hbq x2
  have hcb3 := cell_of_one hB3.box
  have hfb3 := free_of_one hB3.box
  clear hB2 x0 x1 x2 hcb hfb hb2 hbq
  generalize W2.drewN nq = W3 at hb3 hB3 y0 y1 y2 hcb3 hfb3 ⊢
  have hal : Below W3.heap.size W3 (W3.alloc (.cells #[.string xp, .int .i64 xk, .int .i64 xv] 45)) := (Below.refl _ _).alloc (Nat.le_refl _) _
  have hB4 := hB3.below hal
  have hb4 : Below B W (W3.alloc (.cells #[.string xp, .int .i64 xk, .int .i64 xv] 45)) := (hb3.trans (hal.mono hb3.size)).mono hBW
  go_wp2_with (at_builtin; refine wpList_append_own_at _ rfl _ _ 22 rfl B 45 i0 (.agg #[.string ⟨#[]⟩, .int .i64 0, .int .i64 0]) 3 32 Tryz.underlying22 hi0 hz0 hs0 hby0 rfl (by decide) (.slice q 0 cp) 0 (flatR []) rfl hB4.own ⟨W3.heap.size, 0, none⟩ 1 1 (encR (xp, xk, xv)) rfl ?qd1 ?qd2 ?qd3 ?qd4 ?qd5 ?qd6 ?_)
  case qd1 => rfl
  case qd2 =>
    intro j u hj
    rw [Addr.add_lit, Nat.zero_add]
    exact row_cells W3 xp xk xv j u hj
  case qd3 => exact encR_one _
  case qd4 => unfold maxLen; omega
  case qd5 => omega
  case qd6 => exact Nat.le_trans hBW hb4.size
  intro v7 w7 hown7 hgrow7 _ hat7
  obtain ⟨g7, cap7, rfl⟩ := own_next hown7
  obtain ⟨hput, hb7⟩ := box_put (x := (xp, xk, xv)) hB4 hown7 hgrow7 (by simpa using hat7)
  have hcb7 := cell_of_one hb7
  have hfb7 := free_of_one hb7
  have hW7 : Below B W w7 := hb4.grown hgrow7 (Nat.le_trans hBW hb4.size) (fun k hk => own_far hB4.own hk)
  have hW8 : Below B W (w7.setCell ⟨bl, 0, none⟩ (.slice (some ⟨g7, 0, none⟩) (0 + 1) cap7)) := hW7.setCell hB4.low _
  clear hown7 hgrow7 hat7 hB4 hB3
  go_wp2
  go_ret
  exact ⟨rfl, ⟨_, hput⟩, hW8⟩

set_option maxRecDepth 100000 in
set_option maxHeartbeats 8000000 in
theorem line_next (line : ByteArray) (bl B k : Nat) (v : Value) (acc : List Rw) (W : World) (a : Nat → Addr) (h : EnvD W a) (hB : BoxR W B bl v acc) (hs : line.size ≤ 100000) (hl : acc.length ≤ 100000) (hk : acc.length = k + 1) (hkk : k < acc.length) (hr : (readO line.data.toList).2 = 0) :
    Calls Tryz.prog 56 #[.string line, .pointer (some ⟨bl, 0, none⟩)] W fun e w' => (ltOf cfR (readO line.data.toList).1 acc[k] = true → e = .returned (errV a 9) ∧ Below W.heap.size W w') ∧
      (ltOf cfR (readO line.data.toList).1 acc[k] = false → e = .returned .nilIface ∧ (∃ v', BoxR w' B bl v' (acc ++ [(readO line.data.toList).1])) ∧ Below B W w') := by
  obtain ⟨i0, hi0, hz0, hs0, hby0⟩ := Tryz.rowInfo
  have hrd := read_any line W a h.env (by omega)
  rw [hr] at hrd
  simp only [errV] at hrd
  obtain ⟨x, hx⟩ : ∃ x, (readO line.data.toList).1 = x := ⟨_, rfl⟩
  rw [hx] at hrd
  have hless := less_any x acc[k]
  obtain ⟨lb, hlb⟩ : ∃ lb, ltOf cfR x acc[k] = lb := ⟨_, rfl⟩
  rw [hlb] at hless
  have HX : Hid ((readO line.data.toList).1 = x) := hx
  have HLB : Hid (ltOf cfR x acc[k] = lb) := hlb
  clear hx hr hlb
  obtain ⟨xp, xk, xv⟩ := x
  simp only [rowV] at hrd
  have hBW : B ≤ W.heap.size := Nat.le_trans hB.low (Nat.le_of_lt (lt_of_block hB.box))
  go_enter Tryz.func56, Tryz.ntmps56
  go_wp2_with fail
  refine hrd.mono ?_
  rintro e w1 ⟨rfl, hb1⟩
  clear hrd
  have hb2 : Below W.heap.size W (w1.alloc (.cells #[.string xp, .int .i64 xk, .int .i64 xv] 45)) := hb1.alloc hb1.size _
  have hB2 := hB.below hb2
  have x0 : (w1.alloc (.cells #[.string xp, .int .i64 xk, .int .i64 xv] 45)).cell? ⟨w1.heap.size, 0, none⟩ = some (.string xp) := by simp
  have x1 : (w1.alloc (.cells #[.string xp, .int .i64 xk, .int .i64 xv] 45)).cell? ⟨w1.heap.size, 1, none⟩ = some (.int .i64 xk) := by simp
  have x2 : (w1.alloc (.cells #[.string xp, .int .i64 xk, .int .i64 xv] 45)).cell? ⟨w1.heap.size, 2, none⟩ = some (.int .i64 xv) := by simp
  have hnx : ∃ g c, v = .slice (some ⟨g, 0, none⟩) (k + 1) c := own_next (n := k) (by rw [← hk]; exact hB2.own)
  obtain ⟨g, cp, rfl⟩ := hnx
  have hcb := cell_of_one hB2.box
  have hfb := free_of_one hB2.box
  have hrc : RowCells (w1.alloc (.cells #[.string xp, .int .i64 xk, .int .i64 xv] 45)) g 0 acc := by
    rcases (own_cases hB2.own).2 with ⟨e, _⟩ | ⟨g', cap', e, hc⟩
    · cases e
    · injection e with e1
      injection e1 with e1
      injection e1 with e1
      subst e1
      exact hc
  obtain ⟨p0, p1, p2⟩ := hrc k hkk
  simp only [Nat.zero_add] at p0 p1 p2
  generalize acc[k] = y at p0 p1 p2 hless
  obtain ⟨yp, yk, yv⟩ := y
  dsimp only at p0 p1 p2 hless
  clear hB hrc
  have hi1 : (0 : Int) < (k : Int) + 1 := by omega
  have hi3 : (k : Int) < (k : Int) + 1 := by omega
  have hi4 : (0 : Int) ≤ (k : Int) := by omega
  have hi5 : IntKind.i64.wrap (k : Int) = (k : Int) := IntWalk.i64_in _ (by omega)
  have hmxo : Tryz.prog.follows .mixedOrders = true := by kernel_rfl
  have HKK : Hid (acc.length = k + 1) := hk
  have HHL : Hid (acc.length ≤ 100000) := hl
  clear hk hl
  go_wp2_with fail
  generalize w1.heap.size = bx at x0 x1 x2 ⊢
  generalize w1.alloc (.cells #[.string xp, .int .i64 xk, .int .i64 xv] 45) = W2 at hb2 hB2 x0 x1 x2 hcb hfb p0 p1 p2 ⊢
  have hless2 := fun d os => Calls.regrown_of (w := W2) (d := d) (os := os) (hless _)
  have f0 := cell_regrown x0
  have f1 := cell_regrown x1
  have f2 := cell_regrown x2
  have f3 := cell_regrown hcb
  have f4 := cell_regrown p0
  have f5 := cell_regrown p1
  have f6 := cell_regrown p2
  refine wp_region_quiet_below hmxo (by kernel_rfl) ?_
  repeat (go_big_quiet_step (exact hless2 _ _))
  refine wpQuiet_nil ?_
  intro _ hw'
  obtain ⟨⟨dq, osq⟩, hw''⟩ := hw'
  subst hw''
  clear hless2 hless f0 f1 f2 f3 f4 f5 f6
  have hbq := below_regrown W2 dq osq
  have hb3 : Below W.heap.size W (grow (redrawn W2 dq) osq) := hb2.trans (hbq.mono hb2.size)
  have hB3 := hB2.below hbq
  have y0 := below_keep hbq x0
  have y1 := below_keep hbq x1
  have y2 := below_keep hbq x2
  clear hB2 x0 x1 x2 hcb hfb hb2 hbq p0 p1 p2
  generalize grow (redrawn W2 dq) osq = W3 at hb3 hB3 y0 y1 y2 ⊢
  have hcb3 := cell_of_one hB3.box
  have hfb3 := free_of_one hB3.box
  cases lb
  · have hal : Below W3.heap.size W3 (W3.alloc (.cells #[.string xp, .int .i64 xk, .int .i64 xv] 45)) := (Below.refl _ _).alloc (Nat.le_refl _) _
    have hB4 := hB3.below hal
    have hb4 : Below B W (W3.alloc (.cells #[.string xp, .int .i64 xk, .int .i64 xv] 45)) := (hb3.trans (hal.mono hb3.size)).mono hBW
    have HB4 : Hid (BoxR (W3.alloc (.cells #[.string xp, .int .i64 xk, .int .i64 xv] 45)) B bl (.slice (some ⟨g, 0, none⟩) (k + 1) cp) acc) := hB4
    clear hB4 hB3
    go_wp2_with (at_builtin; refine wpList_append_own_at _ rfl _ _ 22 rfl B 45 i0 (.agg #[.string ⟨#[]⟩, .int .i64 0, .int .i64 0]) 3 32 Tryz.underlying22 hi0 hz0 hs0 hby0 rfl (by decide) (.slice (some ⟨g, 0, none⟩) (k + 1) cp) acc.length (flatR acc) rfl HB4.out.own ⟨W3.heap.size, 0, none⟩ 1 1 (encR (xp, xk, xv)) rfl ?qd1 ?qd2 ?qd3 ?qd4 ?qd5 ?qd6 ?_)
    case qd1 => rfl
    case qd2 =>
      intro j u hj
      rw [Addr.add_lit, Nat.zero_add]
      exact row_cells W3 xp xk xv j u hj
    case qd3 => exact encR_one _
    case qd4 => have := HHL.out; unfold maxLen; omega
    case qd5 => have := HHL.out; omega
    case qd6 => exact Nat.le_trans hBW hb4.size
    intro v7 w7 hown7 hgrow7 _ hat7
    obtain ⟨g7, cap7, rfl⟩ := own_next hown7
    obtain ⟨hput, hb7⟩ := box_put (x := (xp, xk, xv)) HB4.out hown7 hgrow7 (by simpa using hat7)
    have hcb7 := cell_of_one hb7
    have hfb7 := free_of_one hb7
    have hW7 : Below B W w7 := hb4.grown hgrow7 (Nat.le_trans hBW hb4.size) (fun k hk => own_far HB4.out.own hk)
    have hW8 : Below B W (w7.setCell ⟨bl, 0, none⟩ (.slice (some ⟨g7, 0, none⟩) (acc.length + 1) cap7)) := hW7.setCell HB4.out.low _
    have HPUT : Hid (BoxR (w7.setCell ⟨bl, 0, none⟩ (.slice (some ⟨g7, 0, none⟩) (acc.length + 1) cap7)) B bl (.slice (some ⟨g7, 0, none⟩) (acc.length + 1) cap7) (acc ++ [(xp, xk, xv)])) := hput
    clear hown7 hgrow7 hat7 hput
    go_wp2
    go_ret
    refine ⟨fun h9 => ?_, fun _ => ⟨rfl, ⟨_, by rw [HX.out]; exact HPUT.out⟩, hW8⟩⟩
    rw [HX.out, HLB.out] at h9
    cases h9
  · have ho := (h.below hb3).order
    go_wp2
    go_ret
    refine ⟨fun _ => ⟨rfl, hb3⟩, fun h9 => ?_⟩
    rw [HX.out, HLB.out] at h9
    cases h9
end Go.Proofs.YtabllmfncdedeabGreatDoor
