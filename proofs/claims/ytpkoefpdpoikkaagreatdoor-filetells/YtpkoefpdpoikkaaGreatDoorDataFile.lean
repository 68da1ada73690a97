/-
  The contract of data.Read: what a text is.
-/
import Derived.Test.YtpkoefpdpoikkaaGreatDoorDataAll
namespace Go.Proofs.YtpkoefpdpoikkaaGreatDoor
open Go.RowKit Go.Extern.Stop Go.Stop Go.Extern Go.Sort Go.Shelf Go.Lib

structure BoxR (W : World) (B bl : Nat) (v : Value) (acc : List Rw) : Prop where
  box : W.heap[bl]? = some (.cells #[v] 24 (0, 0))
  own : W.ownsRow B 41 3 v acc.length (flatR acc)
  off : v.ownBlock ≠ some bl
  low : B ≤ bl

structure InvR (B bl P Q : Nat) (W : World) (acc : List Rw) : Prop where
  ex : ∃ v, BoxR W B bl v acc ∧ ∀ j, P ≤ j → j < Q → v.ownBlock ≠ some j
  lt : bl < P
  hq : Q ≤ W.heap.size

theorem BoxR.below {W W' : World} {B bl : Nat} {v : Value} {acc : List Rw} (h : BoxR W B bl v acc) (hb : Below W.heap.size W W') : BoxR W' B bl v acc :=
  ⟨(hb.block bl (lt_of_block h.box)).trans h.box, own_below h.own hb, h.off, h.low⟩

set_option maxRecDepth 100000 in
set_option maxHeartbeats 2000000 in
theorem line_bad (line : ByteArray) (bl : Nat) (W : World) (a : Nat → Addr) (h : EnvD W a) (hs : line.size ≤ 100000) (hr : (readO line.data.toList).2 ≠ 0) :
    Calls Tryz.prog 165 #[.string line, .pointer (some ⟨bl, 0, none⟩)] W fun e w' => e = .returned (.tuple #[.int .i64 0, errV a (readO line.data.toList).2]) ∧ Below W.heap.size W w' := by
  have hrd := read_any line W a h.env (by omega)
  obtain ⟨E, hE⟩ : ∃ E, (readO line.data.toList).2 = E + 1 := ⟨(readO line.data.toList).2 - 1, by omega⟩
  rw [hE] at hrd ⊢
  simp only [errV] at hrd ⊢
  generalize (readO line.data.toList).1 = x at hrd
  obtain ⟨xp, xk, xv⟩ := x
  simp only [rowV] at hrd
  clear hr hE
  go_enter Tryz.func165, Tryz.ntmps165
  go_wp2_with fail
  refine hrd.mono ?_
  rintro e w1 ⟨rfl, hb1⟩
  clear hrd
  have hb2 : Below W.heap.size W (w1.alloc (.cells #[.string xp, .int .i64 xk, .int .i64 xv] 41)) := hb1.alloc hb1.size _
  go_wp2
  go_ret2
  exact ⟨rfl, hb2⟩

theorem own_shape {W : World} {base : Nat} {e : TypeId} {size : Nat} {v : Value} {n : Nat} {xs : List Value} (h : W.ownsRow base e size v n xs) : ∃ q c, v = .slice q n c := by
  rcases h.2 with ⟨rfl, rfl⟩ | ⟨g, cap, cur, rfl, _⟩
  · exact ⟨none, 0, rfl⟩
  · exact ⟨_, _, rfl⟩
theorem own_next {W : World} {base : Nat} {e : TypeId} {size : Nat} {v : Value} {n : Nat} {xs : List Value} (h : W.ownsRow base e size v (n + 1) xs) : ∃ g c, v = .slice (some ⟨g, 0, none⟩) (n + 1) c := by
  rcases h.2 with ⟨_, h0⟩ | ⟨g, cap, cur, rfl, _⟩
  · omega
  · exact ⟨_, _, rfl⟩
theorem own_far {W : World} {base : Nat} {e : TypeId} {size : Nat} {v : Value} {n : Nat} {xs : List Value} (h : W.ownsRow base e size v n xs) {k : Nat} (hk : v.ownBlock = some k) : base ≤ k := (h.lt k hk).1
theorem row_cells (wr : World) (xp : ByteArray) (xk xv : Int) (j : Nat) (u : Value) (hj : (encR (xp, xk, xv))[j]? = some u) : (wr.alloc (.cells #[.string xp, .int .i64 xk, .int .i64 xv] 41)).cell? ⟨wr.heap.size, j, none⟩ = some u := by
  rw [cell_of_row _ _ _ _ _ _ (heap_alloc_new _ _)]
  match j, hj with
  | 0, hj => simpa [encR] using hj
  | 1, hj => simpa [encR] using hj
  | 2, hj => simpa [encR] using hj
  | j + 3, hj => simp [encR] at hj

theorem box_put {W w5 : World} {B bl : Nat} {v v' : Value} {acc : List Rw} {x : Rw} (h : BoxR W B bl v acc) (ho : w5.ownsRow B 41 3 v' (acc.length + 1) (flatR acc ++ encR x)) (hg : W.grownBy w5 v.ownBlock) (hat : v'.ownBlock = v.ownBlock ∨ v'.ownBlock = some W.heap.size) :
    BoxR (w5.setCell ⟨bl, 0, none⟩ v') B bl v' (acc ++ [x]) ∧ w5.heap[bl]? = some (.cells #[v] 24 (0, 0)) := by
  have hlt := lt_of_block h.box
  have hb5 : w5.heap[bl]? = some (.cells #[v] 24 (0, 0)) := (hg.block bl hlt (fun e => h.off e.symm)).trans h.box
  have hoff : v'.ownBlock ≠ some bl := by
    rcases hat with e | e
    · rw [e]; exact h.off
    · rw [e]; intro e'; have := Option.some.inj e'; omega
  refine ⟨⟨one_setCell hb5, ?_, hoff, h.low⟩, hb5⟩
  rw [List.length_append, flat_append, flat_single]
  exact ownsRow_setCell_other ho hoff _

theorem inv_put {W0 W w5 : World} {B bl P Q : Nat} {v v' : Value} {acc : List Rw} {x : Rw} (h : BoxR W B bl v acc) (ho : w5.ownsRow B 41 3 v' (acc.length + 1) (flatR acc ++ encR x)) (hg : W.grownBy w5 v.ownBlock) (hat : v'.ownBlock = v.ownBlock ∨ v'.ownBlock = some W.heap.size)
    (hb : Below W0.heap.size W0 W) (hoff : ∀ j, P ≤ j → j < Q → v.ownBlock ≠ some j) (hlt : bl < P) (hq : Q ≤ W0.heap.size) :
    InvR B bl P Q (w5.setCell ⟨bl, 0, none⟩ v') (acc ++ [x]) ∧ ∀ j, P ≤ j → j < Q → (w5.setCell ⟨bl, 0, none⟩ v').heap[j]? = W0.heap[j]? := by
  have hsz : Q ≤ W.heap.size := Nat.le_trans hq hb.size
  have hs5 : W.heap.size ≤ w5.heap.size := hg.size
  refine ⟨⟨⟨v', (box_put h ho hg hat).1, fun j h1 h2 e => ?_⟩, hlt, ?_⟩, fun j h1 h2 => ?_⟩
  · rcases hat with e' | e'
    · exact hoff j h1 h2 (e'.symm.trans e)
    · rw [e'] at e; have := Option.some.inj e; omega
  · have : (w5.setCell ⟨bl, 0, none⟩ v').heap.size = w5.heap.size := by simp [World.setCell]
    omega
  · rw [heap_setCell_other _ _ _ _ (by show j ≠ bl; omega), hg.block j (by omega) (fun e => hoff j h1 h2 e.symm)]
    exact hb.block j (by omega)

set_option maxRecDepth 100000 in
set_option maxHeartbeats 4000000 in
theorem line_first (line : ByteArray) (bl B : Nat) (v : Value) (W : World) (a : Nat → Addr) (h : EnvD W a) (hB : BoxR W B bl v []) (P Q : Nat) (hoff : ∀ j, P ≤ j → j < Q → v.ownBlock ≠ some j) (hlt : bl < P) (hq : Q ≤ W.heap.size) (hs : line.size ≤ 100000) (hr : (readO line.data.toList).2 = 0) :
    Calls Tryz.prog 165 #[.string line, .pointer (some ⟨bl, 0, none⟩)] W fun e w' => e = .returned (.tuple #[.int .i64 (readO line.data.toList).1.2.1, .nilIface]) ∧ InvR B bl P Q w' [(readO line.data.toList).1] ∧ (∀ j, P ≤ j → j < Q → w'.heap[j]? = W.heap[j]?) ∧ Below B W w' := by
  obtain ⟨i0, hi0, hz0, hs0, hby0⟩ := Tryz.rowInfo
  have hrd := read_any line W a h.env (by omega)
  rw [hr] at hrd
  simp only [errV] at hrd
  obtain ⟨x, hx⟩ : ∃ x, (readO line.data.toList).1 = x := ⟨_, rfl⟩
  rw [hx] at hrd ⊢
  clear hx hr
  obtain ⟨xp, xk, xv⟩ := x
  simp only [rowV] at hrd
  have hBW : B ≤ W.heap.size := Nat.le_trans hB.low (Nat.le_of_lt (lt_of_block hB.box))
  have hblW : bl < W.heap.size := lt_of_block hB.box
  have hownW : ∀ k, v.ownBlock = some k → k < W.heap.size := fun k hk => (hB.own.lt k hk).2
  have HOFF : Hid (∀ j, P ≤ j → j < Q → v.ownBlock ≠ some j) := hoff
  have HOWN : Hid (∀ k, v.ownBlock = some k → k < W.heap.size) := hownW
  clear hoff hownW
  go_enter Tryz.func165, Tryz.ntmps165
  go_wp2_with fail
  refine hrd.mono ?_
  rintro e w1 ⟨rfl, hb1⟩
  clear hrd
  have hb2 : Below W.heap.size W (w1.alloc (.cells #[.string xp, .int .i64 xk, .int .i64 xv] 41)) := hb1.alloc hb1.size _
  have hB2 := hB.below hb2
  have x0 : (w1.alloc (.cells #[.string xp, .int .i64 xk, .int .i64 xv] 41)).cell? ⟨w1.heap.size, 0, none⟩ = some (.string xp) := by simp
  have x1 : (w1.alloc (.cells #[.string xp, .int .i64 xk, .int .i64 xv] 41)).cell? ⟨w1.heap.size, 1, none⟩ = some (.int .i64 xk) := by simp
  have x2 : (w1.alloc (.cells #[.string xp, .int .i64 xk, .int .i64 xv] 41)).cell? ⟨w1.heap.size, 2, none⟩ = some (.int .i64 xv) := by simp
  obtain ⟨q, cp, rfl⟩ := own_shape hB2.own
  simp only [List.length_nil] at hB2
  have hcb := cell_of_one hB2.box
  have hfb := free_of_one hB2.box
  clear hB
  go_wp2_with fail
  have hbxW : W.heap.size ≤ w1.heap.size := hb1.size
  generalize w1.heap.size = bx at x0 x1 x2 hbxW ⊢
  generalize w1.alloc (.cells #[.string xp, .int .i64 xk, .int .i64 xv] 41) = W2 at hb2 hB2 x0 x1 x2 hcb hfb ⊢
  go_quiet (fail)
  have hbq : Below W2.heap.size W2 (W2.drewN nq) := below_drewN (Below.refl _ _) nq
  have hb3 : Below W.heap.size W (W2.drewN nq) := hb2.trans (hbq.mono hb2.size)
  have hB3 := hB2.below hbq
  have y0 := below_keep hbq x0
  have y1 := below_keep hbq x1
  have y2 := below_keep hbq x2
  have hcb3 := cell_of_one hB3.box
  have hfb3 := free_of_one hB3.box
  clear hB2 x0 x1 x2 hcb hfb hb2 hbq
  generalize W2.drewN nq = W3 at hb3 hB3 y0 y1 y2 hcb3 hfb3 ⊢
  have hal : Below W3.heap.size W3 (W3.alloc (.cells #[.string xp, .int .i64 xk, .int .i64 xv] 41)) := (Below.refl _ _).alloc (Nat.le_refl _) _
  have hB4 := hB3.below hal
  have hb4 : Below B W (W3.alloc (.cells #[.string xp, .int .i64 xk, .int .i64 xv] 41)) := (hb3.trans (hal.mono hb3.size)).mono hBW
  go_wp2_with (at_builtin; refine wpList_append_own_at _ rfl _ _ 24 rfl B 41 i0 (.agg #[.string ⟨#[]⟩, .int .i64 0, .int .i64 0]) 3 32 Tryz.underlying24 hi0 hz0 hs0 hby0 rfl (by decide) (.slice q 0 cp) 0 (flatR []) rfl hB4.own ⟨W3.heap.size, 0, none⟩ 1 1 (encR (xp, xk, xv)) rfl ?qd1 ?qd2 ?qd3 ?qd4 ?qd5 ?qd6 ?_)
  case qd1 => rfl
  case qd2 =>
    intro j u hj
    rw [Addr.add_lit, Nat.zero_add]
    exact row_cells W3 xp xk xv j u hj
  case qd3 => exact encR_one _
  case qd4 => unfold maxLen; omega
  case qd5 => omega
  case qd6 => exact Nat.le_trans hBW hb4.size
  intro v7 w7 hown7 hgrow7 _ hat7
  obtain ⟨g7, cap7, rfl⟩ := own_next hown7
  obtain ⟨hput, hb7⟩ := box_put (x := (xp, xk, xv)) hB4 hown7 hgrow7 (by simpa using hat7)
  have hcb7 := cell_of_one hb7
  have hfb7 := free_of_one hb7
  have hW7 : Below B W w7 := hb4.grown hgrow7 (Nat.le_trans hBW hb4.size) (fun k hk => own_far hB4.own hk)
  have hW8 : Below B W (w7.setCell ⟨bl, 0, none⟩ (.slice (some ⟨g7, 0, none⟩) (0 + 1) cap7)) := hW7.setCell hB4.low _
  have hbW4 : Below W.heap.size W (W3.alloc (.cells #[.string xp, .int .i64 xk, .int .i64 xv] 41)) := hb3.trans (hal.mono hb3.size)
  have HPUT : Hid (InvR B bl P Q (w7.setCell ⟨bl, 0, none⟩ (.slice (some ⟨g7, 0, none⟩) (0 + 1) cap7)) ([] ++ [(xp, xk, xv)]) ∧ ∀ j, P ≤ j → j < Q → (w7.setCell ⟨bl, 0, none⟩ (.slice (some ⟨g7, 0, none⟩) (0 + 1) cap7)).heap[j]? = W.heap[j]?) := inv_put (x := (xp, xk, xv)) hB4 hown7 hgrow7 (by simpa using hat7) hbW4 HOFF.out hlt hq
  have hk7 : w7.cell? ⟨bx, 1, none⟩ = some (.int .i64 xk) := (World.cell?_of_block (hgrow7.block bx (cell_lt (below_keep hal y1)) (fun e => by have := HOWN.out bx e.symm; omega))).trans (below_keep hal y1)
  have hk8 : (w7.setCell ⟨bl, 0, none⟩ (.slice (some ⟨g7, 0, none⟩) (0 + 1) cap7)).cell? ⟨bx, 1, none⟩ = some (.int .i64 xk) := by
    rw [World.cell?_setCell_other _ _ _ _ (by intro e; injection e; omega)]; exact hk7
  clear hown7 hgrow7 hat7 hB4 hB3 hput y0 y1 y2
  go_wp2
  go_ret2
  exact ⟨rfl, HPUT.out.1, HPUT.out.2, hW8⟩

set_option maxRecDepth 100000 in
set_option maxHeartbeats 8000000 in
theorem line_next (line : ByteArray) (bl B k : Nat) (v : Value) (acc : List Rw) (W : World) (a : Nat → Addr) (h : EnvD W a) (hB : BoxR W B bl v acc) (hs : line.size ≤ 100000) (hl : acc.length ≤ 100000) (P Q : Nat) (hoff : ∀ j, P ≤ j → j < Q → v.ownBlock ≠ some j) (hlt : bl < P) (hq : Q ≤ W.heap.size) (hk : acc.length = k + 1) (hkk : k < acc.length) (hr : (readO line.data.toList).2 = 0) :
    Calls Tryz.prog 165 #[.string line, .pointer (some ⟨bl, 0, none⟩)] W fun e w' => (ltOf cfR (readO line.data.toList).1 acc[k] = true → e = .returned (.tuple #[.int .i64 0, errV a 9]) ∧ Below W.heap.size W w') ∧
      (ltOf cfR (readO line.data.toList).1 acc[k] = false → e = .returned (.tuple #[.int .i64 (readO line.data.toList).1.2.1, .nilIface]) ∧ InvR B bl P Q w' (acc ++ [(readO line.data.toList).1]) ∧ (∀ j, P ≤ j → j < Q → w'.heap[j]? = W.heap[j]?) ∧ Below B W w') := by
  obtain ⟨i0, hi0, hz0, hs0, hby0⟩ := Tryz.rowInfo
  have hrd := read_any line W a h.env (by omega)
  rw [hr] at hrd
  simp only [errV] at hrd
  obtain ⟨x, hx⟩ : ∃ x, (readO line.data.toList).1 = x := ⟨_, rfl⟩
  rw [hx] at hrd
  have hless := less_any x acc[k]
  obtain ⟨lb, hlb⟩ : ∃ lb, ltOf cfR x acc[k] = lb := ⟨_, rfl⟩
  rw [hlb] at hless
  have HX : Hid ((readO line.data.toList).1 = x) := hx
  have HLB : Hid (ltOf cfR x acc[k] = lb) := hlb
  clear hx hr hlb
  obtain ⟨xp, xk, xv⟩ := x
  simp only [rowV] at hrd
  have hBW : B ≤ W.heap.size := Nat.le_trans hB.low (Nat.le_of_lt (lt_of_block hB.box))
  have hblW : bl < W.heap.size := lt_of_block hB.box
  have hownW : ∀ k, v.ownBlock = some k → k < W.heap.size := fun k hk => (hB.own.lt k hk).2
  have HOFF : Hid (∀ j, P ≤ j → j < Q → v.ownBlock ≠ some j) := hoff
  have HOWN : Hid (∀ k, v.ownBlock = some k → k < W.heap.size) := hownW
  clear hoff hownW
  go_enter Tryz.func165, Tryz.ntmps165
  go_wp2_with fail
  refine hrd.mono ?_
  rintro e w1 ⟨rfl, hb1⟩
  clear hrd
  have hb2 : Below W.heap.size W (w1.alloc (.cells #[.string xp, .int .i64 xk, .int .i64 xv] 41)) := hb1.alloc hb1.size _
  have hB2 := hB.below hb2
  have x0 : (w1.alloc (.cells #[.string xp, .int .i64 xk, .int .i64 xv] 41)).cell? ⟨w1.heap.size, 0, none⟩ = some (.string xp) := by simp
  have x1 : (w1.alloc (.cells #[.string xp, .int .i64 xk, .int .i64 xv] 41)).cell? ⟨w1.heap.size, 1, none⟩ = some (.int .i64 xk) := by simp
  have x2 : (w1.alloc (.cells #[.string xp, .int .i64 xk, .int .i64 xv] 41)).cell? ⟨w1.heap.size, 2, none⟩ = some (.int .i64 xv) := by simp
  have hnx : ∃ g c, v = .slice (some ⟨g, 0, none⟩) (k + 1) c := own_next (n := k) (by rw [← hk]; exact hB2.own)
  obtain ⟨g, cp, rfl⟩ := hnx
  have hcb := cell_of_one hB2.box
  have hfb := free_of_one hB2.box
  have hrc : RowCells (w1.alloc (.cells #[.string xp, .int .i64 xk, .int .i64 xv] 41)) g 0 acc := by
    rcases (own_cases hB2.own).2 with ⟨e, _⟩ | ⟨g', cap', e, hc⟩
    · cases e
    · injection e with e1
      injection e1 with e1
      injection e1 with e1
      subst e1
      exact hc
  obtain ⟨p0, p1, p2⟩ := hrc k hkk
  simp only [Nat.zero_add] at p0 p1 p2
  generalize acc[k] = y at p0 p1 p2 hless
  obtain ⟨yp, yk, yv⟩ := y
  dsimp only at p0 p1 p2 hless
  clear hB hrc
  have hi1 : (0 : Int) < (k : Int) + 1 := by omega
  have hi3 : (k : Int) < (k : Int) + 1 := by omega
  have hi4 : (0 : Int) ≤ (k : Int) := by omega
  have hi5 : IntKind.i64.wrap (k : Int) = (k : Int) := IntWalk.i64_in _ (by omega)
  have hmxo : Tryz.prog.follows .mixedOrders = true := by kernel_rfl
  have HKK : Hid (acc.length = k + 1) := hk
  have HHL : Hid (acc.length ≤ 100000) := hl
  clear hk hl
  go_wp2_with fail
  have hbxW : W.heap.size ≤ w1.heap.size := hb1.size
  generalize w1.heap.size = bx at x0 x1 x2 hbxW ⊢
  generalize w1.alloc (.cells #[.string xp, .int .i64 xk, .int .i64 xv] 41) = W2 at hb2 hB2 x0 x1 x2 hcb hfb p0 p1 p2 ⊢
  have hless2 := fun d os => Calls.regrown_of (w := W2) (d := d) (os := os) (hless _)
  have f0 := cell_regrown x0
  have f1 := cell_regrown x1
  have f2 := cell_regrown x2
  have f3 := cell_regrown hcb
  have f4 := cell_regrown p0
  have f5 := cell_regrown p1
  have f6 := cell_regrown p2
  refine wp_region_quiet_below hmxo (by kernel_rfl) ?_
  repeat (go_big_quiet_step (exact hless2 _ _))
  refine wpQuiet_nil ?_
  intro _ hw'
  obtain ⟨⟨dq, osq⟩, hw''⟩ := hw'
  subst hw''
  clear hless2 hless f0 f1 f2 f3 f4 f5 f6
  have hbq := below_regrown W2 dq osq
  have hb3 : Below W.heap.size W (grow (redrawn W2 dq) osq) := hb2.trans (hbq.mono hb2.size)
  have hB3 := hB2.below hbq
  have y0 := below_keep hbq x0
  have y1 := below_keep hbq x1
  have y2 := below_keep hbq x2
  clear hB2 x0 x1 x2 hcb hfb hb2 hbq p0 p1 p2
  generalize grow (redrawn W2 dq) osq = W3 at hb3 hB3 y0 y1 y2 ⊢
  have hcb3 := cell_of_one hB3.box
  have hfb3 := free_of_one hB3.box
  cases lb
  · have hal : Below W3.heap.size W3 (W3.alloc (.cells #[.string xp, .int .i64 xk, .int .i64 xv] 41)) := (Below.refl _ _).alloc (Nat.le_refl _) _
    have hB4 := hB3.below hal
    have hb4 : Below B W (W3.alloc (.cells #[.string xp, .int .i64 xk, .int .i64 xv] 41)) := (hb3.trans (hal.mono hb3.size)).mono hBW
    have HB4 : Hid (BoxR (W3.alloc (.cells #[.string xp, .int .i64 xk, .int .i64 xv] 41)) B bl (.slice (some ⟨g, 0, none⟩) (k + 1) cp) acc) := hB4
    clear hB4 hB3
    go_wp2_with (at_builtin; refine wpList_append_own_at _ rfl _ _ 24 rfl B 41 i0 (.agg #[.string ⟨#[]⟩, .int .i64 0, .int .i64 0]) 3 32 Tryz.underlying24 hi0 hz0 hs0 hby0 rfl (by decide) (.slice (some ⟨g, 0, none⟩) (k + 1) cp) acc.length (flatR acc) rfl HB4.out.own ⟨W3.heap.size, 0, none⟩ 1 1 (encR (xp, xk, xv)) rfl ?qd1 ?qd2 ?qd3 ?qd4 ?qd5 ?qd6 ?_)
    case qd1 => rfl
    case qd2 =>
      intro j u hj
      rw [Addr.add_lit, Nat.zero_add]
      exact row_cells W3 xp xk xv j u hj
    case qd3 => exact encR_one _
    case qd4 => have := HHL.out; unfold maxLen; omega
    case qd5 => have := HHL.out; omega
    case qd6 => exact Nat.le_trans hBW hb4.size
    intro v7 w7 hown7 hgrow7 _ hat7
    obtain ⟨g7, cap7, rfl⟩ := own_next hown7
    obtain ⟨hput, hb7⟩ := box_put (x := (xp, xk, xv)) HB4.out hown7 hgrow7 (by simpa using hat7)
    have hcb7 := cell_of_one hb7
    have hfb7 := free_of_one hb7
    have hW7 : Below B W w7 := hb4.grown hgrow7 (Nat.le_trans hBW hb4.size) (fun k hk => own_far HB4.out.own hk)
    have hW8 : Below B W (w7.setCell ⟨bl, 0, none⟩ (.slice (some ⟨g7, 0, none⟩) (acc.length + 1) cap7)) := hW7.setCell HB4.out.low _
    have hbW4 : Below W.heap.size W (W3.alloc (.cells #[.string xp, .int .i64 xk, .int .i64 xv] 41)) := hb3.trans (hal.mono hb3.size)
    have HPUT : Hid (InvR B bl P Q (w7.setCell ⟨bl, 0, none⟩ (.slice (some ⟨g7, 0, none⟩) (acc.length + 1) cap7)) (acc ++ [(xp, xk, xv)]) ∧ ∀ j, P ≤ j → j < Q → (w7.setCell ⟨bl, 0, none⟩ (.slice (some ⟨g7, 0, none⟩) (acc.length + 1) cap7)).heap[j]? = W.heap[j]?) := inv_put (x := (xp, xk, xv)) HB4.out hown7 hgrow7 (by simpa using hat7) hbW4 HOFF.out hlt hq
    have hk7 : w7.cell? ⟨bx, 1, none⟩ = some (.int .i64 xk) := (World.cell?_of_block (hgrow7.block bx (cell_lt (below_keep hal y1)) (fun e => by have := HOWN.out bx e.symm; omega))).trans (below_keep hal y1)
    have hk8 : (w7.setCell ⟨bl, 0, none⟩ (.slice (some ⟨g7, 0, none⟩) (acc.length + 1) cap7)).cell? ⟨bx, 1, none⟩ = some (.int .i64 xk) := by
      rw [World.cell?_setCell_other _ _ _ _ (by intro e; injection e; omega)]; exact hk7
    clear hown7 hgrow7 hat7 hput y0 y1 y2
    go_wp2
    go_ret2
    refine ⟨fun h9 => ?_, fun _ => ⟨by rw [HX.out]; rfl, by rw [HX.out]; exact HPUT.out.1, HPUT.out.2, hW8⟩⟩
    rw [HX.out, HLB.out] at h9
    cases h9
  · have ho := (h.below hb3).order
    go_wp2
    go_quiet (fail)
    go_wp2
    go_ret2
    refine ⟨fun _ => ⟨rfl, below_drewN hb3 nq⟩, fun h9 => ?_⟩
    rw [HX.out, HLB.out] at h9
    cases h9

theorem InvR.keep {B bl P Q : Nat} {W W' : World} {acc : List Rw} (h : InvR B bl P Q W acc) (hb : Below W.heap.size W W') : InvR B bl P Q W' acc := by
  obtain ⟨⟨v, hv, ho⟩, hl, hq⟩ := h
  exact ⟨⟨v, hv.below hb, ho⟩, hl, Nat.le_trans hq hb.size⟩

theorem InvR.set {B bl P Q : Nat} {W : World} {acc : List Rw} (j o : Nat) (u : Value) (h1 : P ≤ j) (h2 : j < Q) (h : InvR B bl P Q W acc) : InvR B bl P Q (W.setCell ⟨j, o, none⟩ u) acc := by
  obtain ⟨⟨v, hv, ho⟩, hl, hq⟩ := h
  have hsz : (W.setCell ⟨j, o, none⟩ u).heap.size = W.heap.size := by simp [World.setCell]
  refine ⟨⟨v, ⟨?_, ownsRow_setCell_other hv.own (ho j h1 h2) u, hv.off, hv.low⟩, ho⟩, hl, by omega⟩
  rw [heap_setCell_other _ _ _ _ (by show bl ≠ j; omega)]
  exact hv.box

theorem last_is {β : Type} (acc : List β) (k : Nat) (d : β) (hk : acc.length = k + 1) (hkk : k < acc.length) : acc.getLastD d = acc[k] := by
  have hne : acc ≠ [] := by intro e; rw [e] at hk; simp at hk
  rw [List.getLastD_eq_getLast?, List.getLast?_eq_some_getLast hne, Option.getD_some, List.getLast_eq_getElem]
  congr 1
  omega

theorem taker_rows (a : Nat → Addr) (bl B P Q : Nat) (hBP : B ≤ P) : Taker dataK a (fun W => EnvD W a) 165 bl B P Q (InvR B bl P Q) where
  env := fun h => h.weak
  ent := enters_of Tryz.func165 (by kernel_rfl) rfl
  low := hBP
  keep := fun h hb => h.keep hb
  set := fun j o u h1 h2 h => h.set j o u h1 h2
  take := fun W line acc hE hI hQ hs hl => by
    have HI : Hid (InvR B bl P Q W acc) := hI
    obtain ⟨⟨v, hv, ho⟩, hlt, hq⟩ := hI
    have hBW : B ≤ W.heap.size := Nat.le_trans hv.low (Nat.le_of_lt (lt_of_block hv.box))
    show Calls _ _ _ _ fun e w' => Below B W w' ∧ _ ∧ ((stepE dataK acc line.data.toList ≠ 0 ∧ _) ∨ (stepE dataK acc line.data.toList = 0 ∧ _))
    have hst : stepE dataK acc line.data.toList = if (readO line.data.toList).2 ≠ 0 then (readO line.data.toList).2 else if acc ≠ [] ∧ ltOf cfR (readO line.data.toList).1 (acc.getLastD (bytesOf [], 0, 0)) = true then 9 else 0 := rfl
    by_cases hr : (readO line.data.toList).2 ≠ 0
    · rw [if_pos hr] at hst
      refine (line_bad line bl W a hE hs hr).mono fun e w' ⟨he, hb⟩ => ⟨hb.mono hBW, fun j h1 h2 => hb.block j (by omega), Or.inl ⟨by rw [hst]; exact hr, by rw [he, hst], HI.out.keep hb⟩⟩
    · have hr0 : (readO line.data.toList).2 = 0 := Classical.byContradiction hr
      rw [if_neg hr] at hst
      by_cases hac : acc = []
      · subst hac
        rw [if_neg (by simp)] at hst
        exact (line_first line bl B v W a hE hv P Q ho hlt hq hs hr0).mono fun e w' ⟨he, hi, hf, hb⟩ => ⟨hb, hf, Or.inr ⟨hst, he, hi⟩⟩
      · obtain ⟨k, hk⟩ : ∃ k, acc.length = k + 1 := ⟨acc.length - 1, by have := List.length_pos_iff.2 hac; omega⟩
        have hkk : k < acc.length := by omega
        rw [last_is acc k _ hk hkk] at hst
        refine (line_next line bl B k v acc W a hE hv hs hl P Q ho hlt hq hk hkk hr0).mono fun e w' ⟨h1, h2⟩ => ?_
        cases hb : ltOf cfR (readO line.data.toList).1 acc[k] with
        | true =>
          rw [if_pos ⟨hac, hb⟩] at hst
          obtain ⟨he, hbl⟩ := h1 hb
          exact ⟨hbl.mono hBW, fun j q1 q2 => hbl.block j (by omega), Or.inl ⟨by rw [hst]; decide, by rw [he, hst], HI.out.keep hbl⟩⟩
        | false =>
          rw [if_neg (fun e => by rw [hb] at e; cases e.2)] at hst
          obtain ⟨he, hi, hf, hbl⟩ := h2 hb
          exact ⟨hbl, hf, Or.inr ⟨hst, he, hi⟩⟩
end Go.Proofs.YtpkoefpdpoikkaaGreatDoor
namespace Go.Proofs.YtpkoefpdpoikkaaGreatDoor
open Go.RowKit Go.Extern.Stop Go.Stop Go.Extern Go.Sort Go.Shelf Go.Lib

def DataPost (w : World) (a : Nat → Addr) (D : List Rw × Nat × Option Nat) (e : Ending) (w' : World) : Prop :=
  Below w.heap.size w w' ∧ ((D.2.1 = 0 ∧ ∃ v, e = .returned (.tuple #[v, .nilIface]) ∧ RowsAt w' v D.1) ∨
    (D.2.1 ≠ 0 ∧ D.1 = [] ∧ D.2.2 = none ∧ e = .returned (.tuple #[.slice none 0 0, errV a D.2.1])) ∨
    (D.2.1 ≠ 0 ∧ D.1 = [] ∧ ∃ at_, D.2.2 = some at_ ∧ ∃ fb, e = .returned (.tuple #[.slice none 0 0, .iface 108 (.pointer (some ⟨fb, 0, none⟩))]) ∧ w'.cell? ⟨fb, 0, none⟩ = some (.int .i64 at_) ∧ w'.cell? ⟨fb, 1, none⟩ = some (errV a D.2.1)))

set_option maxRecDepth 100000 in
set_option maxHeartbeats 8000000 in
theorem data_any (s : ByteArray) (w : World) (a : Nat → Addr) (h : EnvD w a) (hs : s.size ≤ maxLen) :
    Calls Tryz.prog 128 #[.string s] w fun e w' => DataPost w a (dataO s.data.toList) e w' := by
  have hal : Below w.heap.size w (w.alloc (.cells #[.slice none 0 0] 24)) := (Below.refl _ _).alloc (Nat.le_refl _) _
  have hbox : BoxR (w.alloc (.cells #[.slice none 0 0] 24)) w.heap.size w.heap.size (.slice none 0 0) [] := ⟨heap_alloc_new _ _, World.ownsRow_nil _ _ _ _, by simp [Value.ownBlock], Nat.le_refl _⟩
  have hsz : (w.alloc (.cells #[.slice none 0 0] 24)).heap.size = w.heap.size + 1 := by simp
  have hrl := readLines_any dataK ⟨#[100, 97, 116, 97]⟩ s rfl (w.alloc (.cells #[.slice none 0 0] 24)) a (fun W => EnvD W a) 165 w.heap.size w.heap.size (fun Q => InvR w.heap.size w.heap.size (w.heap.size + 1) Q) (by omega) (fun W' hW => h.below (hal.trans hW))
    (fun Q => by rw [hsz]; exact taker_rows a w.heap.size w.heap.size (w.heap.size + 1) Q (Nat.le_succ _))
    (fun Q W' hW hQ => ⟨⟨_, hbox.below hW, fun j _ _ => by simp [Value.ownBlock]⟩, Nat.lt_succ_self _, hQ⟩) hs
  have e0 : dataO s.data.toList = readG dataK s.data.toList := rfl
  rw [e0]
  generalize readG dataK s.data.toList = D at hrl ⊢
  clear hbox hsz e0
  go_enter Tryz.func128, Tryz.ntmps128
  go_wp2_with fail
  generalize w.alloc (.cells #[.slice none 0 0] 24) = WA at hrl hal ⊢
  refine hrl.mono ?_
  rintro e w1 ⟨hb1, hres⟩
  clear hrl
  have hB1 : Below w.heap.size w w1 := hal.trans hb1
  rcases hres with ⟨h0, rfl, Q, hinv⟩ | ⟨h0, h1, h2, rfl⟩ | ⟨h0, h1, at_, h2, fb, rfl, c0, c1⟩
  · obtain ⟨⟨v, hbx, _⟩, _, _⟩ := hinv
    have hc := cell_of_one hbx.box
    have hro := (rowsAt_of_own hbx.own).1
    obtain ⟨q, cp, rfl⟩ := own_shape hbx.own
    have HRO : Hid (RowsAt w1 (.slice q D.1.length cp) D.1) := hro
    clear hbx hro
    obtain ⟨LL, hLL⟩ : ∃ LL, D.1.length = LL := ⟨_, rfl⟩
    have HLL : Hid (D.1.length = LL) := hLL
    rw [hLL] at hc HRO
    clear hLL
    go_wp2
    go_ret2
    exact ⟨hB1, Or.inl ⟨h0, _, rfl, HRO.out⟩⟩
  · obtain ⟨E, hE⟩ : ∃ E, D.2.1 = E + 1 := ⟨D.2.1 - 1, by omega⟩
    have HE : Hid (D.2.1 = E + 1) := hE
    rw [hE]
    simp only [errV]
    clear hE
    go_wp2
    go_ret2
    exact ⟨hB1, Or.inr (Or.inl ⟨h0, h1, h2, by rw [HE.out]; rfl⟩)⟩
  · have C0 : Hid (w1.cell? ⟨fb, 0, none⟩ = some (.int .i64 at_)) := c0
    have C1 : Hid (w1.cell? ⟨fb, 1, none⟩ = some (errV a D.2.1)) := c1
    clear c0 c1
    go_wp2
    go_ret2
    exact ⟨hB1, Or.inr (Or.inr ⟨h0, h1, at_, h2, fb, rfl, C0.out, C1.out⟩)⟩
end Go.Proofs.YtpkoefpdpoikkaaGreatDoor
