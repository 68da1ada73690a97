/-
  The contracts of file.counts, file.Number and file.partOf.
-/
import Derived.Test.YtdhkdjlgmbejnaaGreatDoorDataFile
import Derived.Test.YtdhkdjlgmbejnaaGreatDoorRefNums
import Derived.Handy
namespace Go.Proofs.YtdhkdjlgmbejnaaGreatDoor
open Go.RowKit Go.Extern.Stop Go.Stop Go.Extern Go.Sort Go.Shelf Go.Lib

theorem keyO_eq (l : List UInt8) : keyO l = match numO l with
  | none => (0, 1)
  | some n => if inNum n then (n, 0) else (0, 2) := rfl

set_option maxRecDepth 100000 in
set_option maxHeartbeats 1000000 in
theorem readKey_any (line : ByteArray) (w : World) (a : Nat → Addr) (h : EnvD0 w a) (hs : line.size ≤ 100000) :
    Calls Tryz.prog 211 #[.string line] w fun e w' => e = .returned (.tuple #[.int .i64 (keyO line.data.toList).1, errV a (keyO line.data.toList).2]) ∧ Below w.heap.size w w' := by
  have hnm := number_any line w a h.env (by unfold maxLen; omega)
  unfold numR at hnm
  cases hn : numO line.data.toList with
  | none =>
    have HK : Hid (keyO line.data.toList = (0, 1)) := by show _ = _; rw [keyO_eq, hn]
    rw [hn] at hnm
    dsimp only at hnm
    clear hn
    rw [HK.out]
    simp only [errV]
    go_enter Tryz.func211, Tryz.ntmps211
    go_wp2_with fail
    refine hnm.mono ?_
    rintro e w1 ⟨rfl, hb1⟩
    clear hnm
    have ht := (h.below hb1).env.text
    go_wp2
    go_quiet (fail)
    go_wp2
    go_ret2
    exact ⟨rfl, below_drewN hb1 nq⟩
  | some n =>
    rw [hn] at hnm
    dsimp only at hnm
    cases hi : inNum n with
    | true =>
      have HK : Hid (keyO line.data.toList = (n, 0)) := by show _ = _; rw [keyO_eq, hn]; simp [hi]
      have hib := fun W => inBounds_any n W
      rw [hi] at hib
      clear hn hi
      rw [HK.out]
      simp only [errV]
      go_enter Tryz.func211, Tryz.ntmps211
      go_wp2_with fail
      refine hnm.mono ?_
      rintro e w1 ⟨rfl, hb1⟩
      clear hnm
      go_wp2_with fail
      refine (hib _).mono ?_
      rintro e w2 ⟨rfl, rfl⟩
      clear hib
      go_wp2
      go_ret2
      exact ⟨rfl, hb1⟩
    | false =>
      have HK : Hid (keyO line.data.toList = (0, 2)) := by show _ = _; rw [keyO_eq, hn]; simp [hi]
      have hib := fun W => inBounds_any n W
      rw [hi] at hib
      clear hn hi
      rw [HK.out]
      simp only [errV]
      go_enter Tryz.func211, Tryz.ntmps211
      go_wp2_with fail
      refine hnm.mono ?_
      rintro e w1 ⟨rfl, hb1⟩
      clear hnm
      go_wp2_with fail
      refine (hib _).mono ?_
      rintro e w2 ⟨rfl, rfl⟩
      clear hib
      have ht := (h.below hb1).env.bound
      go_wp2
      go_quiet (fail)
      go_wp2
      go_ret2
      exact ⟨rfl, below_drewN hb1 nq⟩

theorem keysAt_own {w : World} {base : Nat} {v : Value} {zs : List Int} (h : w.ownsRow base 3 1 v zs.length (zs.map (Value.int .i64))) : KeysAt w v zs := by
  obtain ⟨hl, h⟩ := h
  rcases h with ⟨hv, hn⟩ | ⟨g, cap, cur, rfl, _, hg, hc, _, _, ht⟩
  · have : zs = [] := List.length_eq_zero_iff.1 hn
    subst this
    exact .inl ⟨none, 0, hv, rfl⟩
  · refine .inr ⟨g, 0, cap, rfl, fun j hj => ?_⟩
    have hu : (zs.map (Value.int .i64))[j]? = some (.int .i64 zs[j]) := by simp [hj]
    rw [← ht, List.getElem?_take, if_pos (by omega)] at hu
    simp only [World.cell?, hg, Nat.zero_add]
    simpa using hu

structure BoxK (W : World) (B bl : Nat) (v : Value) (acc : List Int) : Prop where
  box : W.heap[bl]? = some (.cells #[v] 50 (0, 0))
  own : W.ownsRow B 3 1 v acc.length (acc.map (Value.int .i64))
  off : v.ownBlock ≠ some bl
  low : B ≤ bl

structure InvK (B bl P Q : Nat) (W : World) (acc : List Int) : Prop where
  ex : ∃ v, BoxK W B bl v acc ∧ ∀ j, P ≤ j → j < Q → v.ownBlock ≠ some j
  lt : bl < P
  hq : Q ≤ W.heap.size

theorem BoxK.below {W W' : World} {B bl : Nat} {v : Value} {acc : List Int} (h : BoxK W B bl v acc) (hb : Below W.heap.size W W') : BoxK W' B bl v acc :=
  ⟨(hb.block bl (lt_of_block h.box)).trans h.box, own_below h.own hb, h.off, h.low⟩

theorem InvK.keep {B bl P Q : Nat} {W W' : World} {acc : List Int} (h : InvK B bl P Q W acc) (hb : Below W.heap.size W W') : InvK B bl P Q W' acc := by
  obtain ⟨⟨v, hv, ho⟩, hl, hq⟩ := h
  exact ⟨⟨v, hv.below hb, ho⟩, hl, Nat.le_trans hq hb.size⟩

theorem InvK.set {B bl P Q : Nat} {W : World} {acc : List Int} (j o : Nat) (u : Value) (h1 : P ≤ j) (h2 : j < Q) (h : InvK B bl P Q W acc) : InvK B bl P Q (W.setCell ⟨j, o, none⟩ u) acc := by
  obtain ⟨⟨v, hv, ho⟩, hl, hq⟩ := h
  have hsz : (W.setCell ⟨j, o, none⟩ u).heap.size = W.heap.size := by simp [World.setCell]
  refine ⟨⟨v, ⟨?_, ownsRow_setCell_other hv.own (ho j h1 h2) u, hv.off, hv.low⟩, ho⟩, hl, by omega⟩
  rw [heap_setCell_other _ _ _ _ (by show bl ≠ j; omega)]
  exact hv.box

theorem boxK_put {W w5 : World} {B bl : Nat} {v v' : Value} {acc : List Int} {x : Int} (h : BoxK W B bl v acc) (ho : w5.ownsRow B 3 1 v' (acc.length + 1) (acc.map (Value.int .i64) ++ [.int .i64 x])) (hg : W.grownBy w5 v.ownBlock) (hat : v'.ownBlock = v.ownBlock ∨ v'.ownBlock = some W.heap.size) :
    BoxK (w5.setCell ⟨bl, 0, none⟩ v') B bl v' (acc ++ [x]) ∧ w5.heap[bl]? = some (.cells #[v] 50 (0, 0)) := by
  have hlt := lt_of_block h.box
  have hb5 : w5.heap[bl]? = some (.cells #[v] 50 (0, 0)) := (hg.block bl hlt (fun e => h.off e.symm)).trans h.box
  have hoff : v'.ownBlock ≠ some bl := by
    rcases hat with e | e
    · rw [e]; exact h.off
    · rw [e]; intro e'; have := Option.some.inj e'; omega
  refine ⟨⟨one_setCell hb5, ?_, hoff, h.low⟩, hb5⟩
  rw [List.length_append, List.map_append]
  exact ownsRow_setCell_other ho hoff _

theorem invK_put {W0 W w5 : World} {B bl P Q : Nat} {v v' : Value} {acc : List Int} {x : Int} (h : BoxK W B bl v acc) (ho : w5.ownsRow B 3 1 v' (acc.length + 1) (acc.map (Value.int .i64) ++ [.int .i64 x])) (hg : W.grownBy w5 v.ownBlock) (hat : v'.ownBlock = v.ownBlock ∨ v'.ownBlock = some W.heap.size)
    (hb : Below W0.heap.size W0 W) (hoff : ∀ j, P ≤ j → j < Q → v.ownBlock ≠ some j) (hlt : bl < P) (hq : Q ≤ W0.heap.size) :
    InvK B bl P Q (w5.setCell ⟨bl, 0, none⟩ v') (acc ++ [x]) ∧ ∀ j, P ≤ j → j < Q → (w5.setCell ⟨bl, 0, none⟩ v').heap[j]? = W0.heap[j]? := by
  have hsz : Q ≤ W.heap.size := Nat.le_trans hq hb.size
  have hs5 : W.heap.size ≤ w5.heap.size := hg.size
  refine ⟨⟨⟨v', (boxK_put h ho hg hat).1, fun j h1 h2 e => ?_⟩, hlt, ?_⟩, fun j h1 h2 => ?_⟩
  · rcases hat with e' | e'
    · exact hoff j h1 h2 (e'.symm.trans e)
    · rw [e'] at e; have := Option.some.inj e; omega
  · have : (w5.setCell ⟨bl, 0, none⟩ v').heap.size = w5.heap.size := by simp [World.setCell]
    omega
  · rw [heap_setCell_other _ _ _ _ (by show j ≠ bl; omega), hg.block j (by omega) (fun e => hoff j h1 h2 e.symm)]
    exact hb.block j (by omega)

set_option maxRecDepth 100000 in
set_option maxHeartbeats 2000000 in
theorem kline_bad (line : ByteArray) (bl : Nat) (W : World) (a : Nat → Addr) (h : EnvD0 W a) (hs : line.size ≤ 100000) (hr : (keyO line.data.toList).2 ≠ 0) :
    Calls Tryz.prog 210 #[.string line, .pointer (some ⟨bl, 0, none⟩)] W fun e w' => e = .returned (.tuple #[.int .i64 0, errV a (keyO line.data.toList).2]) ∧ Below W.heap.size W w' := by
  have hrd := readKey_any line W a h hs
  obtain ⟨E, hE⟩ : ∃ E, (keyO line.data.toList).2 = E + 1 := ⟨(keyO line.data.toList).2 - 1, by omega⟩
  rw [hE] at hrd ⊢
  simp only [errV] at hrd ⊢
  generalize (keyO line.data.toList).1 = x at hrd
  clear hr hE
  go_enter Tryz.func210, Tryz.ntmps210
  go_wp2_with fail
  refine hrd.mono ?_
  rintro e w1 ⟨rfl, hb1⟩
  clear hrd
  go_wp2
  go_ret2
  exact ⟨rfl, hb1⟩

set_option maxRecDepth 100000 in
set_option maxHeartbeats 4000000 in
theorem kline_first (line : ByteArray) (bl B : Nat) (v : Value) (W : World) (a : Nat → Addr) (h : EnvD0 W a) (hB : BoxK W B bl v []) (P Q : Nat) (hoff : ∀ j, P ≤ j → j < Q → v.ownBlock ≠ some j) (hlt : bl < P) (hq : Q ≤ W.heap.size) (hs : line.size ≤ 100000) (hr : (keyO line.data.toList).2 = 0) :
    Calls Tryz.prog 210 #[.string line, .pointer (some ⟨bl, 0, none⟩)] W fun e w' => e = .returned (.tuple #[.int .i64 (keyO line.data.toList).1, .nilIface]) ∧ InvK B bl P Q w' [(keyO line.data.toList).1] ∧ (∀ j, P ≤ j → j < Q → w'.heap[j]? = W.heap[j]?) ∧ Below B W w' := by
  obtain ⟨i0, hi0, hz0, hs0, hby0⟩ := Tryz.numInfo
  have hrd := readKey_any line W a h hs
  rw [hr] at hrd
  simp only [errV] at hrd
  obtain ⟨x, hx⟩ : ∃ x, (keyO line.data.toList).1 = x := ⟨_, rfl⟩
  rw [hx] at hrd ⊢
  clear hx hr
  have hBW : B ≤ W.heap.size := Nat.le_trans hB.low (Nat.le_of_lt (lt_of_block hB.box))
  have HOFF : Hid (∀ j, P ≤ j → j < Q → v.ownBlock ≠ some j) := hoff
  clear hoff
  go_enter Tryz.func210, Tryz.ntmps210
  go_wp2_with fail
  refine hrd.mono ?_
  rintro e w1 ⟨rfl, hb1⟩
  clear hrd
  have hB2 := hB.below hb1
  obtain ⟨q, cp, rfl⟩ := own_shape hB2.own
  simp only [List.length_nil] at hB2
  have hcb := cell_of_one hB2.box
  have hfb := free_of_one hB2.box
  clear hB
  have hal : Below w1.heap.size w1 (w1.alloc (.cells #[.int .i64 x] 3)) := (Below.refl _ _).alloc (Nat.le_refl _) _
  have hB4 := hB2.below hal
  have hb4 : Below B W (w1.alloc (.cells #[.int .i64 x] 3)) := (hb1.trans (hal.mono hb1.size)).mono hBW
  go_wp2_with (at_builtin; refine wpList_append_own_at _ rfl _ _ 50 rfl B 3 i0 (.int .i64 0) 1 8 Tryz.underlying50 hi0 hz0 hs0 hby0 rfl (by decide) (.slice q 0 cp) 0 (([] : List Int).map (Value.int .i64)) rfl hB4.own ⟨w1.heap.size, 0, none⟩ 1 1 [.int .i64 x] rfl ?qd1 ?qd2 ?qd3 ?qd4 ?qd5 ?qd6 ?_)
  case qd1 => rfl
  case qd2 => exact cell_one _ _ _
  case qd3 => intro u hu; simp at hu; subst hu; rfl
  case qd4 => unfold maxLen; omega
  case qd5 => omega
  case qd6 => exact Nat.le_trans hBW hb4.size
  intro v7 w7 hown7 hgrow7 _ hat7
  obtain ⟨g7, cap7, rfl⟩ := own_next hown7
  obtain ⟨hput, hb7⟩ := boxK_put (x := x) hB4 hown7 hgrow7 (by simpa using hat7)
  have hcb7 := cell_of_one hb7
  have hfb7 := free_of_one hb7
  have hW7 : Below B W w7 := hb4.grown hgrow7 (Nat.le_trans hBW hb4.size) (fun k hk => own_far hB4.own hk)
  have hW8 : Below B W (w7.setCell ⟨bl, 0, none⟩ (.slice (some ⟨g7, 0, none⟩) (0 + 1) cap7)) := hW7.setCell hB4.low _
  have hbW4 : Below W.heap.size W (w1.alloc (.cells #[.int .i64 x] 3)) := hb1.trans (hal.mono hb1.size)
  have HPUT : Hid (InvK B bl P Q (w7.setCell ⟨bl, 0, none⟩ (.slice (some ⟨g7, 0, none⟩) (0 + 1) cap7)) ([] ++ [x]) ∧ ∀ j, P ≤ j → j < Q → (w7.setCell ⟨bl, 0, none⟩ (.slice (some ⟨g7, 0, none⟩) (0 + 1) cap7)).heap[j]? = W.heap[j]?) := invK_put (x := x) hB4 hown7 hgrow7 (by simpa using hat7) hbW4 HOFF.out hlt hq
  clear hown7 hgrow7 hat7 hB4 hB2 hput
  go_wp2
  go_ret2
  exact ⟨rfl, HPUT.out.1, HPUT.out.2, hW8⟩

set_option maxRecDepth 100000 in
set_option maxHeartbeats 8000000 in
theorem kline_next (line : ByteArray) (bl B k : Nat) (v : Value) (acc : List Int) (W : World) (a : Nat → Addr) (h : EnvD0 W a) (hB : BoxK W B bl v acc) (hs : line.size ≤ 100000) (hl : acc.length ≤ 100000) (P Q : Nat) (hoff : ∀ j, P ≤ j → j < Q → v.ownBlock ≠ some j) (hlt : bl < P) (hq : Q ≤ W.heap.size) (hk : acc.length = k + 1) (hkk : k < acc.length) (hr : (keyO line.data.toList).2 = 0) :
    Calls Tryz.prog 210 #[.string line, .pointer (some ⟨bl, 0, none⟩)] W fun e w' => ((keyO line.data.toList).1 ≤ acc[k] → e = .returned (.tuple #[.int .i64 0, errV a 9]) ∧ Below W.heap.size W w') ∧
      (¬ (keyO line.data.toList).1 ≤ acc[k] → e = .returned (.tuple #[.int .i64 (keyO line.data.toList).1, .nilIface]) ∧ InvK B bl P Q w' (acc ++ [(keyO line.data.toList).1]) ∧ (∀ j, P ≤ j → j < Q → w'.heap[j]? = W.heap[j]?) ∧ Below B W w') := by
  obtain ⟨i0, hi0, hz0, hs0, hby0⟩ := Tryz.numInfo
  have hrd := readKey_any line W a h hs
  rw [hr] at hrd
  simp only [errV] at hrd
  obtain ⟨x, hx⟩ : ∃ x, (keyO line.data.toList).1 = x := ⟨_, rfl⟩
  rw [hx] at hrd
  have HX : Hid ((keyO line.data.toList).1 = x) := hx
  clear hx hr
  have hBW : B ≤ W.heap.size := Nat.le_trans hB.low (Nat.le_of_lt (lt_of_block hB.box))
  have HOFF : Hid (∀ j, P ≤ j → j < Q → v.ownBlock ≠ some j) := hoff
  clear hoff
  go_enter Tryz.func210, Tryz.ntmps210
  go_wp2_with fail
  refine hrd.mono ?_
  rintro e w1 ⟨rfl, hb1⟩
  clear hrd
  have hB2 := hB.below hb1
  have hnx : ∃ g c, v = .slice (some ⟨g, 0, none⟩) (k + 1) c := own_next (n := k) (by rw [← hk]; exact hB2.own)
  obtain ⟨g, cp, rfl⟩ := hnx
  have hcb := cell_of_one hB2.box
  have hfb := free_of_one hB2.box
  have hka : KeysAt w1 (.slice (some ⟨g, 0, none⟩) (k + 1) cp) acc := keysAt_own hB2.own
  have p0 : w1.cell? ⟨g, k, none⟩ = some (.int .i64 acc[k]) := by
    rcases hka with ⟨_, _, e, e'⟩ | ⟨b, o, cap2, e, hcells⟩
    · rw [e'] at hk; simp at hk
    · injection e with e1
      injection e1 with e1
      injection e1 with e1 e2
      subst e1 e2
      have := hcells k hkk
      simpa using this
  clear hB hka
  have HY : Hid (∃ y, acc[k] = y) := ⟨_, rfl⟩
  obtain ⟨y, hy⟩ := HY.out
  have HYY : Hid (acc[k] = y) := hy
  rw [hy] at p0
  clear hy HY
  have hi1 : (0 : Int) < (k : Int) + 1 := by omega
  have hi3 : (k : Int) < (k : Int) + 1 := by omega
  have hi4 : (0 : Int) ≤ (k : Int) := by omega
  have hi5 : IntKind.i64.wrap (k : Int) = (k : Int) := IntWalk.i64_in _ (by omega)
  have HKK : Hid (acc.length = k + 1) := hk
  have HHL : Hid (acc.length ≤ 100000) := hl
  clear hk hl
  by_cases hxy : x ≤ y
  · have ho := (h.below hb1).order
    clear hB2 hfb
    go_wp2
    go_quiet (fail)
    go_wp2
    go_ret2
    refine ⟨fun _ => ⟨rfl, below_drewN hb1 _⟩, fun h9 => ?_⟩
    rw [HX.out, HYY.out] at h9
    omega
  · have hal : Below w1.heap.size w1 (w1.alloc (.cells #[.int .i64 x] 3)) := (Below.refl _ _).alloc (Nat.le_refl _) _
    have hb4 : Below B W (w1.alloc (.cells #[.int .i64 x] 3)) := (hb1.trans (hal.mono hb1.size)).mono hBW
    have HB4 : Hid (BoxK (w1.alloc (.cells #[.int .i64 x] 3)) B bl (.slice (some ⟨g, 0, none⟩) (k + 1) cp) acc) := hB2.below hal
    clear hB2
    go_wp2_with (at_builtin; refine wpList_append_own_at _ rfl _ _ 50 rfl B 3 i0 (.int .i64 0) 1 8 Tryz.underlying50 hi0 hz0 hs0 hby0 rfl (by decide) (.slice (some ⟨g, 0, none⟩) (k + 1) cp) acc.length (acc.map (Value.int .i64)) rfl HB4.out.own ⟨w1.heap.size, 0, none⟩ 1 1 [.int .i64 x] rfl ?qd1 ?qd2 ?qd3 ?qd4 ?qd5 ?qd6 ?_)
    case qd1 => rfl
    case qd2 => exact cell_one _ _ _
    case qd3 => intro u hu; simp at hu; subst hu; rfl
    case qd4 => have := HHL.out; unfold maxLen; omega
    case qd5 => have := HHL.out; omega
    case qd6 => exact Nat.le_trans hBW hb4.size
    intro v7 w7 hown7 hgrow7 _ hat7
    obtain ⟨g7, cap7, rfl⟩ := own_next hown7
    obtain ⟨hput, hb7⟩ := boxK_put (x := x) HB4.out hown7 hgrow7 (by simpa using hat7)
    have hcb7 := cell_of_one hb7
    have hfb7 := free_of_one hb7
    have hW7 : Below B W w7 := hb4.grown hgrow7 (Nat.le_trans hBW hb4.size) (fun k hk => own_far HB4.out.own hk)
    have hW8 : Below B W (w7.setCell ⟨bl, 0, none⟩ (.slice (some ⟨g7, 0, none⟩) (acc.length + 1) cap7)) := hW7.setCell HB4.out.low _
    have hbW4 : Below W.heap.size W (w1.alloc (.cells #[.int .i64 x] 3)) := hb1.trans (hal.mono hb1.size)
    have HPUT : Hid (InvK B bl P Q (w7.setCell ⟨bl, 0, none⟩ (.slice (some ⟨g7, 0, none⟩) (acc.length + 1) cap7)) (acc ++ [x]) ∧ ∀ j, P ≤ j → j < Q → (w7.setCell ⟨bl, 0, none⟩ (.slice (some ⟨g7, 0, none⟩) (acc.length + 1) cap7)).heap[j]? = W.heap[j]?) := invK_put (x := x) HB4.out hown7 hgrow7 (by simpa using hat7) hbW4 HOFF.out hlt hq
    clear hown7 hgrow7 hat7 hput
    go_wp2
    go_ret2
    refine ⟨fun h9 => ?_, fun _ => ⟨by rw [HX.out]; rfl, by rw [HX.out]; exact HPUT.out.1, HPUT.out.2, hW8⟩⟩
    rw [HX.out, HYY.out] at h9
    omega

theorem taker_keys (a : Nat → Addr) (bl B P Q : Nat) (hBP : B ≤ P) : Taker goneK a (fun W => EnvD0 W a) 210 bl B P Q (InvK B bl P Q) where
  env := fun h => h
  ent := enters_of Tryz.func210 (by kernel_rfl) rfl
  low := hBP
  keep := fun h hb => h.keep hb
  set := fun j o u h1 h2 h => h.set j o u h1 h2
  take := fun W line acc hE hI hQ hs hl => by
    have HI : Hid (InvK B bl P Q W acc) := hI
    obtain ⟨⟨v, hv, ho⟩, hlt, hq⟩ := hI
    have hBW : B ≤ W.heap.size := Nat.le_trans hv.low (Nat.le_of_lt (lt_of_block hv.box))
    show Calls _ _ _ _ fun e w' => Below B W w' ∧ _ ∧ ((stepE goneK acc line.data.toList ≠ 0 ∧ _) ∨ (stepE goneK acc line.data.toList = 0 ∧ _))
    have hst : stepE goneK acc line.data.toList = if (keyO line.data.toList).2 ≠ 0 then (keyO line.data.toList).2 else if acc ≠ [] ∧ decide ((keyO line.data.toList).1 ≤ acc.getLastD 0) = true then 9 else 0 := rfl
    by_cases hr : (keyO line.data.toList).2 ≠ 0
    · rw [if_pos hr] at hst
      refine (kline_bad line bl W a hE hs hr).mono fun e w' ⟨he, hb⟩ => ⟨hb.mono hBW, fun j h1 h2 => hb.block j (by omega), Or.inl ⟨by rw [hst]; exact hr, by rw [he, hst], HI.out.keep hb⟩⟩
    · have hr0 : (keyO line.data.toList).2 = 0 := Classical.byContradiction hr
      rw [if_neg hr] at hst
      by_cases hac : acc = []
      · subst hac
        rw [if_neg (by simp)] at hst
        exact (kline_first line bl B v W a hE hv P Q ho hlt hq hs hr0).mono fun e w' ⟨he, hi, hf, hb⟩ => ⟨hb, hf, Or.inr ⟨hst, he, hi⟩⟩
      · obtain ⟨k, hk⟩ : ∃ k, acc.length = k + 1 := ⟨acc.length - 1, by have := List.length_pos_iff.2 hac; omega⟩
        have hkk : k < acc.length := by omega
        rw [last_is acc k _ hk hkk] at hst
        refine (kline_next line bl B k v acc W a hE hv hs hl P Q ho hlt hq hk hkk hr0).mono fun e w' ⟨h1, h2⟩ => ?_
        by_cases hb : (keyO line.data.toList).1 ≤ acc[k]
        · rw [if_pos ⟨hac, by simpa using hb⟩] at hst
          obtain ⟨he, hbl⟩ := h1 hb
          exact ⟨hbl.mono hBW, fun j q1 q2 => hbl.block j (by omega), Or.inl ⟨by rw [hst]; decide, by rw [he, hst], HI.out.keep hbl⟩⟩
        · rw [if_neg (fun e => hb (by simpa using e.2))] at hst
          obtain ⟨he, hi, hf, hbl⟩ := h2 hb
          exact ⟨hbl, hf, Or.inr ⟨hst, he, hi⟩⟩

def NewAt (w : World) (v : Value) : Prop := ∀ k, v.ownBlock = some k → w.heap.size ≤ k

def GonePost (w : World) (a : Nat → Addr) (D : List Int × Nat × Option Nat) (e : Ending) (w' : World) : Prop :=
  Below w.heap.size w w' ∧ ((D.2.1 = 0 ∧ ∃ v, e = .returned (.tuple #[v, .nilIface]) ∧ KeysAt w' v D.1 ∧ NewAt w v) ∨
    (D.2.1 ≠ 0 ∧ D.1 = [] ∧ D.2.2 = none ∧ e = .returned (.tuple #[.slice none 0 0, errV a D.2.1])) ∨
    (D.2.1 ≠ 0 ∧ D.1 = [] ∧ ∃ at_, D.2.2 = some at_ ∧ ∃ fb, e = .returned (.tuple #[.slice none 0 0, .iface 92 (.pointer (some ⟨fb, 0, none⟩))]) ∧ w'.cell? ⟨fb, 0, none⟩ = some (.int .i64 at_) ∧ w'.cell? ⟨fb, 1, none⟩ = some (errV a D.2.1)))

set_option maxRecDepth 100000 in
set_option maxHeartbeats 8000000 in
theorem gone_any (s : ByteArray) (w : World) (a : Nat → Addr) (h : EnvD0 w a) (hs : s.size ≤ maxLen) :
    Calls Tryz.prog 174 #[.string s] w fun e w' => GonePost w a (goneO s.data.toList) e w' := by
  have hal : Below w.heap.size w (w.alloc (.cells #[.slice none 0 0] 50)) := (Below.refl _ _).alloc (Nat.le_refl _) _
  have hbox : BoxK (w.alloc (.cells #[.slice none 0 0] 50)) w.heap.size w.heap.size (.slice none 0 0) [] := ⟨heap_alloc_new _ _, World.ownsRow_nil _ _ _ _, by simp [Value.ownBlock], Nat.le_refl _⟩
  have hsz : (w.alloc (.cells #[.slice none 0 0] 50)).heap.size = w.heap.size + 1 := by simp
  have hrl := readLines_any goneK ⟨#[103, 111, 110, 101]⟩ s rfl (w.alloc (.cells #[.slice none 0 0] 50)) a (fun W => EnvD0 W a) 210 w.heap.size w.heap.size (fun Q => InvK w.heap.size w.heap.size (w.heap.size + 1) Q) (by omega) (fun W' hW => h.below (hal.trans hW))
    (fun Q => by rw [hsz]; exact taker_keys a w.heap.size w.heap.size (w.heap.size + 1) Q (Nat.le_succ _))
    (fun Q W' hW hQ => ⟨⟨_, hbox.below hW, fun j _ _ => by simp [Value.ownBlock]⟩, Nat.lt_succ_self _, hQ⟩) hs
  have e0 : goneO s.data.toList = readG goneK s.data.toList := rfl
  rw [e0]
  generalize readG goneK s.data.toList = D at hrl ⊢
  clear hbox hsz e0
  go_enter Tryz.func174, Tryz.ntmps174
  go_wp2_with fail
  generalize w.alloc (.cells #[.slice none 0 0] 50) = WA at hrl hal ⊢
  refine hrl.mono ?_
  rintro e w1 ⟨hb1, hres⟩
  clear hrl
  have hB1 : Below w.heap.size w w1 := hal.trans hb1
  rcases hres with ⟨h0, rfl, Q, hinv⟩ | ⟨h0, h1, h2, rfl⟩ | ⟨h0, h1, at_, h2, fb, rfl, c0, c1⟩
  · obtain ⟨⟨v, hbx, _⟩, _, _⟩ := hinv
    have hc := cell_of_one hbx.box
    have hro := keysAt_own hbx.own
    obtain ⟨q, cp, rfl⟩ := own_shape hbx.own
    have HRO : Hid (KeysAt w1 (.slice q D.1.length cp) D.1) := hro
    have HNEW : Hid (NewAt w (.slice q D.1.length cp)) := fun k hk => (hbx.own.lt k hk).1
    clear hbx hro
    obtain ⟨LL, hLL⟩ : ∃ LL, D.1.length = LL := ⟨_, rfl⟩
    have HLL : Hid (D.1.length = LL) := hLL
    rw [hLL] at hc HRO HNEW
    clear hLL
    go_wp2
    go_ret2
    exact ⟨hB1, Or.inl ⟨h0, _, rfl, HRO.out, HNEW.out⟩⟩
  · obtain ⟨E, hE⟩ : ∃ E, D.2.1 = E + 1 := ⟨D.2.1 - 1, by omega⟩
    have HE : Hid (D.2.1 = E + 1) := hE
    rw [hE]
    simp only [errV]
    clear hE
    go_wp2
    go_ret2
    exact ⟨hB1, Or.inr (Or.inl ⟨h0, h1, h2, by rw [HE.out]; rfl⟩)⟩
  · have C0 : Hid (w1.cell? ⟨fb, 0, none⟩ = some (.int .i64 at_)) := c0
    have C1 : Hid (w1.cell? ⟨fb, 1, none⟩ = some (errV a D.2.1)) := c1
    clear c0 c1
    go_wp2
    go_ret2
    exact ⟨hB1, Or.inr (Or.inr ⟨h0, h1, at_, h2, fb, rfl, C0.out, C1.out⟩)⟩

end Go.Proofs.YtdhkdjlgmbejnaaGreatDoor
namespace Go.Proofs.YtdhkdjlgmbejnaaGreatDoor
open Go.RowKit Go.Extern.Stop Go.Stop Go.Extern Go.Sort Go.Shelf Go.Lib

structure EnvF (w : World) (a : Nat → Addr) : Prop where
  data : EnvD w a
  kind : w.cell? ⟨3, 0, none⟩ = some (.iface 327 (.pointer (some (a 3))))

theorem EnvF.below {w w' : World} {a : Nat → Addr} (h : EnvF w a) (hb : Below w.heap.size w w') : EnvF w' a := ⟨h.data.below hb, below_keep hb h.kind⟩

structure EnvN (w : World) (a : Nat → Addr) : Prop where
  base : EnvS w
  bound : w.cell? ⟨2, 0, none⟩ = some (.iface 327 (.pointer (some (a 1))))
  name : w.cell? ⟨6, 0, none⟩ = some (.iface 327 (.pointer (some (a 4))))

theorem EnvN.below {w w' : World} {a : Nat → Addr} (h : EnvN w a) (hb : Below w.heap.size w w') : EnvN w' a := ⟨h.base.below hb, below_keep hb h.bound, below_keep hb h.name⟩
theorem Env.n {w : World} {a : Nat → Addr} (h : Env w a) : EnvN w a := ⟨h.s, h.bound, h.name⟩

structure EnvK (w : World) (a : Nat → Addr) : Prop where
  env : EnvN w a
  kind : w.cell? ⟨3, 0, none⟩ = some (.iface 327 (.pointer (some (a 3))))

theorem EnvK.below {w w' : World} {a : Nat → Addr} (h : EnvK w a) (hb : Below w.heap.size w w') : EnvK w' a := ⟨h.env.below hb, below_keep hb h.kind⟩
theorem EnvF.lean {w : World} {a : Nat → Addr} (h : EnvF w a) : EnvK w a := ⟨h.data.env.n, h.kind⟩

def flV (f : Fl) : Value := .agg #[.string f.1, .string f.2.1, .int .i64 f.2.2.1, .int .i64 f.2.2.2.1, .int .i64 f.2.2.2.2.1, .int .i64 f.2.2.2.2.2]

theorem counts_any (n : Int) (w : World) : Calls Tryz.prog 173 #[.int .i64 n] w fun e w' => e = .returned (.bool (cntB n)) ∧ w' = w := by
  by_cases h1 : 1 ≤ n
  · by_cases h2 : n ≤ 1073741824
    · have hr : cntB n = true := by simp [cntB, h1, h2]
      rw [hr]
      go_enter Tryz.func173, Tryz.ntmps173
      go_wp2
      go_ret
      exact ⟨rfl, rfl⟩
    · have hr : cntB n = false := by simp [cntB, h2]
      rw [hr]
      go_enter Tryz.func173, Tryz.ntmps173
      go_wp2
      go_ret
      exact ⟨rfl, rfl⟩
  · have hr : cntB n = false := by simp [cntB, h1]
    rw [hr]
    go_enter Tryz.func173, Tryz.ntmps173
    go_wp2
    go_ret
    exact ⟨rfl, rfl⟩

theorem pathR_none {s : List UInt8} (h : pathO s = none) : pathR s = ([], 0, 5) := by unfold pathR; rw [h]
theorem pathR_some {s : List UInt8} {g : Bool} {n : Int} (h : pathO s = some (g, n)) : pathR s = (kindL g, n, 0) := by unfold pathR; rw [h]

theorem bytes_data (l : List UInt8) : (bytesOf l).data.toList = l := by simp [bytesOf]

set_option maxRecDepth 100000 in
set_option maxHeartbeats 4000000 in
theorem fnumber_n (p : ByteArray) (w : World) (a : Nat → Addr) (h : EnvN w a) (hp : p.size ≤ 100000) :
    Calls Tryz.prog 119 #[.string p] w fun e w' => e = .returned (.tuple #[.string (bytesOf (pathR p.data.toList).1), .int .i64 (pathR p.data.toList).2.1, errV a (pathR p.data.toList).2.2]) ∧ Below w.heap.size w w' := by
  obtain ⟨m, hm⟩ := h.base.maxl
  have hcut := Tryz.strings_Cut p ⟨#[47]⟩ m w (by omega) hm
  have hpc := path_cut p.data.toList
  have hWs : (Lib.cut p.data.toList [47]).2.1.length ≤ p.size := by
    rw [← size_list]
    rcases cut_cases 47 p.data.toList with ⟨_, hc⟩ | ⟨x, y, hxy, _, hc⟩
    · rw [hc]; simp
    · rw [hc, hxy]; simp; omega
  have eK : (⟨(Lib.cut p.data.toList [47]).1.toArray⟩ : ByteArray) = bytesOf (Lib.cut p.data.toList [47]).1 := rfl
  have eW : (⟨(Lib.cut p.data.toList [47]).2.1.toArray⟩ : ByteArray) = bytesOf (Lib.cut p.data.toList [47]).2.1 := rfl
  dsimp only at hcut
  rw [eK, eW] at hcut
  clear eK eW hm
  generalize Lib.cut p.data.toList [47] = C at hcut hpc hWs
  obtain ⟨kL, wL, found⟩ := C
  dsimp only at hcut hpc hWs
  have hnum := fun W (hW : EnvS W) => number_s (bytesOf wL) W hW (by rw [bytes_len]; unfold maxLen; omega)
  rw [bytes_data] at hnum
  have hKd : (bytesOf kL).data.toList = kL := bytes_data kL
  generalize hkB : bytesOf kL = kB at hcut hKd
  have HKB : Hid (bytesOf kL = kB) := hkB
  clear hkB
  generalize bytesOf wL = wB at hcut hnum
  have HPC : Hid (pathO p.data.toList = if kL = kData then (pathN wL).map fun n => (false, n) else if kL = kGone then (pathN wL).map fun n => (true, n) else none) := hpc
  clear hpc hWs
  go_enter Tryz.func119, Tryz.ntmps119
  go_wp2_with fail
  refine hcut.mono ?_
  rintro e w1 ⟨rfl, q, rfl⟩
  clear hcut
  have hB1 : Below w.heap.size w (w.drewN q) := below_drewN (Below.refl _ _) q
  have hn1 := hnum _ (h.below hB1).base
  clear hnum
  have bad : ∀ (b : Bool), pathO p.data.toList = none → ∀ W, Below w.heap.size w W → (Ending.returned (.tuple #[.string ⟨#[]⟩, .int .i64 0, .iface 327 (.pointer (some (a 4)))]) = Ending.returned (.tuple #[.string (bytesOf (pathR p.data.toList).1), .int .i64 (pathR p.data.toList).2.1, errV a (pathR p.data.toList).2.2]) ∧ Below w.heap.size w W) := fun _ hp0 W hW => by
    rw [pathR_none hp0]; exact ⟨rfl, hW⟩
  have BAD : Hid (∀ (b : Bool), pathO p.data.toList = none → ∀ W, Below w.heap.size w W → (Ending.returned (.tuple #[.string ⟨#[]⟩, .int .i64 0, .iface 327 (.pointer (some (a 4)))]) = Ending.returned (.tuple #[.string (bytesOf (pathR p.data.toList).1), .int .i64 (pathR p.data.toList).2.1, errV a (pathR p.data.toList).2.2]) ∧ Below w.heap.size w W)) := bad
  clear bad
  by_cases hk : ∃ g, kL = kindL g
  · obtain ⟨g, hg⟩ := hk
    unfold numR at hn1
    have HP : Hid (pathO p.data.toList = (pathN wL).map fun n => (g, n)) := by
      show _ = _
      rw [HPC.out]
      cases g
      · rw [if_pos (show kL = kData from hg)]
      · rw [if_neg (by rw [hg]; decide), if_pos (show kL = kGone from hg)]
    cases hn : numO wL with
    | none =>
      rw [hn] at hn1
      dsimp only at hn1
      have HN : Hid (pathO p.data.toList = none) := by
        show _ = _
        rw [HP.out]; unfold pathN; rw [hn]; rfl
      clear hn
      go_wp2_with fail
      refine hn1.mono ?_
      rintro e w2 ⟨rfl, hb2⟩
      clear hn1
      have hB2 : Below w.heap.size w w2 := hB1.trans (hb2.mono hB1.size)
      have et := (h.below hB2).name
      cases g
      · have d1 := eqB_of (hKd.trans hg)
        simp only [kindL, Bool.false_eq_true, if_false, kData] at d1
        clear hg hKd
        go_wp2
        go_region
        go_wp2
        go_ret3
        exact BAD.out true HN.out _ hB2.drew
      · have d1 := neB_of (s := kB) (l := [100, 97, 116, 97]) (by rw [hKd, hg]; decide)
        have d2 := eqB_of (hKd.trans hg)
        simp only [kindL, if_true, kGone] at d2
        clear hg hKd
        go_wp2
        go_region
        go_wp2
        go_ret3
        exact BAD.out true HN.out _ hB2.drew
    | some n =>
      rw [hn] at hn1
      dsimp only at hn1
      have HN : Hid (numO wL = some n) := hn
      clear hn
      go_wp2_with fail
      refine hn1.mono ?_
      rintro e w2 ⟨rfl, hb2⟩
      clear hn1
      have hB2 : Below w.heap.size w w2 := hB1.trans (hb2.mono hB1.size)
      have et := (h.below hB2).name
      have hcn := counts_any n w2
      cases hc : cntB n with
      | false =>
        rw [hc] at hcn
        have HO : Hid (pathO p.data.toList = none) := by
          show _ = _
          rw [HP.out]; unfold pathN; rw [HN.out]; simp [hc]
        clear hc
        cases g
        · have d1 := eqB_of (hKd.trans hg)
          simp only [kindL, Bool.false_eq_true, if_false, kData] at d1
          clear hg hKd
          go_wp2_with (go_at_call 173; refine hcn.mono ?_; rintro e w' ⟨rfl, rfl⟩)
          go_region
          go_wp2
          go_ret3
          exact BAD.out true HO.out _ hB2.drew
        · have d1 := neB_of (s := kB) (l := [100, 97, 116, 97]) (by rw [hKd, hg]; decide)
          have d2 := eqB_of (hKd.trans hg)
          simp only [kindL, if_true, kGone] at d2
          clear hg hKd
          go_wp2_with (go_at_call 173; refine hcn.mono ?_; rintro e w' ⟨rfl, rfl⟩)
          go_region
          go_wp2
          go_ret3
          exact BAD.out true HO.out _ hB2.drew
      | true =>
        rw [hc] at hcn
        have HO : Hid (pathO p.data.toList = some (g, n)) := by
          show _ = _
          rw [HP.out]; unfold pathN; rw [HN.out]; simp [hc]
        have HKG : Hid (kB = bytesOf (kindL g)) := by
          show _ = _
          rw [← HKB.out, hg]
        clear hc
        cases g
        · have d1 := eqB_of (hKd.trans hg)
          simp only [kindL, Bool.false_eq_true, if_false, kData] at d1
          clear hg hKd
          go_wp2_with (go_at_call 173; refine hcn.mono ?_; rintro e w' ⟨rfl, rfl⟩)
          go_ret3
          exact ⟨by rw [pathR_some HO.out, HKG.out]; rfl, hB2⟩
        · have d1 := neB_of (s := kB) (l := [100, 97, 116, 97]) (by rw [hKd, hg]; decide)
          have d2 := eqB_of (hKd.trans hg)
          simp only [kindL, if_true, kGone] at d2
          clear hg hKd
          go_wp2_with (go_at_call 173; refine hcn.mono ?_; rintro e w' ⟨rfl, rfl⟩)
          go_ret3
          exact ⟨by rw [pathR_some HO.out, HKG.out]; rfl, hB2⟩
  · have hk1 : kL ≠ kData := fun e => hk ⟨false, e⟩
    have hk2 : kL ≠ kGone := fun e => hk ⟨true, e⟩
    have HN : Hid (pathO p.data.toList = none) := by
      show _ = _
      rw [HPC.out, if_neg hk1, if_neg hk2]
    have d1 := neB_of (s := kB) (l := [100, 97, 116, 97]) (by rw [hKd]; exact hk1)
    have d2 := neB_of (s := kB) (l := [103, 111, 110, 101]) (by rw [hKd]; exact hk2)
    clear hk hk1 hk2 hKd
    generalize numR wL = R at hn1
    obtain ⟨nv, bv⟩ := R
    dsimp only at hn1
    go_wp2_with fail
    refine hn1.mono ?_
    rintro e w2 ⟨rfl, hb2⟩
    clear hn1
    have hB2 : Below w.heap.size w w2 := hB1.trans (hb2.mono hB1.size)
    have et := (h.below hB2).name
    go_wp2
    go_region
    go_wp2
    go_ret3
    exact BAD.out true HN.out _ hB2.drew

theorem fnumber_any (p : ByteArray) (w : World) (a : Nat → Addr) (h : Env w a) (hp : p.size ≤ 100000) :
    Calls Tryz.prog 119 #[.string p] w fun e w' => e = .returned (.tuple #[.string (bytesOf (pathR p.data.toList).1), .int .i64 (pathR p.data.toList).2.1, errV a (pathR p.data.toList).2.2]) ∧ Below w.heap.size w w' :=
  fnumber_n p w a h.n hp

set_option maxRecDepth 100000 in
set_option maxHeartbeats 2000000 in
theorem partOf_any (g : Bool) (q : ByteArray) (w : World) (hq : q.size ≤ maxLen) :
    Calls Tryz.prog 182 #[.string (bytesOf (kindL g)), .string q] w fun e w' => e = .returned (.bool (partB g q.data.toList)) ∧ w' = w := by
  cases g
  · have hw : Calls Tryz.prog 180 #[.string q, .int .i64 12] w fun e w' => e = .returned (.bool (partB false q.data.toList)) ∧ w' = w := word_any q 12 w hq (by omega)
    generalize partB false q.data.toList = r at hw ⊢
    have d1 := neB_of (s := bytesOf (kindL false)) (l := [103, 111, 110, 101]) (by rw [bytes_data]; decide)
    generalize bytesOf (kindL false) = kB at d1
    go_enter Tryz.func182, Tryz.ntmps182
    go_wp2_with (go_at_call 180; refine hw.mono ?_; rintro e w' ⟨rfl, rfl⟩)
    go_ret
    exact ⟨rfl, rfl⟩
  · have d1 := eqB_of (s := bytesOf (kindL true)) (l := [103, 111, 110, 101]) (by rw [bytes_data]; rfl)
    generalize bytesOf (kindL true) = kB at d1
    by_cases h : q.data.toList = [45]
    · have hr : partB true q.data.toList = true := by simp [partB, h]
      rw [hr]
      have d2 := eqB_of h
      clear hr h
      go_enter Tryz.func182, Tryz.ntmps182
      go_wp2
      go_ret
      exact ⟨rfl, rfl⟩
    · have hr : partB true q.data.toList = false := by simp [partB, h]
      rw [hr]
      have d2 := neB_of h
      clear hr h
      go_enter Tryz.func182, Tryz.ntmps182
      go_wp2
      go_ret
      exact ⟨rfl, rfl⟩

end Go.Proofs.YtdhkdjlgmbejnaaGreatDoor
