/-
  The contracts of gone.readKey, of the function that gone.Read hands over, of gone.Read and gone.Has.
-/
import Derived.Test.YtpkoefpdpoikkaaGreatDoorRefWords
import Derived.Test.YtpkoefpdpoikkaaGreatDoorDataFile
namespace Go.Proofs.YtpkoefpdpoikkaaGreatDoor
open Go.RowKit Go.Extern.Stop Go.Stop Go.Extern Go.Sort Go.Shelf Go.Lib

theorem Tryz.numInfo3 : (Tryz.prog.info? 3).map (fun i => (i.zero, i.size, i.bytes)) = some (some (.int .i64 0), 1, 8) := by kernel_rfl
theorem Tryz.numInfo : ∃ i0 : TypeInfo, Tryz.prog.info? 3 = some i0 ∧ i0.zero = some (.int .i64 0) ∧ i0.size = 1 ∧ i0.bytes = 8 := by
  obtain ⟨i, hi, h⟩ := Option.map_eq_some_iff.1 Tryz.numInfo3
  simp only [Prod.mk.injEq] at h
  exact ⟨i, hi, h.1, h.2.1, h.2.2⟩

theorem own_cell {w : World} {base : Nat} {t : TypeId} {v : Value} {n : Nat} {l : List Value} (h : w.ownsRow base t 1 v n l) (hn : n ≠ 0) : ∃ g cap, v = .slice (some ⟨g, 0, none⟩) n cap ∧ n ≤ cap ∧ ∀ j u, l[j]? = some u → w.cell? ⟨g, j, none⟩ = some u := by
  obtain ⟨hl, h⟩ := h
  rcases h with ⟨hv, hn'⟩ | ⟨g, cap, cur, rfl, _, hg, hc, _, _, ht⟩
  · exact absurd hn' hn
  · refine ⟨g, cap, rfl, hc, fun j u hu => ?_⟩
    have hj : j < l.length := by
      rcases Nat.lt_or_ge j l.length with h' | h'
      · exact h'
      · rw [List.getElem?_eq_none h'] at hu; cases hu
    rw [← ht, List.getElem?_take, if_pos (by omega)] at hu
    simp only [World.cell?, hg]
    simpa using hu

def NumsOf (w : World) (e : Ending) : Option Int → Option Int → Prop
  | some x, some y => ∃ g c, e = .returned (.tuple #[.slice (some ⟨g, 0, none⟩) 2 c, .bool true]) ∧ w.cell? ⟨g, 0, none⟩ = some (.int .i64 x) ∧ w.cell? ⟨g, 1, none⟩ = some (.int .i64 y)
  | _, _ => e = .returned (.tuple #[.slice none 0 0, .bool false])

set_option maxRecDepth 100000 in
set_option maxHeartbeats 2000000 in
theorem numbersOf_any (b o cap : Nat) (K V : ByteArray) (w : World) (hK : w.cell? ⟨b, o, none⟩ = some (.string K)) (hV : w.cell? ⟨b, o + 1, none⟩ = some (.string V)) (hsK : K.size ≤ maxLen) (hsV : V.size ≤ maxLen) :
    Calls Tryz.prog 83 #[.slice (some ⟨b, o, none⟩) 2 cap] w fun e w' => NumsOf w' e (numO K.data.toList) (numO V.data.toList) ∧ Below w.heap.size w w' := by
  obtain ⟨i0, hi0, hz0, hs0, hby0⟩ := Tryz.numInfo
  have hNK := fun W => numberOf_any K W hsK
  have hNV := fun W => numberOf_any V W hsV
  unfold numR at hNK hNV
  cases hk : numO K.data.toList with
  | none =>
    rw [hk] at hNK
    have he : ∀ W e y, NumsOf W e none y = (e = .returned (.tuple #[.slice none 0 0, .bool false])) := fun W e y => by cases y <;> rfl
    simp only [he]
    clear hNV hV he hk
    dsimp only at hNK
    go_enter Tryz.func83, Tryz.ntmps83
    go_wp2
    refine wp_loop_rounds 3 ?_
    rw [rounds_succ]
    go_wp2_with (go_at_call 77; refine (hNK _).mono ?_; rintro e w1 ⟨rfl, hw⟩; rw [hw]; clear hw)
    go_ret2
    exact ⟨rfl, Below.refl _ _⟩
  | some x =>
    rw [hk] at hNK
    clear hk
    dsimp only at hNK
    have hb0 : Below w.heap.size w (w.alloc (.cells #[.int .i64 x] 3)) := (Below.refl _ _).alloc (Nat.le_refl _) _
    have h00 : (w.alloc (.cells #[.int .i64 x] 3)).ownsRow w.heap.size 3 1 (.slice none 0 0) 0 [] := World.ownsRow_nil _ _ _ _
    generalize hv : numO V.data.toList = y at hNV ⊢
    clear hv
    go_enter Tryz.func83, Tryz.ntmps83
    go_wp2
    refine wp_loop_rounds 3 ?_
    rw [rounds_succ]
    go_wp2_with (first
      | (go_at_call 77; refine (hNK _).mono ?_; rintro e w1 ⟨rfl, hw⟩; rw [hw]; clear hw)
      | (at_builtin; refine wpList_append_own _ rfl _ _ 93 rfl w.heap.size 3 i0 (.int .i64 0) 1 8 Tryz.underlying93 hi0 hz0 hs0 hby0 rfl (by decide) (.slice none 0 0) 0 [] rfl ?qc0 ⟨w.heap.size, 0, none⟩ 1 1 [.int .i64 x] rfl ?qc1 ?qc2 ?qc3 ?qc4 ?qc5 ?qc6 ?_))
    case qc0 => exact h00
    case qc1 => rfl
    case qc2 => exact cell_one _ _ _
    case qc3 => intro u hu; simp at hu; subst hu; rfl
    case qc4 => unfold maxLen; omega
    case qc5 => omega
    case qc6 => exact hb0.size
    intro v1 w4 hown4 hgrow hnil
    have hb4 : Below w.heap.size w w4 := hb0.grown hgrow hb0.size (fun k hk => by simp [Value.ownBlock] at hk)
    have hV4 := below_keep hb4 hV
    have OW4 : Hid (w4.ownsRow w.heap.size 3 1 v1 1 [.int .i64 x]) := hown4
    clear hown4 hgrow hnil h00 hV hK hNK
    go_wp2
    rw [rounds_succ]
    cases y with
    | none =>
      dsimp only at hNV
      go_wp2_with (go_at_call 77; refine (hNV _).mono ?_; rintro e w1 ⟨rfl, hw⟩; rw [hw]; clear hw)
      go_ret2
      exact ⟨rfl, hb4⟩
    | some y =>
      dsimp only at hNV
      have hb5 : Below w4.heap.size w4 (w4.alloc (.cells #[.int .i64 y] 3)) := (Below.refl _ _).alloc (Nat.le_refl _) _
      have hb5' : Below w.heap.size w (w4.alloc (.cells #[.int .i64 y] 3)) := hb4.trans (hb5.mono hb4.size)
      go_wp2_with (first
        | (go_at_call 77; refine (hNV _).mono ?_; rintro e w1 ⟨rfl, hw⟩; rw [hw]; clear hw)
        | (at_builtin; refine wpList_append_own _ rfl _ _ 93 rfl w.heap.size 3 i0 (.int .i64 0) 1 8 Tryz.underlying93 hi0 hz0 hs0 hby0 rfl (by decide) v1 1 [.int .i64 x] rfl ?qd0 ⟨w4.heap.size, 0, none⟩ 1 1 [.int .i64 y] rfl ?qd1 ?qd2 ?qd3 ?qd4 ?qd5 ?qd6 ?_))
      case qd0 => exact own_below OW4.out hb5
      case qd1 => rfl
      case qd2 => exact cell_one _ _ _
      case qd3 => intro u hu; simp at hu; subst hu; rfl
      case qd4 => unfold maxLen; omega
      case qd5 => omega
      case qd6 => exact hb5'.size
      intro v2 w6 hown6 hgrow hnil
      have hb6 : Below w.heap.size w w6 := hb5'.grown hgrow hb5'.size (fun k hk => by
        rcases OW4.out.2 with ⟨e, _⟩ | ⟨g', cap', cur, e, hg', _⟩
        · rw [e] at hk; simp [Value.ownBlock] at hk
        · rw [e] at hk; simp [Value.ownBlock] at hk; omega)
      obtain ⟨g, c, rfl, _, hcl⟩ := own_cell hown6 (by omega)
      have c0 := hcl 0 (.int .i64 x) rfl
      have c1 := hcl 1 (.int .i64 y) rfl
      clear hown6 hgrow hnil hcl
      go_wp2
      rw [rounds_succ]
      go_wp2
      go_ret2
      exact ⟨⟨g, c, rfl, c0, c1⟩, hb6⟩
end Go.Proofs.YtpkoefpdpoikkaaGreatDoor
namespace Go.Proofs.YtpkoefpdpoikkaaGreatDoor
open Go.RowKit Go.Extern.Stop Go.Stop Go.Extern Go.Sort Go.Shelf Go.Lib

theorem keyO_eq (l : List UInt8) : keyO l = match numO l with
  | none => (0, 1)
  | some n => if inNum n then (n, 0) else (0, 2) := rfl

set_option maxRecDepth 100000 in
set_option maxHeartbeats 1000000 in
theorem readKey_any (line : ByteArray) (w : World) (a : Nat → Addr) (h : EnvD0 w a) (hs : line.size ≤ 100000) :
    Calls Tryz.prog 164 #[.string line] w fun e w' => e = .returned (.tuple #[.int .i64 (keyO line.data.toList).1, errV a (keyO line.data.toList).2]) ∧ Below w.heap.size w w' := by
  have hnm := number_any line w a h.env (by unfold maxLen; omega)
  unfold numR at hnm
  cases hn : numO line.data.toList with
  | none =>
    have HK : Hid (keyO line.data.toList = (0, 1)) := by show _ = _; rw [keyO_eq, hn]
    rw [hn] at hnm
    dsimp only at hnm
    clear hn
    rw [HK.out]
    simp only [errV]
    go_enter Tryz.func164, Tryz.ntmps164
    go_wp2_with fail
    refine hnm.mono ?_
    rintro e w1 ⟨rfl, hb1⟩
    clear hnm
    have ht := (h.below hb1).env.text
    go_wp2
    go_quiet (fail)
    go_wp2
    go_ret2
    exact ⟨rfl, below_drewN hb1 nq⟩
  | some n =>
    rw [hn] at hnm
    dsimp only at hnm
    cases hi : inNum n with
    | true =>
      have HK : Hid (keyO line.data.toList = (n, 0)) := by show _ = _; rw [keyO_eq, hn]; simp [hi]
      have hib := fun W => inBounds_any n W
      rw [hi] at hib
      clear hn hi
      rw [HK.out]
      simp only [errV]
      go_enter Tryz.func164, Tryz.ntmps164
      go_wp2_with fail
      refine hnm.mono ?_
      rintro e w1 ⟨rfl, hb1⟩
      clear hnm
      go_wp2_with fail
      refine (hib _).mono ?_
      rintro e w2 ⟨rfl, rfl⟩
      clear hib
      go_wp2
      go_ret2
      exact ⟨rfl, hb1⟩
    | false =>
      have HK : Hid (keyO line.data.toList = (0, 2)) := by show _ = _; rw [keyO_eq, hn]; simp [hi]
      have hib := fun W => inBounds_any n W
      rw [hi] at hib
      clear hn hi
      rw [HK.out]
      simp only [errV]
      go_enter Tryz.func164, Tryz.ntmps164
      go_wp2_with fail
      refine hnm.mono ?_
      rintro e w1 ⟨rfl, hb1⟩
      clear hnm
      go_wp2_with fail
      refine (hib _).mono ?_
      rintro e w2 ⟨rfl, rfl⟩
      clear hib
      have ht := (h.below hb1).env.bound
      go_wp2
      go_quiet (fail)
      go_wp2
      go_ret2
      exact ⟨rfl, below_drewN hb1 nq⟩

theorem keysAt_own {w : World} {base : Nat} {v : Value} {zs : List Int} (h : w.ownsRow base 3 1 v zs.length (zs.map (Value.int .i64))) : KeysAt w v zs := by
  obtain ⟨hl, h⟩ := h
  rcases h with ⟨hv, hn⟩ | ⟨g, cap, cur, rfl, _, hg, hc, _, _, ht⟩
  · have : zs = [] := List.length_eq_zero_iff.1 hn
    subst this
    exact .inl ⟨none, 0, hv, rfl⟩
  · refine .inr ⟨g, 0, cap, rfl, fun j hj => ?_⟩
    have hu : (zs.map (Value.int .i64))[j]? = some (.int .i64 zs[j]) := by simp [hj]
    rw [← ht, List.getElem?_take, if_pos (by omega)] at hu
    simp only [World.cell?, hg, Nat.zero_add]
    simpa using hu

structure BoxK (W : World) (B bl : Nat) (v : Value) (acc : List Int) : Prop where
  box : W.heap[bl]? = some (.cells #[v] 93 (0, 0))
  own : W.ownsRow B 3 1 v acc.length (acc.map (Value.int .i64))
  off : v.ownBlock ≠ some bl
  low : B ≤ bl

structure InvK (B bl P Q : Nat) (W : World) (acc : List Int) : Prop where
  ex : ∃ v, BoxK W B bl v acc ∧ ∀ j, P ≤ j → j < Q → v.ownBlock ≠ some j
  lt : bl < P
  hq : Q ≤ W.heap.size

theorem BoxK.below {W W' : World} {B bl : Nat} {v : Value} {acc : List Int} (h : BoxK W B bl v acc) (hb : Below W.heap.size W W') : BoxK W' B bl v acc :=
  ⟨(hb.block bl (lt_of_block h.box)).trans h.box, own_below h.own hb, h.off, h.low⟩

theorem InvK.keep {B bl P Q : Nat} {W W' : World} {acc : List Int} (h : InvK B bl P Q W acc) (hb : Below W.heap.size W W') : InvK B bl P Q W' acc := by
  obtain ⟨⟨v, hv, ho⟩, hl, hq⟩ := h
  exact ⟨⟨v, hv.below hb, ho⟩, hl, Nat.le_trans hq hb.size⟩

theorem InvK.set {B bl P Q : Nat} {W : World} {acc : List Int} (j o : Nat) (u : Value) (h1 : P ≤ j) (h2 : j < Q) (h : InvK B bl P Q W acc) : InvK B bl P Q (W.setCell ⟨j, o, none⟩ u) acc := by
  obtain ⟨⟨v, hv, ho⟩, hl, hq⟩ := h
  have hsz : (W.setCell ⟨j, o, none⟩ u).heap.size = W.heap.size := by simp [World.setCell]
  refine ⟨⟨v, ⟨?_, ownsRow_setCell_other hv.own (ho j h1 h2) u, hv.off, hv.low⟩, ho⟩, hl, by omega⟩
  rw [heap_setCell_other _ _ _ _ (by show bl ≠ j; omega)]
  exact hv.box

theorem boxK_put {W w5 : World} {B bl : Nat} {v v' : Value} {acc : List Int} {x : Int} (h : BoxK W B bl v acc) (ho : w5.ownsRow B 3 1 v' (acc.length + 1) (acc.map (Value.int .i64) ++ [.int .i64 x])) (hg : W.grownBy w5 v.ownBlock) (hat : v'.ownBlock = v.ownBlock ∨ v'.ownBlock = some W.heap.size) :
    BoxK (w5.setCell ⟨bl, 0, none⟩ v') B bl v' (acc ++ [x]) ∧ w5.heap[bl]? = some (.cells #[v] 93 (0, 0)) := by
  have hlt := lt_of_block h.box
  have hb5 : w5.heap[bl]? = some (.cells #[v] 93 (0, 0)) := (hg.block bl hlt (fun e => h.off e.symm)).trans h.box
  have hoff : v'.ownBlock ≠ some bl := by
    rcases hat with e | e
    · rw [e]; exact h.off
    · rw [e]; intro e'; have := Option.some.inj e'; omega
  refine ⟨⟨one_setCell hb5, ?_, hoff, h.low⟩, hb5⟩
  rw [List.length_append, List.map_append]
  exact ownsRow_setCell_other ho hoff _

theorem invK_put {W0 W w5 : World} {B bl P Q : Nat} {v v' : Value} {acc : List Int} {x : Int} (h : BoxK W B bl v acc) (ho : w5.ownsRow B 3 1 v' (acc.length + 1) (acc.map (Value.int .i64) ++ [.int .i64 x])) (hg : W.grownBy w5 v.ownBlock) (hat : v'.ownBlock = v.ownBlock ∨ v'.ownBlock = some W.heap.size)
    (hb : Below W0.heap.size W0 W) (hoff : ∀ j, P ≤ j → j < Q → v.ownBlock ≠ some j) (hlt : bl < P) (hq : Q ≤ W0.heap.size) :
    InvK B bl P Q (w5.setCell ⟨bl, 0, none⟩ v') (acc ++ [x]) ∧ ∀ j, P ≤ j → j < Q → (w5.setCell ⟨bl, 0, none⟩ v').heap[j]? = W0.heap[j]? := by
  have hsz : Q ≤ W.heap.size := Nat.le_trans hq hb.size
  have hs5 : W.heap.size ≤ w5.heap.size := hg.size
  refine ⟨⟨⟨v', (boxK_put h ho hg hat).1, fun j h1 h2 e => ?_⟩, hlt, ?_⟩, fun j h1 h2 => ?_⟩
  · rcases hat with e' | e'
    · exact hoff j h1 h2 (e'.symm.trans e)
    · rw [e'] at e; have := Option.some.inj e; omega
  · have : (w5.setCell ⟨bl, 0, none⟩ v').heap.size = w5.heap.size := by simp [World.setCell]
    omega
  · rw [heap_setCell_other _ _ _ _ (by show j ≠ bl; omega), hg.block j (by omega) (fun e => hoff j h1 h2 e.symm)]
    exact hb.block j (by omega)

set_option maxRecDepth 100000 in
set_option maxHeartbeats 2000000 in
theorem kline_bad (line : ByteArray) (bl : Nat) (W : World) (a : Nat → Addr) (h : EnvD0 W a) (hs : line.size ≤ 100000) (hr : (keyO line.data.toList).2 ≠ 0) :
    Calls Tryz.prog 163 #[.string line, .pointer (some ⟨bl, 0, none⟩)] W fun e w' => e = .returned (.tuple #[.int .i64 0, errV a (keyO line.data.toList).2]) ∧ Below W.heap.size W w' := by
  have hrd := readKey_any line W a h hs
  obtain ⟨E, hE⟩ : ∃ E, (keyO line.data.toList).2 = E + 1 := ⟨(keyO line.data.toList).2 - 1, by omega⟩
  rw [hE] at hrd ⊢
  simp only [errV] at hrd ⊢
  generalize (keyO line.data.toList).1 = x at hrd
  clear hr hE
  go_enter Tryz.func163, Tryz.ntmps163
  go_wp2_with fail
  refine hrd.mono ?_
  rintro e w1 ⟨rfl, hb1⟩
  clear hrd
  go_wp2
  go_ret2
  exact ⟨rfl, hb1⟩

set_option maxRecDepth 100000 in
set_option maxHeartbeats 4000000 in
theorem kline_first (line : ByteArray) (bl B : Nat) (v : Value) (W : World) (a : Nat → Addr) (h : EnvD0 W a) (hB : BoxK W B bl v []) (P Q : Nat) (hoff : ∀ j, P ≤ j → j < Q → v.ownBlock ≠ some j) (hlt : bl < P) (hq : Q ≤ W.heap.size) (hs : line.size ≤ 100000) (hr : (keyO line.data.toList).2 = 0) :
    Calls Tryz.prog 163 #[.string line, .pointer (some ⟨bl, 0, none⟩)] W fun e w' => e = .returned (.tuple #[.int .i64 (keyO line.data.toList).1, .nilIface]) ∧ InvK B bl P Q w' [(keyO line.data.toList).1] ∧ (∀ j, P ≤ j → j < Q → w'.heap[j]? = W.heap[j]?) ∧ Below B W w' := by
  obtain ⟨i0, hi0, hz0, hs0, hby0⟩ := Tryz.numInfo
  have hrd := readKey_any line W a h hs
  rw [hr] at hrd
  simp only [errV] at hrd
  obtain ⟨x, hx⟩ : ∃ x, (keyO line.data.toList).1 = x := ⟨_, rfl⟩
  rw [hx] at hrd ⊢
  clear hx hr
  have hBW : B ≤ W.heap.size := Nat.le_trans hB.low (Nat.le_of_lt (lt_of_block hB.box))
  have HOFF : Hid (∀ j, P ≤ j → j < Q → v.ownBlock ≠ some j) := hoff
  clear hoff
  go_enter Tryz.func163, Tryz.ntmps163
  go_wp2_with fail
  refine hrd.mono ?_
  rintro e w1 ⟨rfl, hb1⟩
  clear hrd
  have hB2 := hB.below hb1
  obtain ⟨q, cp, rfl⟩ := own_shape hB2.own
  simp only [List.length_nil] at hB2
  have hcb := cell_of_one hB2.box
  have hfb := free_of_one hB2.box
  clear hB
  have hal : Below w1.heap.size w1 (w1.alloc (.cells #[.int .i64 x] 3)) := (Below.refl _ _).alloc (Nat.le_refl _) _
  have hB4 := hB2.below hal
  have hb4 : Below B W (w1.alloc (.cells #[.int .i64 x] 3)) := (hb1.trans (hal.mono hb1.size)).mono hBW
  go_wp2_with (at_builtin; refine wpList_append_own_at _ rfl _ _ 93 rfl B 3 i0 (.int .i64 0) 1 8 Tryz.underlying93 hi0 hz0 hs0 hby0 rfl (by decide) (.slice q 0 cp) 0 (([] : List Int).map (Value.int .i64)) rfl hB4.own ⟨w1.heap.size, 0, none⟩ 1 1 [.int .i64 x] rfl ?qd1 ?qd2 ?qd3 ?qd4 ?qd5 ?qd6 ?_)
  case qd1 => rfl
  case qd2 => exact cell_one _ _ _
  case qd3 => intro u hu; simp at hu; subst hu; rfl
  case qd4 => unfold maxLen; omega
  case qd5 => omega
  case qd6 => exact Nat.le_trans hBW hb4.size
  intro v7 w7 hown7 hgrow7 _ hat7
  obtain ⟨g7, cap7, rfl⟩ := own_next hown7
  obtain ⟨hput, hb7⟩ := boxK_put (x := x) hB4 hown7 hgrow7 (by simpa using hat7)
  have hcb7 := cell_of_one hb7
  have hfb7 := free_of_one hb7
  have hW7 : Below B W w7 := hb4.grown hgrow7 (Nat.le_trans hBW hb4.size) (fun k hk => own_far hB4.own hk)
  have hW8 : Below B W (w7.setCell ⟨bl, 0, none⟩ (.slice (some ⟨g7, 0, none⟩) (0 + 1) cap7)) := hW7.setCell hB4.low _
  have hbW4 : Below W.heap.size W (w1.alloc (.cells #[.int .i64 x] 3)) := hb1.trans (hal.mono hb1.size)
  have HPUT : Hid (InvK B bl P Q (w7.setCell ⟨bl, 0, none⟩ (.slice (some ⟨g7, 0, none⟩) (0 + 1) cap7)) ([] ++ [x]) ∧ ∀ j, P ≤ j → j < Q → (w7.setCell ⟨bl, 0, none⟩ (.slice (some ⟨g7, 0, none⟩) (0 + 1) cap7)).heap[j]? = W.heap[j]?) := invK_put (x := x) hB4 hown7 hgrow7 (by simpa using hat7) hbW4 HOFF.out hlt hq
  clear hown7 hgrow7 hat7 hB4 hB2 hput
  go_wp2
  go_ret2
  exact ⟨rfl, HPUT.out.1, HPUT.out.2, hW8⟩

set_option maxRecDepth 100000 in
set_option maxHeartbeats 8000000 in
theorem kline_next (line : ByteArray) (bl B k : Nat) (v : Value) (acc : List Int) (W : World) (a : Nat → Addr) (h : EnvD0 W a) (hB : BoxK W B bl v acc) (hs : line.size ≤ 100000) (hl : acc.length ≤ 100000) (P Q : Nat) (hoff : ∀ j, P ≤ j → j < Q → v.ownBlock ≠ some j) (hlt : bl < P) (hq : Q ≤ W.heap.size) (hk : acc.length = k + 1) (hkk : k < acc.length) (hr : (keyO line.data.toList).2 = 0) :
    Calls Tryz.prog 163 #[.string line, .pointer (some ⟨bl, 0, none⟩)] W fun e w' => ((keyO line.data.toList).1 ≤ acc[k] → e = .returned (.tuple #[.int .i64 0, errV a 9]) ∧ Below W.heap.size W w') ∧
      (¬ (keyO line.data.toList).1 ≤ acc[k] → e = .returned (.tuple #[.int .i64 (keyO line.data.toList).1, .nilIface]) ∧ InvK B bl P Q w' (acc ++ [(keyO line.data.toList).1]) ∧ (∀ j, P ≤ j → j < Q → w'.heap[j]? = W.heap[j]?) ∧ Below B W w') := by
  obtain ⟨i0, hi0, hz0, hs0, hby0⟩ := Tryz.numInfo
  have hrd := readKey_any line W a h hs
  rw [hr] at hrd
  simp only [errV] at hrd
  obtain ⟨x, hx⟩ : ∃ x, (keyO line.data.toList).1 = x := ⟨_, rfl⟩
  rw [hx] at hrd
  have HX : Hid ((keyO line.data.toList).1 = x) := hx
  clear hx hr
  have hBW : B ≤ W.heap.size := Nat.le_trans hB.low (Nat.le_of_lt (lt_of_block hB.box))
  have HOFF : Hid (∀ j, P ≤ j → j < Q → v.ownBlock ≠ some j) := hoff
  clear hoff
  go_enter Tryz.func163, Tryz.ntmps163
  go_wp2_with fail
  refine hrd.mono ?_
  rintro e w1 ⟨rfl, hb1⟩
  clear hrd
  have hB2 := hB.below hb1
  have hnx : ∃ g c, v = .slice (some ⟨g, 0, none⟩) (k + 1) c := own_next (n := k) (by rw [← hk]; exact hB2.own)
  obtain ⟨g, cp, rfl⟩ := hnx
  have hcb := cell_of_one hB2.box
  have hfb := free_of_one hB2.box
  have hka : KeysAt w1 (.slice (some ⟨g, 0, none⟩) (k + 1) cp) acc := keysAt_own hB2.own
  have p0 : w1.cell? ⟨g, k, none⟩ = some (.int .i64 acc[k]) := by
    rcases hka with ⟨_, _, e, e'⟩ | ⟨b, o, cap2, e, hcells⟩
    · rw [e'] at hk; simp at hk
    · injection e with e1
      injection e1 with e1
      injection e1 with e1 e2
      subst e1 e2
      have := hcells k hkk
      simpa using this
  clear hB hka
  have HY : Hid (∃ y, acc[k] = y) := ⟨_, rfl⟩
  obtain ⟨y, hy⟩ := HY.out
  have HYY : Hid (acc[k] = y) := hy
  rw [hy] at p0
  clear hy HY
  have hi1 : (0 : Int) < (k : Int) + 1 := by omega
  have hi3 : (k : Int) < (k : Int) + 1 := by omega
  have hi4 : (0 : Int) ≤ (k : Int) := by omega
  have hi5 : IntKind.i64.wrap (k : Int) = (k : Int) := IntWalk.i64_in _ (by omega)
  have HKK : Hid (acc.length = k + 1) := hk
  have HHL : Hid (acc.length ≤ 100000) := hl
  clear hk hl
  by_cases hxy : x ≤ y
  · have ho := (h.below hb1).order
    clear hB2 hfb
    go_wp2
    go_quiet (fail)
    go_wp2
    go_ret2
    refine ⟨fun _ => ⟨rfl, below_drewN hb1 _⟩, fun h9 => ?_⟩
    rw [HX.out, HYY.out] at h9
    omega
  · have hal : Below w1.heap.size w1 (w1.alloc (.cells #[.int .i64 x] 3)) := (Below.refl _ _).alloc (Nat.le_refl _) _
    have hb4 : Below B W (w1.alloc (.cells #[.int .i64 x] 3)) := (hb1.trans (hal.mono hb1.size)).mono hBW
    have HB4 : Hid (BoxK (w1.alloc (.cells #[.int .i64 x] 3)) B bl (.slice (some ⟨g, 0, none⟩) (k + 1) cp) acc) := hB2.below hal
    clear hB2
    go_wp2_with (at_builtin; refine wpList_append_own_at _ rfl _ _ 93 rfl B 3 i0 (.int .i64 0) 1 8 Tryz.underlying93 hi0 hz0 hs0 hby0 rfl (by decide) (.slice (some ⟨g, 0, none⟩) (k + 1) cp) acc.length (acc.map (Value.int .i64)) rfl HB4.out.own ⟨w1.heap.size, 0, none⟩ 1 1 [.int .i64 x] rfl ?qd1 ?qd2 ?qd3 ?qd4 ?qd5 ?qd6 ?_)
    case qd1 => rfl
    case qd2 => exact cell_one _ _ _
    case qd3 => intro u hu; simp at hu; subst hu; rfl
    case qd4 => have := HHL.out; unfold maxLen; omega
    case qd5 => have := HHL.out; omega
    case qd6 => exact Nat.le_trans hBW hb4.size
    intro v7 w7 hown7 hgrow7 _ hat7
    obtain ⟨g7, cap7, rfl⟩ := own_next hown7
    obtain ⟨hput, hb7⟩ := boxK_put (x := x) HB4.out hown7 hgrow7 (by simpa using hat7)
    have hcb7 := cell_of_one hb7
    have hfb7 := free_of_one hb7
    have hW7 : Below B W w7 := hb4.grown hgrow7 (Nat.le_trans hBW hb4.size) (fun k hk => own_far HB4.out.own hk)
    have hW8 : Below B W (w7.setCell ⟨bl, 0, none⟩ (.slice (some ⟨g7, 0, none⟩) (acc.length + 1) cap7)) := hW7.setCell HB4.out.low _
    have hbW4 : Below W.heap.size W (w1.alloc (.cells #[.int .i64 x] 3)) := hb1.trans (hal.mono hb1.size)
    have HPUT : Hid (InvK B bl P Q (w7.setCell ⟨bl, 0, none⟩ (.slice (some ⟨g7, 0, none⟩) (acc.length + 1) cap7)) (acc ++ [x]) ∧ ∀ j, P ≤ j → j < Q → (w7.setCell ⟨bl, 0, none⟩ (.slice (some ⟨g7, 0, none⟩) (acc.length + 1) cap7)).heap[j]? = W.heap[j]?) := invK_put (x := x) HB4.out hown7 hgrow7 (by simpa using hat7) hbW4 HOFF.out hlt hq
    clear hown7 hgrow7 hat7 hput
    go_wp2
    go_ret2
    refine ⟨fun h9 => ?_, fun _ => ⟨by rw [HX.out]; rfl, by rw [HX.out]; exact HPUT.out.1, HPUT.out.2, hW8⟩⟩
    rw [HX.out, HYY.out] at h9
    omega

theorem taker_keys (a : Nat → Addr) (bl B P Q : Nat) (hBP : B ≤ P) : Taker goneK a (fun W => EnvD0 W a) 163 bl B P Q (InvK B bl P Q) where
  env := fun h => h
  ent := enters_of Tryz.func163 (by kernel_rfl) rfl
  low := hBP
  keep := fun h hb => h.keep hb
  set := fun j o u h1 h2 h => h.set j o u h1 h2
  take := fun W line acc hE hI hQ hs hl => by
    have HI : Hid (InvK B bl P Q W acc) := hI
    obtain ⟨⟨v, hv, ho⟩, hlt, hq⟩ := hI
    have hBW : B ≤ W.heap.size := Nat.le_trans hv.low (Nat.le_of_lt (lt_of_block hv.box))
    show Calls _ _ _ _ fun e w' => Below B W w' ∧ _ ∧ ((stepE goneK acc line.data.toList ≠ 0 ∧ _) ∨ (stepE goneK acc line.data.toList = 0 ∧ _))
    have hst : stepE goneK acc line.data.toList = if (keyO line.data.toList).2 ≠ 0 then (keyO line.data.toList).2 else if acc ≠ [] ∧ decide ((keyO line.data.toList).1 ≤ acc.getLastD 0) = true then 9 else 0 := rfl
    by_cases hr : (keyO line.data.toList).2 ≠ 0
    · rw [if_pos hr] at hst
      refine (kline_bad line bl W a hE hs hr).mono fun e w' ⟨he, hb⟩ => ⟨hb.mono hBW, fun j h1 h2 => hb.block j (by omega), Or.inl ⟨by rw [hst]; exact hr, by rw [he, hst], HI.out.keep hb⟩⟩
    · have hr0 : (keyO line.data.toList).2 = 0 := Classical.byContradiction hr
      rw [if_neg hr] at hst
      by_cases hac : acc = []
      · subst hac
        rw [if_neg (by simp)] at hst
        exact (kline_first line bl B v W a hE hv P Q ho hlt hq hs hr0).mono fun e w' ⟨he, hi, hf, hb⟩ => ⟨hb, hf, Or.inr ⟨hst, he, hi⟩⟩
      · obtain ⟨k, hk⟩ : ∃ k, acc.length = k + 1 := ⟨acc.length - 1, by have := List.length_pos_iff.2 hac; omega⟩
        have hkk : k < acc.length := by omega
        rw [last_is acc k _ hk hkk] at hst
        refine (kline_next line bl B k v acc W a hE hv hs hl P Q ho hlt hq hk hkk hr0).mono fun e w' ⟨h1, h2⟩ => ?_
        by_cases hb : (keyO line.data.toList).1 ≤ acc[k]
        · rw [if_pos ⟨hac, by simpa using hb⟩] at hst
          obtain ⟨he, hbl⟩ := h1 hb
          exact ⟨hbl.mono hBW, fun j q1 q2 => hbl.block j (by omega), Or.inl ⟨by rw [hst]; decide, by rw [he, hst], HI.out.keep hbl⟩⟩
        · rw [if_neg (fun e => hb (by simpa using e.2))] at hst
          obtain ⟨he, hi, hf, hbl⟩ := h2 hb
          exact ⟨hbl, hf, Or.inr ⟨hst, he, hi⟩⟩

def NewAt (w : World) (v : Value) : Prop := ∀ k, v.ownBlock = some k → w.heap.size ≤ k

def GonePost (w : World) (a : Nat → Addr) (D : List Int × Nat × Option Nat) (e : Ending) (w' : World) : Prop :=
  Below w.heap.size w w' ∧ ((D.2.1 = 0 ∧ ∃ v, e = .returned (.tuple #[v, .nilIface]) ∧ KeysAt w' v D.1 ∧ NewAt w v) ∨
    (D.2.1 ≠ 0 ∧ D.1 = [] ∧ D.2.2 = none ∧ e = .returned (.tuple #[.slice none 0 0, errV a D.2.1])) ∨
    (D.2.1 ≠ 0 ∧ D.1 = [] ∧ ∃ at_, D.2.2 = some at_ ∧ ∃ fb, e = .returned (.tuple #[.slice none 0 0, .iface 108 (.pointer (some ⟨fb, 0, none⟩))]) ∧ w'.cell? ⟨fb, 0, none⟩ = some (.int .i64 at_) ∧ w'.cell? ⟨fb, 1, none⟩ = some (errV a D.2.1)))

set_option maxRecDepth 100000 in
set_option maxHeartbeats 8000000 in
theorem gone_any (s : ByteArray) (w : World) (a : Nat → Addr) (h : EnvD0 w a) (hs : s.size ≤ maxLen) :
    Calls Tryz.prog 127 #[.string s] w fun e w' => GonePost w a (goneO s.data.toList) e w' := by
  have hal : Below w.heap.size w (w.alloc (.cells #[.slice none 0 0] 93)) := (Below.refl _ _).alloc (Nat.le_refl _) _
  have hbox : BoxK (w.alloc (.cells #[.slice none 0 0] 93)) w.heap.size w.heap.size (.slice none 0 0) [] := ⟨heap_alloc_new _ _, World.ownsRow_nil _ _ _ _, by simp [Value.ownBlock], Nat.le_refl _⟩
  have hsz : (w.alloc (.cells #[.slice none 0 0] 93)).heap.size = w.heap.size + 1 := by simp
  have hrl := readLines_any goneK ⟨#[103, 111, 110, 101]⟩ s rfl (w.alloc (.cells #[.slice none 0 0] 93)) a (fun W => EnvD0 W a) 163 w.heap.size w.heap.size (fun Q => InvK w.heap.size w.heap.size (w.heap.size + 1) Q) (by omega) (fun W' hW => h.below (hal.trans hW))
    (fun Q => by rw [hsz]; exact taker_keys a w.heap.size w.heap.size (w.heap.size + 1) Q (Nat.le_succ _))
    (fun Q W' hW hQ => ⟨⟨_, hbox.below hW, fun j _ _ => by simp [Value.ownBlock]⟩, Nat.lt_succ_self _, hQ⟩) hs
  have e0 : goneO s.data.toList = readG goneK s.data.toList := rfl
  rw [e0]
  generalize readG goneK s.data.toList = D at hrl ⊢
  clear hbox hsz e0
  go_enter Tryz.func127, Tryz.ntmps127
  go_wp2_with fail
  generalize w.alloc (.cells #[.slice none 0 0] 93) = WA at hrl hal ⊢
  refine hrl.mono ?_
  rintro e w1 ⟨hb1, hres⟩
  clear hrl
  have hB1 : Below w.heap.size w w1 := hal.trans hb1
  rcases hres with ⟨h0, rfl, Q, hinv⟩ | ⟨h0, h1, h2, rfl⟩ | ⟨h0, h1, at_, h2, fb, rfl, c0, c1⟩
  · obtain ⟨⟨v, hbx, _⟩, _, _⟩ := hinv
    have hc := cell_of_one hbx.box
    have hro := keysAt_own hbx.own
    obtain ⟨q, cp, rfl⟩ := own_shape hbx.own
    have HRO : Hid (KeysAt w1 (.slice q D.1.length cp) D.1) := hro
    have HNEW : Hid (NewAt w (.slice q D.1.length cp)) := fun k hk => (hbx.own.lt k hk).1
    clear hbx hro
    obtain ⟨LL, hLL⟩ : ∃ LL, D.1.length = LL := ⟨_, rfl⟩
    have HLL : Hid (D.1.length = LL) := hLL
    rw [hLL] at hc HRO HNEW
    clear hLL
    go_wp2
    go_ret2
    exact ⟨hB1, Or.inl ⟨h0, _, rfl, HRO.out, HNEW.out⟩⟩
  · obtain ⟨E, hE⟩ : ∃ E, D.2.1 = E + 1 := ⟨D.2.1 - 1, by omega⟩
    have HE : Hid (D.2.1 = E + 1) := hE
    rw [hE]
    simp only [errV]
    clear hE
    go_wp2
    go_ret2
    exact ⟨hB1, Or.inr (Or.inl ⟨h0, h1, h2, by rw [HE.out]; rfl⟩)⟩
  · have C0 : Hid (w1.cell? ⟨fb, 0, none⟩ = some (.int .i64 at_)) := c0
    have C1 : Hid (w1.cell? ⟨fb, 1, none⟩ = some (errV a D.2.1)) := c1
    clear c0 c1
    go_wp2
    go_ret2
    exact ⟨hB1, Or.inr (Or.inr ⟨h0, h1, at_, h2, fb, rfl, C0.out, C1.out⟩)⟩

end Go.Proofs.YtpkoefpdpoikkaaGreatDoor
