/-
  The contracts of row.Same, row.Less, and of the statements' helpers SameRows and OwnRows.
-/
import Derived.Test.YtgffkkijfmoooaaGreatDoorRowSort
namespace Go.Proofs.YtgffkkijfmoooaaGreatDoor
open Go.RowKit Go.Extern.Stop Go.Stop Go.Extern Go.Sort Go.Shelf Go.Lib

theorem allEq_dec : ∀ xs ys : List Rw, Lib.allEq (fun x y => decide (x = y)) xs ys = decide (xs = ys)
  | [], [] => by simp [Lib.allEq]
  | [], _ :: _ => by simp [Lib.allEq]
  | _ :: _, [] => by simp [Lib.allEq]
  | x :: xs, y :: ys => by
    have := allEq_dec xs ys
    simp only [Lib.allEq, this]
    by_cases h : x = y <;> by_cases h' : xs = ys <;> simp [h, h']

set_option maxHeartbeats 1000000 in
theorem equal_nil (p q : Option Addr) (n m c d : Nat) (w : World) (h0 : n = 0 ∨ m = 0) (hn : n ≤ 1000) (hm : m ≤ 1000) :
    Calls Tryz.prog 44 #[.slice p n c, .slice q m d] w fun e w' => e = .returned (.bool (decide (n = m))) ∧ w' = w := by
  by_cases e : n = m
  · obtain rfl : n = 0 := by omega
    subst e
    go_enter Tryz.func44, Tryz.ntmps44
    go_wp2
    refine wp_loop_rounds 1 ?_
    rw [rounds_succ]
    go_wp2
    go_ret
    exact ⟨rfl, rfl⟩
  · have e' : ((n : Int) == (m : Int)) = false := by simp; omega
    go_enter Tryz.func44, Tryz.ntmps44
    go_wp2
    go_ret
    exact ⟨by simp [e], rfl⟩

theorem drewN_below (w : World) (q : Nat) : Below w.heap.size w (w.drewN q) := ⟨rfl, rfl, rfl, Nat.le_refl _, fun _ _ => rfl⟩

theorem cells_bang {w : World} {b o : Nat} {xs : List Rw} (h : RowCells w b o xs) : ∀ j, j < xs.length → ∀ i v, (encR xs[j]!)[i]? = some v → w.cell? ⟨b, o + j * 3 + i, none⟩ = some v := by
  intro j hj i v hv
  rw [getElem!_pos xs j hj] at hv
  have hi : i < 3 := by
    rcases Nat.lt_or_ge i (encR xs[j]).length with h' | h'
    · rwa [encR_len] at h'
    · rw [List.getElem?_eq_none h'] at hv; cases hv
  have := cells_of_flat h (j * 3 + i) v (by rw [flat_get xs j i hj hi]; exact hv)
  rw [← Nat.add_assoc] at this
  exact this

theorem equal_any (v v' : Value) (xs ys : List Rw) (w : World) (h : RowsAt w v xs) (h' : RowsAt w v' ys) (hl : xs.length ≤ 1000) (hl' : ys.length ≤ 1000) :
    Calls Tryz.prog 44 #[v, v'] w fun e w' => e = .returned (.bool (decide (xs = ys))) ∧ Below w.heap.size w w' := by
  have nilL : ∀ zs : List Rw, decide (0 = zs.length) = decide (([] : List Rw) = zs) := fun zs => by cases zs <;> simp
  have nilR : ∀ zs : List Rw, decide (zs.length = 0) = decide (zs = ([] : List Rw)) := fun zs => by cases zs <;> simp
  rcases h with ⟨p, c, rfl, rfl⟩ | ⟨b, o, cap, rfl, hc⟩
  · rcases h' with ⟨p', c', rfl, rfl⟩ | ⟨b', o', cap', rfl, hc'⟩
    · refine (equal_nil p p' 0 0 c c' w (Or.inl rfl) (by omega) (by omega)).mono fun e w' ⟨he, hw⟩ => ⟨he, ?_⟩
      subst hw; exact Below.refl _ _
    · refine (equal_nil p _ 0 ys.length c cap' w (Or.inl rfl) (by omega) hl').mono fun e w' ⟨he, hw⟩ => ⟨by rw [he, nilL], ?_⟩
      subst hw; exact Below.refl _ _
  · rcases h' with ⟨p', c', rfl, rfl⟩ | ⟨b', o', cap', rfl, hc'⟩
    · refine (equal_nil _ p' xs.length 0 cap c' w (Or.inr rfl) hl (by omega)).mono fun e w' ⟨he, hw⟩ => ⟨by rw [he, nilR], ?_⟩
      subst hw; exact Below.refl _ _
    · have hcon := AnyQ.slices_Equal Tryz.equalRow 3 Tryz.isAgg30 Tryz.sizeOf30 encR encR_len (fun x y => decide (x = y)) neqRow b o xs.length cap b' o' ys.length cap' xs ys w (Nat.le_refl _) (Nat.le_refl _) (by omega) (by omega) (cells_bang hc) (cells_bang hc')
      change Calls Tryz.prog 44 _ _ _ at hcon
      rw [List.take_length, List.take_length, allEq_dec] at hcon
      refine hcon.mono fun e w' ⟨he, q, hw⟩ => ⟨he, ?_⟩
      subst hw; exact drewN_below w q

set_option maxHeartbeats 1000000 in
theorem same_any (v v' : Value) (xs ys : List Rw) (w : World) (h : RowsAt w v xs) (h' : RowsAt w v' ys) (hl : xs.length ≤ 1000) (hl' : ys.length ≤ 1000) :
    Calls Tryz.prog 12 #[v, v'] w fun e w' => e = .returned (.bool (decide (sortR xs = sortR ys))) ∧ Below w.heap.size w w' := by
  have hs := sort_any v xs w h hl
  generalize hr : decide (sortR xs = sortR ys) = r
  have HR : Hid (decide (sortR xs = sortR ys) = r) := hr
  clear hr
  go_enter Tryz.func12, Tryz.ntmps12
  go_wp2_with fail
  refine hs.mono ?_
  rintro e w1 ⟨v1, rfl, hr1, hb1⟩
  have hs2 := sort_any v' ys w1 (h'.below hb1) hl'
  clear hs
  go_wp2_with fail
  refine hs2.mono ?_
  rintro e w2 ⟨v2, rfl, hr2, hb2⟩
  have he := equal_any v1 v2 (sortR xs) (sortR ys) w2 (hr1.below hb2) hr2 (by rw [sortR_len]; exact hl) (by rw [sortR_len]; exact hl')
  rw [HR.out] at he
  clear hs2
  go_wp2_with fail
  refine he.mono ?_
  rintro e w3 ⟨rfl, hb3⟩
  have hB : Below w.heap.size w w3 := (hb1.trans (hb2.mono hb1.size)).trans (hb3.mono (Nat.le_trans hb1.size hb2.size))
  clear he
  go_wp2
  go_ret
  exact ⟨rfl, hB⟩

set_option maxHeartbeats 1000000 in
theorem less_any (x y : Rw) (w : World) :
    Calls Tryz.prog 14 #[.agg #[.string x.1, .int .i64 x.2.1, .int .i64 x.2.2], .agg #[.string y.1, .int .i64 y.2.1, .int .i64 y.2.2]] w fun e w' => e = .returned (.bool (ltOf cfR x y)) ∧ Below w.heap.size w w' := by
  have ho := order_any x y
  unfold ltOf
  generalize cfR x y = r at ho ⊢
  obtain ⟨xp, xk, xv⟩ := x
  obtain ⟨yp, yk, yv⟩ := y
  dsimp only at ho ⊢
  have hb0 : Below w.heap.size w ((w.alloc (.cells #[.string xp, .int .i64 xk, .int .i64 xv] 30)).alloc (.cells #[.string yp, .int .i64 yk, .int .i64 yv] 30)) := ((Below.refl _ _).alloc (Nat.le_refl _) _).alloc (by simp) _
  go_enter Tryz.func14, Tryz.ntmps14
  go_wp2_with (go_at_call 43; refine (ho _).mono ?_; rintro e w1 ⟨rfl, q, os, hw⟩)
  go_ret
  refine ⟨rfl, ?_⟩
  exact (below_drewN hb0 q).trans ((below_grow os).mono (below_drewN hb0 q).size)

theorem same_succ {xs ys : List Rw} {n : Nat} (h : ∀ i, i < n → xs[i]? = ys[i]?) (e : xs[n]? = ys[n]?) : ∀ i, i < n + 1 → xs[i]? = ys[i]? := fun i hi => by
  rcases Nat.lt_or_ge i n with h' | h'
  · exact h i h'
  · obtain rfl : i = n := by omega
    exact e

set_option maxHeartbeats 2000000 in
theorem sameRows_lists (b o b' o' cap cap' : Nat) (xs ys : List Rw) (w : World) (hx : RowCells w b o xs) (hy : RowCells w b' o' ys) (hl : xs.length ≤ 1000) (he : xs.length = ys.length) :
    Calls Tryz.prog 13 #[.slice (some ⟨b, o, none⟩) xs.length cap, .slice (some ⟨b', o', none⟩) ys.length cap'] w fun e w' => e = .returned (.bool (decide (xs = ys))) ∧ ∃ n, w' = w.drewN n := by
  rw [← he]
  generalize hL : xs.length = L at hl ⊢
  have HX : Hid (xs.length = L) := hL
  have HY : Hid (ys.length = L) := he ▸ hL
  clear hL he
  generalize hr : decide (xs = ys) = r
  have HR : Hid (decide (xs = ys) = r) := hr
  clear hr
  go_enter Tryz.func13, Tryz.ntmps13
  go_wp2
  go_loopw [5] (fun k wr => ∃ n : Nat, n ≤ L ∧ (∀ i, i < n → xs[i]? = ys[i]?) ∧ k = .int .i64 n ∧ ∃ m, wr = w.drewN m) (fun k _ => L - (intOf k).toNat)
  case atStart => exact ⟨0, by omega, by omega, rfl, 0, rfl⟩
  case round =>
    obtain ⟨n, hn, ht, rfl, m, rfl⟩ := hrel
    have HT : Hid (∀ i, i < n → xs[i]? = ys[i]?) := ht
    clear ht
    by_cases hlt : n < L
    · have hltx : n < xs.length := by rw [HX.out]; exact hlt
      have hlty : n < ys.length := by rw [HY.out]; exact hlt
      obtain ⟨h1, h2, h3⟩ := hx n hltx
      obtain ⟨k1, k2, k3⟩ := hy n hlty
      have heq := neqRow.1 xs[n] ys[n]
      have hgd := neqRow.2
      have hi : (n : Int) < (L : Int) := by omega
      generalize hxx : xs[n] = x at h1 h2 h3 heq
      generalize hyy : ys[n] = y at k1 k2 k3 heq
      have EX : Hid (xs[n] = x) := hxx
      have EY : Hid (ys[n] = y) := hyy
      clear hxx hyy hx hy
      obtain ⟨xp, xk, xv⟩ := x
      obtain ⟨yp, yk, yv⟩ := y
      simp only [encR] at heq
      have hgd' : ∀ (op : BinOp) (a b : Operand) (w : World), Sem.run Tryz.prog (eqGuard op 30 a b (.agg #[.string xp, .int .i64 xk, .int .i64 xv]) (.agg #[.string yp, .int .i64 yk, .int .i64 yv])) w = .ok () w := fun op a b w => hgd op a b (xp, xk, xv) (yp, yk, yv) w
      clear hgd
      by_cases e : ((xp, xk, xv) : Rw) = (yp, yk, yv)
      · have hne : ∀ w, Sem.run Tryz.prog (binOp .neq 30 (.agg #[.string xp, .int .i64 xk, .int .i64 xv]) (.agg #[.string yp, .int .i64 yk, .int .i64 yv])) w = .ok (.bool false) w := fun w => by rw [heq w, decide_eq_true e]; rfl
        have EE : Hid (((xp, xk, xv) : Rw) = (yp, yk, yv)) := e
        clear heq e
        go_wp2
        go_quiet (fail)
        go_wp2
        go_roundw
        case rel => exact ⟨n + 1, by omega, same_succ HT.out (by rw [List.getElem?_eq_getElem hltx, List.getElem?_eq_getElem hlty, EX.out, EY.out, EE.out]), by go_num, _, rfl⟩
        case measure => simp [intOf]; omega
      · have hne : ∀ w, Sem.run Tryz.prog (binOp .neq 30 (.agg #[.string xp, .int .i64 xk, .int .i64 xv]) (.agg #[.string yp, .int .i64 yk, .int .i64 yv])) w = .ok (.bool true) w := fun w => by rw [heq w, decide_eq_false e]; rfl
        have EE : Hid (¬ ((xp, xk, xv) : Rw) = (yp, yk, yv)) := e
        have hr : r = false := by
          rw [← HR.out, decide_eq_false_iff_not]
          intro e'
          subst e'
          exact EE.out (EX.out.symm.trans EY.out)
        subst hr
        clear heq e
        go_wp2
        go_quiet (fail)
        go_wp2
        go_ret
        exact ⟨rfl, _, World.drewN_drewN _ _ _⟩
    · have hr : r = true := by
        rw [← HR.out, decide_eq_true_eq]
        refine List.ext_getElem? fun i => ?_
        rcases Nat.lt_or_ge i n with h' | h'
        · exact HT.out i h'
        · rw [List.getElem?_eq_none (by rw [HX.out]; omega), List.getElem?_eq_none (by rw [HY.out]; omega)]
      subst hr
      have hn' : n = L := by omega
      subst hn'
      go_wp2
      go_ret
      exact ⟨rfl, m, rfl⟩

set_option maxHeartbeats 1000000 in
theorem sameRows_len (p q : Option Addr) (n m c d : Nat) (w : World) (h0 : n ≠ m ∨ n = 0) (hn : n ≤ 1000) (hm : m ≤ 1000) :
    Calls Tryz.prog 13 #[.slice p n c, .slice q m d] w fun e w' => e = .returned (.bool (decide (n = m))) ∧ w' = w := by
  by_cases e : n = m
  · obtain rfl : n = 0 := by omega
    subst e
    go_enter Tryz.func13, Tryz.ntmps13
    go_wp2
    refine wp_loop_rounds 1 ?_
    rw [rounds_succ]
    go_wp2
    go_ret
    exact ⟨rfl, rfl⟩
  · have e' : ((n : Int) == (m : Int)) = false := by simp; omega
    go_enter Tryz.func13, Tryz.ntmps13
    go_wp2
    go_ret
    exact ⟨by simp [e], rfl⟩

theorem sameRows_any (v v' : Value) (xs ys : List Rw) (w : World) (h : RowsAt w v xs) (h' : RowsAt w v' ys) (hl : xs.length ≤ 1000) (hl' : ys.length ≤ 1000) :
    Calls Tryz.prog 13 #[v, v'] w fun e w' => e = .returned (.bool (decide (xs = ys))) ∧ Below w.heap.size w w' := by
  have nilL : ∀ zs : List Rw, decide (0 = zs.length) = decide (([] : List Rw) = zs) := fun zs => by cases zs <;> simp
  rcases h with ⟨p, c, rfl, rfl⟩ | ⟨b, o, cap, rfl, hc⟩
  · rcases h' with ⟨p', c', rfl, rfl⟩ | ⟨b', o', cap', rfl, hc'⟩
    · refine (sameRows_len p p' 0 0 c c' w (Or.inr rfl) (by omega) (by omega)).mono fun e w' ⟨he, hw⟩ => ⟨he, ?_⟩
      subst hw; exact Below.refl _ _
    · refine (sameRows_len p _ 0 ys.length c cap' w (Or.inr rfl) (by omega) hl').mono fun e w' ⟨he, hw⟩ => ⟨by rw [he, nilL], ?_⟩
      subst hw; exact Below.refl _ _
  · rcases h' with ⟨p', c', rfl, rfl⟩ | ⟨b', o', cap', rfl, hc'⟩
    · refine (sameRows_len _ p' xs.length 0 cap c' w (by omega) hl (by omega)).mono fun e w' ⟨he, hw⟩ => ⟨?_, ?_⟩
      · rw [he]; cases xs <;> simp
      · subst hw; exact Below.refl _ _
    · by_cases hlen : xs.length = ys.length
      · refine (sameRows_lists b o b' o' cap cap' xs ys w hc hc' hl hlen).mono fun e w' ⟨he, q, hw⟩ => ⟨he, ?_⟩
        subst hw; exact drewN_below w q
      · refine (sameRows_len _ _ xs.length ys.length cap cap' w (Or.inl hlen) hl hl').mono fun e w' ⟨he, hw⟩ => ⟨?_, ?_⟩
        · rw [he]
          have : ¬ xs = ys := fun e => hlen (e ▸ rfl)
          simp [this, hlen]
        · subst hw; exact Below.refl _ _

set_option maxHeartbeats 1000000 in
theorem ownRows_any (v : Value) (xs : List Rw) (w : World) (h : RowsAt w v xs) (hl : xs.length ≤ 1000) :
    Calls Tryz.prog 11 #[v] w fun e w' => ∃ v', e = .returned v' ∧ w'.ownsRow w.heap.size 30 3 v' xs.length (flatR xs) ∧ Below w.heap.size w w' := by
  rcases h with ⟨p, c, rfl, rfl⟩ | ⟨b, o, cap, rfl, hc⟩
  · cases p with
    | none =>
      clear hl
      go_enter Tryz.func11, Tryz.ntmps11
      go_wp2
      go_ret
      exact ⟨_, rfl, World.ownsRow_nil _ _ _ _, Below.refl _ _⟩
    | some ad =>
      obtain ⟨i0, hi, hz, hs, hby⟩ := Tryz.rowInfo
      clear hl
      go_enter Tryz.func11, Tryz.ntmps11
      go_wp2_with (at_builtin; refine wpList_append_own _ rfl _ _ 22 rfl w.heap.size 30 i0 (.agg #[.string ⟨#[]⟩, .int .i64 0, .int .i64 0]) 3 32 Tryz.underlying22 hi hz hs hby rfl (by decide) _ _ _ rfl (World.ownsRow_nil w w.heap.size 30 3) ad 0 c [] rfl ?qc1 ?qc2 ?qc3 ?qc4 ?qc5 ?qc6 ?_)
      case qc1 => rfl
      case qc2 => intro j u hj; simp at hj
      case qc3 => intro u hu; cases hu
      case qc4 => decide
      case qc5 => decide
      case qc6 => exact Nat.le_refl _
      intro v' w1 hown hgrow hnil
      go_wp2
      go_ret
      refine ⟨v', rfl, by simpa [flatR] using hown, ?_⟩
      exact (Below.refl _ w).grown hgrow (Nat.le_refl _) (by intro k hk; simp [Value.ownBlock] at hk)
  · obtain ⟨i0, hi, hz, hs, hby⟩ := Tryz.rowInfo
    have A : Hid (RowCells w b o xs) := hc
    clear hc
    generalize hL : xs.length = L at hl ⊢
    have HL : Hid (xs.length = L) := hL
    clear hL
    go_enter Tryz.func11, Tryz.ntmps11
    go_wp2_with (at_builtin; refine wpList_append_own _ rfl _ _ 22 rfl w.heap.size 30 i0 (.agg #[.string ⟨#[]⟩, .int .i64 0, .int .i64 0]) 3 32 Tryz.underlying22 hi hz hs hby rfl (by decide) _ _ _ rfl (World.ownsRow_nil w w.heap.size 30 3) ⟨b, o, none⟩ L cap (flatR xs) rfl ?qc1 ?qc2 ?qc3 ?qc4 ?qc5 ?qc6 ?_)
    case qc1 => rw [flat_len, HL.out]
    case qc2 =>
      intro j u hj
      rw [Addr.add_lit]
      exact cells_of_flat A.out j u hj
    case qc3 => exact flat_one xs
    case qc4 => rw [Nat.zero_add]; unfold maxLen; omega
    case qc5 => rw [Nat.zero_add]; omega
    case qc6 => exact Nat.le_refl _
    intro v' w1 hown hgrow hnil
    go_wp2
    go_ret
    refine ⟨v', rfl, by simpa using hown, ?_⟩
    exact (Below.refl _ w).grown hgrow (Nat.le_refl _) (by intro k hk; simp [Value.ownBlock] at hk)
end Go.Proofs.YtgffkkijfmoooaaGreatDoor
