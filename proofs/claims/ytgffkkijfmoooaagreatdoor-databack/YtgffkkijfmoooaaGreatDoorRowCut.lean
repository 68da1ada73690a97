/-
  The contracts of row.cut, row.Within and row.Drop: the rows that are kept, in the list's order, in new memory.
-/
import Derived.Test.YtgffkkijfmoooaaGreatDoorRowSame
import Derived.Shelf.Abstract
namespace Go.Proofs.YtgffkkijfmoooaaGreatDoor
open Go.RowKit Go.Extern.Stop Go.Stop Go.Extern Go.Sort Go.Shelf Go.Lib

theorem own_below {w w' : World} {base : Nat} {e : TypeId} {size : Nat} {v : Value} {n : Nat} {xs : List Value} (h : w.ownsRow base e size v n xs) (hb : Below w.heap.size w w') : w'.ownsRow base e size v n xs := by
  obtain ⟨h1, h2⟩ := h
  refine ⟨h1, ?_⟩
  rcases h2 with h2 | ⟨g, cap, cur, hv, hg, hc, r⟩
  · exact Or.inl h2
  · refine Or.inr ⟨g, cap, cur, hv, hg, ?_, r⟩
    have hlt : g < w.heap.size := by
      rcases Nat.lt_or_ge g w.heap.size with h' | h'
      · exact h'
      · rw [Array.getElem?_eq_none h'] at hc; cases hc
    rw [hb.block g hlt]; exact hc

theorem flat_single (x : Rw) : flatR [x] = encR x := by simp [flatR]

theorem filter_snoc (p : Rw → Bool) (xs : List Rw) (n : Nat) (h : n < xs.length) : (xs.take (n + 1)).filter p = (xs.take n).filter p ++ if p xs[n] then [xs[n]] else [] := by
  rw [List.take_succ_eq_append_getElem h, List.filter_append]
  cases hp : p xs[n] <;> simp [hp]

/-- What is asked of the function that cuts: in every world behind w it tells p, and turns nothing that was there. -/
def Tells (g : Nat) (cb : Array Value) (p : Rw → Bool) (w : World) : Prop :=
  ∀ (x : Rw) (W : World), Below w.heap.size w W → Calls Tryz.prog g (#[.agg #[.string x.1, .int .i64 x.2.1, .int .i64 x.2.2]] ++ cb) W fun e w' => e = .returned (.bool (p x)) ∧ Below W.heap.size W w'

set_option maxHeartbeats 2000000 in
theorem cut_list (b o cap : Nat) (xs : List Rw) (g : Nat) (cb : Array Value) (p : Rw → Bool) (w : World) (eg : ∀ args w, (callFunc g args).run Tryz.prog w = .ok (.enter g args) w) (hx : RowCells w b o xs) (hl : xs.length ≤ 1000) (hp : Tells g cb p w) :
    Calls Tryz.prog 47 #[.slice (some ⟨b, o, none⟩) xs.length cap, .func (.func g) #[] cb] w fun e w' => ∃ v', e = .returned v' ∧ w'.ownsRow w.heap.size 30 3 v' (xs.filter p).length (flatR (xs.filter p)) ∧ Below w.heap.size w w' := by
  obtain ⟨i0, hi0, hz0, hs0, hby0⟩ := Tryz.rowInfo
  generalize hL : xs.length = L at hl ⊢
  have HX : Hid (xs.length = L) := hL
  clear hL
  go_enter Tryz.func47, Tryz.ntmps47
  go_wp2
  go_loopw [5, 10] (fun kept k wr => ∃ n : Nat, n ≤ L ∧ k = .int .i64 n ∧ Below w.heap.size w wr ∧ wr.ownsRow w.heap.size 30 3 kept ((xs.take n).filter p).length (flatR ((xs.take n).filter p))) (fun _ k _ => L - (intOf k).toNat)
  case atStart => exact ⟨0, by omega, rfl, Below.refl _ _, by simp [flatR]; exact World.ownsRow_nil _ _ _ _⟩
  case round =>
    obtain ⟨n, hn, rfl, hb, hown⟩ := hrel
    by_cases hlt : n < L
    · have hltx : n < xs.length := by rw [HX.out]; exact hlt
      obtain ⟨h1, h2, h3⟩ := hx.below hb n hltx
      have hi : (n : Int) < (L : Int) := by omega
      have hf := filter_snoc p xs n hltx
      generalize hxx : xs[n] = x at h1 h2 h3 hf
      have HF : Hid ((xs.take (n + 1)).filter p = (xs.take n).filter p ++ if p x then [x] else []) := hf
      clear hf hxx
      obtain ⟨xp, xk, xv⟩ := x
      have hbA : Below w.heap.size w (wr.alloc (.cells #[.string xp, .int .i64 xk, .int .i64 xv] 30)) := hb.alloc hb.size _
      have hpx := hp (xp, xk, xv) _ hbA
      have OW : Hid (wr.ownsRow w.heap.size 30 3 u5 ((xs.take n).filter p).length (flatR ((xs.take n).filter p))) := hown
      have hlen : ((xs.take n).filter p).length ≤ n := Nat.le_trans (List.length_filter_le _ _) (List.length_take_le _ _)
      have LEN : Hid (((xs.take n).filter p).length ≤ n) := hlen
      have c0 : (wr.alloc (.cells #[.string xp, .int .i64 xk, .int .i64 xv] 30)).cell? ⟨wr.heap.size, 0, none⟩ = some (.string xp) := by simp
      have c1 : (wr.alloc (.cells #[.string xp, .int .i64 xk, .int .i64 xv] 30)).cell? ⟨wr.heap.size, 1, none⟩ = some (.int .i64 xk) := by simp
      have c2 : (wr.alloc (.cells #[.string xp, .int .i64 xk, .int .i64 xv] 30)).cell? ⟨wr.heap.size, 2, none⟩ = some (.int .i64 xv) := by simp
      have hal : Below wr.heap.size wr (wr.alloc (.cells #[.string xp, .int .i64 xk, .int .i64 xv] 30)) := (Below.refl _ _).alloc (Nat.le_refl _) _
      clear hown hlen hx
      cases hpv : p (xp, xk, xv)
      · rw [hpv] at hpx
        have HF' : Hid ((xs.take (n + 1)).filter p = (xs.take n).filter p) := by
          have := HF.out
          rw [hpv] at this
          simpa [Hid] using this
        clear hpv
        go_wp2_with (go_at_fn g; refine hpx.mono ?_; rintro e w2 ⟨rfl, hb2⟩)
        have hbB : Below w.heap.size w w2 := hbA.trans (hb2.mono hbA.size)
        have hbW : Below wr.heap.size wr w2 := hal.trans (hb2.mono hal.size)
        go_roundw
        case rel => exact ⟨n + 1, by omega, by go_num, hbB, by rw [HF'.out]; exact own_below OW.out hbW⟩
        case measure => simp [intOf]; omega
      · rw [hpv] at hpx
        have HF' : Hid ((xs.take (n + 1)).filter p = (xs.take n).filter p ++ [(xp, xk, xv)]) := by
          have := HF.out
          rw [hpv] at this
          simpa [Hid] using this
        clear hpv
        generalize hK : (xs.take n).filter p = K at OW LEN HF'
        clear hK
        go_wp2_with (first
          | (go_at_fn g; refine hpx.mono ?_; rintro e w2 ⟨rfl, hb2⟩; have d0 := below_keep hb2 c0; have d1 := below_keep hb2 c1; have d2 := below_keep hb2 c2)
          | (at_builtin; refine wpList_append_own _ rfl _ _ 22 rfl w.heap.size 30 i0 (.agg #[.string ⟨#[]⟩, .int .i64 0, .int .i64 0]) 3 32 Tryz.underlying22 hi0 hz0 hs0 hby0 rfl (by decide) u5 K.length (flatR K) rfl ?qc0 ⟨w2.heap.size, 0, none⟩ 1 1 (encR (xp, xk, xv)) rfl ?qc1 ?qc2 ?qc3 ?qc4 ?qc5 ?qc6 ?_))
        case qc0 => exact own_below OW.out ((hal.trans (hb2.mono hal.size)).alloc (Nat.le_trans hal.size hb2.size) _)
        case qc1 => rfl
        case qc2 =>
          intro j u hj
          rw [Addr.add_lit, Nat.zero_add]
          match j, hj with
          | 0, hj => simp [encR] at hj; subst hj; simp
          | 1, hj => simp [encR] at hj; subst hj; simp
          | 2, hj => simp [encR] at hj; subst hj; simp
          | j + 3, hj => simp [encR] at hj
        case qc3 => exact encR_one _
        case qc4 => have := LEN.out; unfold maxLen; omega
        case qc5 => have := LEN.out; omega
        case qc6 => exact Nat.le_trans hbA.size (Nat.le_trans hb2.size (by simp))
        intro v' w4 hown4 hgrow hnil
        have hbB : Below w.heap.size w (w2.alloc (.cells #[.string xp, .int .i64 xk, .int .i64 xv] 30)) := (hbA.trans (hb2.mono hbA.size)).alloc (Nat.le_trans hbA.size hb2.size) _
        have hbC : Below w.heap.size w w4 := hbB.grown hgrow hbB.size (fun k hk => by
          rcases OW.out.2 with ⟨e, _⟩ | ⟨g', cap', cur, e, hg', _⟩
          · rw [e] at hk; simp [Value.ownBlock] at hk
          · rw [e] at hk; simp [Value.ownBlock] at hk; omega)
        have OW4 : Hid (w4.ownsRow w.heap.size 30 3 v' (K.length + 1) (flatR K ++ encR (xp, xk, xv))) := hown4
        clear hown4 hnil hgrow
        go_wp2
        go_roundw
        case rel => exact ⟨n + 1, by omega, by go_num, hbC, by rw [HF'.out, List.length_append, flat_append, flat_single]; exact OW4.out⟩
        case measure => simp [intOf]; omega
    · have hn' : n = L := by omega
      subst hn'
      have ht : xs.take n = xs := List.take_of_length_le (by rw [HX.out]; omega)
      rw [ht] at hown
      have OW : Hid (wr.ownsRow w.heap.size 30 3 u5 (xs.filter p).length (flatR (xs.filter p))) := hown
      clear hown ht
      go_wp2
      go_ret
      exact ⟨u5, rfl, OW.out, hb⟩

set_option maxHeartbeats 1000000 in
theorem cut_own (v : Value) (xs : List Rw) (g : Nat) (cb : Array Value) (p : Rw → Bool) (w : World) (eg : ∀ args w, (callFunc g args).run Tryz.prog w = .ok (.enter g args) w) (hx : RowsAt w v xs) (hl : xs.length ≤ 1000) (hp : Tells g cb p w) :
    Calls Tryz.prog 47 #[v, .func (.func g) #[] cb] w fun e w' => ∃ v', e = .returned v' ∧ w'.ownsRow w.heap.size 30 3 v' (xs.filter p).length (flatR (xs.filter p)) ∧ Below w.heap.size w w' := by
  rcases hx with ⟨p0, c0, rfl, rfl⟩ | ⟨b, o, cap, rfl, hc⟩
  · clear hp hl
    go_enter Tryz.func47, Tryz.ntmps47
    go_wp2
    refine wp_loop_rounds 1 ?_
    rw [rounds_succ]
    go_wp2
    go_ret
    exact ⟨_, rfl, World.ownsRow_nil _ _ _ _, Below.refl _ _⟩
  · exact cut_list b o cap xs g cb p w eg hc hl hp

theorem cut_any (v : Value) (xs : List Rw) (g : Nat) (cb : Array Value) (p : Rw → Bool) (w : World) (eg : ∀ args w, (callFunc g args).run Tryz.prog w = .ok (.enter g args) w) (hx : RowsAt w v xs) (hl : xs.length ≤ 1000) (hp : Tells g cb p w) :
    Calls Tryz.prog 47 #[v, .func (.func g) #[] cb] w fun e w' => ∃ v', e = .returned v' ∧ RowsAt w' v' (xs.filter p) ∧ Below w.heap.size w w' :=
  (cut_own v xs g cb p w eg hx hl hp).mono fun _ _ ⟨v', he, ho, hb⟩ => ⟨v', he, (rowsAt_of_own ho).1, hb⟩

/-- The key is from lo to hi. -/
def inB (lo hi : Int) (x : Rw) : Bool := decide (lo ≤ x.2.1) && decide (x.2.1 ≤ hi)

set_option maxHeartbeats 1000000 in
theorem within1_any (x : Rw) (lo hi : Int) (a c : Addr) (w : World) (ha : w.cell? a = some (.int .i64 lo)) (hc : w.cell? c = some (.int .i64 hi)) :
    Calls Tryz.prog 50 #[.agg #[.string x.1, .int .i64 x.2.1, .int .i64 x.2.2], .pointer (some a), .pointer (some c)] w fun e w' => e = .returned (.bool (inB lo hi x)) ∧ Below w.heap.size w w' := by
  obtain ⟨xp, xk, xv⟩ := x
  dsimp only
  have ha' : (w.alloc (.cells #[.string xp, .int .i64 xk, .int .i64 xv] 30)).cell? a = some (.int .i64 lo) := below_keep ((Below.refl _ _).alloc (Nat.le_refl _) _) ha
  have hc' : (w.alloc (.cells #[.string xp, .int .i64 xk, .int .i64 xv] 30)).cell? c = some (.int .i64 hi) := below_keep ((Below.refl _ _).alloc (Nat.le_refl _) _) hc
  by_cases h1 : lo ≤ xk
  · by_cases h2 : xk ≤ hi
    · have hr : inB lo hi (xp, xk, xv) = true := by simp [inB, h1, h2]
      rw [hr]
      go_enter Tryz.func50, Tryz.ntmps50
      go_wp2
      go_ret
      exact ⟨rfl, (Below.refl _ _).alloc (Nat.le_refl _) _⟩
    · have hr : inB lo hi (xp, xk, xv) = false := by simp [inB, h2]
      rw [hr]
      go_enter Tryz.func50, Tryz.ntmps50
      go_wp2
      go_ret
      exact ⟨rfl, (Below.refl _ _).alloc (Nat.le_refl _) _⟩
  · have hr : inB lo hi (xp, xk, xv) = false := by simp [inB, h1]
    rw [hr]
    go_enter Tryz.func50, Tryz.ntmps50
    go_wp2
    go_ret
    exact ⟨rfl, (Below.refl _ _).alloc (Nat.le_refl _) _⟩

set_option maxHeartbeats 1000000 in
theorem within_own (v : Value) (xs : List Rw) (lo hi : Int) (w : World) (hx : RowsAt w v xs) (hl : xs.length ≤ 1000) :
    Calls Tryz.prog 16 #[v, .int .i64 lo, .int .i64 hi] w fun e w' => ∃ v', e = .returned v' ∧ (∃ B, B ≥ w.heap.size ∧ w'.ownsRow B 30 3 v' (xs.filter (inB lo hi)).length (flatR (xs.filter (inB lo hi)))) ∧ Below w.heap.size w w' := by
  have hb : Below w.heap.size w ((w.alloc (.cells #[.int .i64 lo] 3)).alloc (.cells #[.int .i64 hi] 3)) := ((Below.refl _ _).alloc (Nat.le_refl _) _).alloc (by simp) _
  have eg : ∀ args w, (callFunc 50 args).run Tryz.prog w = .ok (.enter 50 args) w := enters_of Tryz.func50 (by kernel_rfl) rfl
  have hcut := cut_own v xs 50 #[.pointer (some ⟨w.heap.size, 0, none⟩), .pointer (some ⟨w.heap.size + 1, 0, none⟩)] (inB lo hi) _ eg (hx.below hb) hl
    (fun x W hW => within1_any x lo hi ⟨w.heap.size, 0, none⟩ ⟨w.heap.size + 1, 0, none⟩ W (below_keep hW (by simp)) (below_keep hW (by simp)))
  clear hx eg
  go_enter Tryz.func16, Tryz.ntmps16
  go_wp2_with (go_at_call 47; refine hcut.mono ?_; rintro e w2 ⟨v2, rfl, hr, hb2⟩)
  go_ret
  exact ⟨_, rfl, ⟨_, hb.size, hr⟩, hb.trans (hb2.mono hb.size)⟩
theorem within_any (v : Value) (xs : List Rw) (lo hi : Int) (w : World) (hx : RowsAt w v xs) (hl : xs.length ≤ 1000) :
    Calls Tryz.prog 16 #[v, .int .i64 lo, .int .i64 hi] w fun e w' => ∃ v', e = .returned v' ∧ RowsAt w' v' (xs.filter (inB lo hi)) ∧ Below w.heap.size w w' :=
  (within_own v xs lo hi w hx hl).mono fun _ _ ⟨v', he, ⟨_, _, ho⟩, hb⟩ => ⟨v', he, (rowsAt_of_own ho).1, hb⟩
end Go.Proofs.YtgffkkijfmoooaaGreatDoor
