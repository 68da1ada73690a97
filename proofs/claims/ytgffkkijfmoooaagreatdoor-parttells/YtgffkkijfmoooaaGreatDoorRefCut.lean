/-
  The contracts of the document's own IsLess, DropRows and WithinRows.
-/
import Derived.Test.YtgffkkijfmoooaaGreatDoorRefRow
namespace Go.Proofs.YtgffkkijfmoooaaGreatDoor
open Go.RowKit Go.Extern.Stop Go.Stop Go.Extern Go.Sort Go.Shelf Go.Lib

theorem cells_three (wr : World) (xp : ByteArray) (xk xv : Int) (j : Nat) (u : Value) (hj : (encR (xp, xk, xv))[j]? = some u) : (wr.alloc (.cells #[.string xp, .int .i64 xk, .int .i64 xv] 30)).cell? ⟨wr.heap.size, j, none⟩ = some u := by
  match j, hj with
  | 0, hj => simp [encR] at hj; subst hj; simp
  | 1, hj => simp [encR] at hj; subst hj; simp
  | 2, hj => simp [encR] at hj; subst hj; simp
  | j + 3, hj => simp [encR] at hj

theorem bytesLess_cb : ∀ a b : List UInt8, Op.bytesLess a b = decide (Lib.compareBytes a b < 0)
  | [], [] => by simp [Op.bytesLess, Lib.compareBytes]
  | [], _ :: _ => by simp [Op.bytesLess, Lib.compareBytes]
  | _ :: _, [] => by simp [Op.bytesLess, Lib.compareBytes]
  | a :: us, b :: vs => by
    have ih := bytesLess_cb us vs
    unfold Op.bytesLess Lib.compareBytes
    by_cases h1 : a < b
    · simp [h1]
    · by_cases h2 : b < a
      · have h3 : ¬ a = b := fun e => by subst e; exact UInt8.lt_irrefl _ h2
        simp [h1, h2, h3]
      · have h3 : a = b := by
          rw [UInt8.lt_iff_toNat_lt] at h1 h2
          exact UInt8.toNat_inj.1 (by omega)
        subst h3
        simp [ih]

set_option maxHeartbeats 1000000 in
theorem isLess_any (x y : Rw) (w : World) :
    Calls Tryz.prog 26 #[.agg #[.string x.1, .int .i64 x.2.1, .int .i64 x.2.2], .agg #[.string y.1, .int .i64 y.2.1, .int .i64 y.2.2]] w fun e w' => e = .returned (.bool (ltOf cfR x y)) ∧ Below w.heap.size w w' := by
  obtain ⟨xp, xk, xv⟩ := x
  obtain ⟨yp, yk, yv⟩ := y
  dsimp only
  have hb0 : Below w.heap.size w ((w.alloc (.cells #[.string xp, .int .i64 xk, .int .i64 xv] 30)).alloc (.cells #[.string yp, .int .i64 yk, .int .i64 yv] 30)) := ((Below.refl _ _).alloc (Nat.le_refl _) _).alloc (by simp) _
  by_cases hp : xp = yp
  · subst hp
    have hc0 : Lib.compareBytes xp.data.toList xp.data.toList = 0 := cb_self _
    by_cases hk : xk = yk
    · subst hk
      have hr : ltOf cfR (xp, xk, xv) (xp, xk, yv) = decide (xv < yv) := by
        have hci : Lib.compareInt xk xk = 0 := by rcases ci_cases xk xk with ⟨h, _⟩ | ⟨_, h⟩ | ⟨h, _⟩ <;> omega
        unfold ltOf cfR orOf
        dsimp only
        rw [if_pos hc0, if_pos hci]
        rcases ci_cases xv yv with ⟨h, e⟩ | ⟨h, e⟩ | ⟨h, e⟩ <;> rw [e] <;> simp <;> omega
      rw [hr]
      clear hr hc0
      go_enter Tryz.func26, Tryz.ntmps26
      go_wp2
      go_ret
      exact ⟨rfl, hb0⟩
    · have hr : ltOf cfR (xp, xk, xv) (xp, yk, yv) = decide (xk < yk) := by
        unfold ltOf cfR orOf
        dsimp only
        rw [if_pos hc0]
        rcases ci_cases xk yk with ⟨h, e⟩ | ⟨h, e⟩ | ⟨h, e⟩
        · rw [e]; simp; omega
        · exact absurd h hk
        · rw [e]; simp; omega
      rw [hr]
      have hk' : (xk == yk) = false := by simpa using hk
      clear hr hc0 hk
      go_enter Tryz.func26, Tryz.ntmps26
      go_wp2
      go_ret
      exact ⟨rfl, hb0⟩
  · have hne : ¬ Lib.compareBytes xp.data.toList yp.data.toList = 0 := fun e => hp (part_ext (cb_eq _ _ e))
    have hr : ltOf cfR (xp, xk, xv) (yp, yk, yv) = decide (Lib.compareBytes xp.data.toList yp.data.toList < 0) := by
      unfold ltOf cfR orOf
      dsimp only
      rw [if_neg hne]
    rw [hr]
    have hp' : (xp.toList == yp.toList) = false := by
      rw [ByteArray.toList_eq, ByteArray.toList_eq]
      simpa using fun e => hp (part_ext e)
    have hl : Op.bytesLess xp.toList yp.toList = decide (Lib.compareBytes xp.data.toList yp.data.toList < 0) := by
      rw [ByteArray.toList_eq, ByteArray.toList_eq]; exact bytesLess_cb _ _
    have HLS : Hid (Op.bytesLess xp.toList yp.toList = decide (Lib.compareBytes xp.data.toList yp.data.toList < 0)) := hl
    clear hl
    clear hr hne hp
    go_enter Tryz.func26, Tryz.ntmps26
    go_wp2
    go_ret
    exact ⟨congrArg (fun b => Ending.returned (Value.bool b)) HLS.out, hb0⟩

set_option maxRecDepth 100000 in
set_option maxHeartbeats 2000000 in
theorem dropRows_any (v : Value) (xs : List Rw) (kv : Value) (zs : List Int) (w : World) (hx : RowsAt w v xs) (hl : xs.length ≤ 1000) (hz : KeysAt w kv zs) (hlz : zs.length ≤ maxLen) :
    Calls Tryz.prog 28 #[v, kv] w fun e w' => ∃ v', e = .returned v' ∧ RowsAt w' v' (xs.filter (outB zs)) ∧ Below w.heap.size w w' := by
  rcases hx with ⟨p0, c0, rfl, rfl⟩ | ⟨b, o, cap, rfl, hx⟩
  · clear hl
    go_enter Tryz.func28, Tryz.ntmps28
    go_wp2
    refine wp_loop_rounds 1 ?_
    rw [rounds_succ]
    go_wp2
    go_ret
    exact ⟨_, rfl, Or.inl ⟨_, _, rfl, rfl⟩, Below.refl _ _⟩
  obtain ⟨i0, hi0, hz0, hs0, hby0⟩ := Tryz.rowInfo
  generalize hL : xs.length = L at hl ⊢
  have HX : Hid (xs.length = L) := hL
  clear hL
  go_enter Tryz.func28, Tryz.ntmps28
  go_wp2
  go_loopw [5, 6] (fun kept k wr => ∃ n : Nat, n ≤ L ∧ k = .int .i64 n ∧ Below w.heap.size w wr ∧ wr.ownsRow w.heap.size 30 3 kept ((xs.take n).filter (outB zs)).length (flatR ((xs.take n).filter (outB zs)))) (fun _ k _ => L - (intOf k).toNat)
  case atStart => exact ⟨0, by omega, rfl, Below.refl _ _, by simp [flatR]; exact World.ownsRow_nil _ _ _ _⟩
  case round =>
    obtain ⟨n, hn, rfl, hb, hown⟩ := hrel
    by_cases hlt : n < L
    · have hltx : n < xs.length := by rw [HX.out]; exact hlt
      obtain ⟨h1, h2, h3⟩ := hx.below hb n hltx
      have hi : (n : Int) < (L : Int) := by omega
      have hf := filter_snoc (outB zs) xs n hltx
      generalize hxx : xs[n] = x at h1 h2 h3 hf
      have HF : Hid ((xs.take (n + 1)).filter (outB zs) = (xs.take n).filter (outB zs) ++ if outB zs x then [x] else []) := hf
      clear hf hxx
      obtain ⟨xp, xk, xv⟩ := x
      have OW : Hid (wr.ownsRow w.heap.size 30 3 u5 ((xs.take n).filter (outB zs)).length (flatR ((xs.take n).filter (outB zs)))) := hown
      have hlen : ((xs.take n).filter (outB zs)).length ≤ n := Nat.le_trans (List.length_filter_le _ _) (List.length_take_le _ _)
      have LEN : Hid (((xs.take n).filter (outB zs)).length ≤ n) := hlen
      clear hown hlen hx
      have hin := inInts_any kv zs xk wr (hz.below hb) hlz
      have hout : outB zs (xp, xk, xv) = !zs.contains xk := rfl
      rw [hout] at HF
      generalize zs.contains xk = r at hin HF
      clear hout
      cases hpv : (!r)
      · have HF' : Hid ((xs.take (n + 1)).filter (outB zs) = (xs.take n).filter (outB zs)) := by
          have := HF.out
          rw [hpv] at this
          simpa [Hid] using this
        have hr : r = true := by simpa using hpv
        subst hr
        clear hpv HF
        go_wp2_with (go_at_call 61; refine hin.mono ?_; rintro e w2 ⟨rfl, rfl⟩)
        go_roundw
        case rel => exact ⟨n + 1, by omega, by go_num, hb, by rw [HF'.out]; exact OW.out⟩
        case measure => simp [intOf]; omega
      · have HF' : Hid ((xs.take (n + 1)).filter (outB zs) = (xs.take n).filter (outB zs) ++ [(xp, xk, xv)]) := by
          have := HF.out
          rw [hpv] at this
          simpa [Hid] using this
        have hr : r = false := by simpa using hpv
        subst hr
        clear hpv HF
        generalize hK : (xs.take n).filter (outB zs) = K at OW LEN HF'
        clear hK
        have hal : Below wr.heap.size wr (wr.alloc (.cells #[.string xp, .int .i64 xk, .int .i64 xv] 30)) := (Below.refl _ _).alloc (Nat.le_refl _) _
        have hbA : Below w.heap.size w (wr.alloc (.cells #[.string xp, .int .i64 xk, .int .i64 xv] 30)) := hb.alloc hb.size _
        go_wp2_with (first | (go_at_call 61; refine hin.mono ?_; rintro e w2 ⟨rfl, hw⟩; rw [hw]; clear hw) | (at_builtin; refine wpList_append_own _ rfl _ _ 22 rfl w.heap.size 30 i0 (.agg #[.string ⟨#[]⟩, .int .i64 0, .int .i64 0]) 3 32 Tryz.underlying22 hi0 hz0 hs0 hby0 rfl (by decide) u5 K.length (flatR K) rfl ?qc0 ⟨wr.heap.size, 0, none⟩ 1 1 (encR (xp, xk, xv)) rfl ?qc1 ?qc2 ?qc3 ?qc4 ?qc5 ?qc6 ?_))
        case qc0 => exact own_below OW.out hal
        case qc1 => rfl
        case qc2 =>
          intro j u hj
          first
            | exact hj
            | (simpa [encR] using hj)
            | (rw [Addr.add_lit, Nat.zero_add]; exact cells_three wr xp xk xv j u hj)
        case qc3 => exact encR_one _
        case qc4 => have := LEN.out; unfold maxLen; omega
        case qc5 => have := LEN.out; omega
        case qc6 => first | exact hbA.size | (have := hb.size; omega)
        intro v' w4 hown4 hgrow hnil
        have hbC : Below w.heap.size w w4 := hbA.grown hgrow hbA.size (fun k hk => by
          rcases OW.out.2 with ⟨e, _⟩ | ⟨g', cap', cur, e, hg', _⟩
          · rw [e] at hk; simp [Value.ownBlock] at hk
          · rw [e] at hk; simp [Value.ownBlock] at hk; omega)
        have OW4 : Hid (w4.ownsRow w.heap.size 30 3 v' (K.length + 1) (flatR K ++ encR (xp, xk, xv))) := hown4
        clear hown4 hnil hgrow
        go_wp2
        go_roundw
        case rel => exact ⟨n + 1, by omega, by go_num, hbC, by rw [HF'.out, List.length_append, flat_append, flat_single]; exact OW4.out⟩
        case measure => simp [intOf]; omega
    · have hn' : n = L := by omega
      subst hn'
      have ht : xs.take n = xs := List.take_of_length_le (by rw [HX.out]; omega)
      rw [ht] at hown
      have OW : Hid (wr.ownsRow w.heap.size 30 3 u5 (xs.filter (outB zs)).length (flatR (xs.filter (outB zs)))) := hown
      clear hown ht
      go_wp2
      go_ret
      exact ⟨u5, rfl, (rowsAt_of_own OW.out).1, hb⟩

set_option maxRecDepth 100000 in
set_option maxHeartbeats 2000000 in
theorem withinRows_any (v : Value) (xs : List Rw) (lo hi : Int) (w : World) (hx : RowsAt w v xs) (hl : xs.length ≤ 1000) :
    Calls Tryz.prog 29 #[v, .int .i64 lo, .int .i64 hi] w fun e w' => ∃ v', e = .returned v' ∧ RowsAt w' v' (xs.filter (inB lo hi)) ∧ Below w.heap.size w w' := by
  rcases hx with ⟨p0, c0, rfl, rfl⟩ | ⟨b, o, cap, rfl, hx⟩
  · clear hl
    go_enter Tryz.func29, Tryz.ntmps29
    go_wp2
    refine wp_loop_rounds 1 ?_
    rw [rounds_succ]
    go_wp2
    go_ret
    exact ⟨_, rfl, Or.inl ⟨_, _, rfl, rfl⟩, Below.refl _ _⟩
  obtain ⟨i0, hi0, hz0, hs0, hby0⟩ := Tryz.rowInfo
  generalize hL : xs.length = L at hl ⊢
  have HX : Hid (xs.length = L) := hL
  clear hL
  go_enter Tryz.func29, Tryz.ntmps29
  go_wp2
  go_loopw [7, 8] (fun kept k wr => ∃ n : Nat, n ≤ L ∧ k = .int .i64 n ∧ Below w.heap.size w wr ∧ wr.ownsRow w.heap.size 30 3 kept ((xs.take n).filter (inB lo hi)).length (flatR ((xs.take n).filter (inB lo hi)))) (fun _ k _ => L - (intOf k).toNat)
  case atStart => exact ⟨0, by omega, rfl, Below.refl _ _, by simp [flatR]; exact World.ownsRow_nil _ _ _ _⟩
  case round =>
    obtain ⟨n, hn, rfl, hb, hown⟩ := hrel
    by_cases hlt : n < L
    · have hltx : n < xs.length := by rw [HX.out]; exact hlt
      obtain ⟨h1, h2, h3⟩ := hx.below hb n hltx
      have hin : (n : Int) < (L : Int) := by omega
      have hf := filter_snoc (inB lo hi) xs n hltx
      generalize hxx : xs[n] = x at h1 h2 h3 hf
      have HF : Hid ((xs.take (n + 1)).filter (inB lo hi) = (xs.take n).filter (inB lo hi) ++ if inB lo hi x then [x] else []) := hf
      clear hf hxx
      obtain ⟨xp, xk, xv⟩ := x
      have OW : Hid (wr.ownsRow w.heap.size 30 3 u7 ((xs.take n).filter (inB lo hi)).length (flatR ((xs.take n).filter (inB lo hi)))) := hown
      have hlen : ((xs.take n).filter (inB lo hi)).length ≤ n := Nat.le_trans (List.length_filter_le _ _) (List.length_take_le _ _)
      have LEN : Hid (((xs.take n).filter (inB lo hi)).length ≤ n) := hlen
      clear hown hlen hx

      by_cases g1 : lo ≤ xk
      · by_cases g2 : xk ≤ hi
        · have hpv : inB lo hi (xp, xk, xv) = true := by simp [inB, g1, g2]
          have HF' : Hid ((xs.take (n + 1)).filter (inB lo hi) = (xs.take n).filter (inB lo hi) ++ [(xp, xk, xv)]) := by
            have := HF.out
            rw [hpv] at this
            simpa [Hid] using this
          generalize hK : (xs.take n).filter (inB lo hi) = K at OW LEN HF'
          clear hK
          have hal : Below wr.heap.size wr (wr.alloc (.cells #[.string xp, .int .i64 xk, .int .i64 xv] 30)) := (Below.refl _ _).alloc (Nat.le_refl _) _
          have hbA : Below w.heap.size w (wr.alloc (.cells #[.string xp, .int .i64 xk, .int .i64 xv] 30)) := hb.alloc hb.size _
          go_wp2_with (at_builtin; refine wpList_append_own _ rfl _ _ 22 rfl w.heap.size 30 i0 (.agg #[.string ⟨#[]⟩, .int .i64 0, .int .i64 0]) 3 32 Tryz.underlying22 hi0 hz0 hs0 hby0 rfl (by decide) u7 K.length (flatR K) rfl ?qc0 ⟨wr.heap.size, 0, none⟩ 1 1 (encR (xp, xk, xv)) rfl ?qc1 ?qc2 ?qc3 ?qc4 ?qc5 ?qc6 ?_)
          case qc0 => exact own_below OW.out hal
          case qc1 => rfl
          case qc2 =>
            intro j u hj
            first
              | exact hj
              | (simpa [encR] using hj)
              | (rw [Addr.add_lit, Nat.zero_add]; exact cells_three wr xp xk xv j u hj)
          case qc3 => exact encR_one _
          case qc4 => have := LEN.out; unfold maxLen; omega
          case qc5 => have := LEN.out; omega
          case qc6 => first | exact hbA.size | (have := hb.size; omega)
          intro v' w4 hown4 hgrow hnil
          have hbC : Below w.heap.size w w4 := hbA.grown hgrow hbA.size (fun k hk => by
            rcases OW.out.2 with ⟨e, _⟩ | ⟨g', cap', cur, e, hg', _⟩
            · rw [e] at hk; simp [Value.ownBlock] at hk
            · rw [e] at hk; simp [Value.ownBlock] at hk; omega)
          have OW4 : Hid (w4.ownsRow w.heap.size 30 3 v' (K.length + 1) (flatR K ++ encR (xp, xk, xv))) := hown4
          clear hown4 hnil hgrow
          go_wp2
          go_roundw
          case rel => exact ⟨n + 1, by omega, by go_num, hbC, by rw [HF'.out, List.length_append, flat_append, flat_single]; exact OW4.out⟩
          case measure => simp [intOf]; omega
        · have hpv : inB lo hi (xp, xk, xv) = false := by simp [inB, g2]
          have HF' : Hid ((xs.take (n + 1)).filter (inB lo hi) = (xs.take n).filter (inB lo hi)) := by
            have := HF.out
            rw [hpv] at this
            simpa [Hid] using this
          go_wp2
          go_roundw
          case rel => exact ⟨n + 1, by omega, by go_num, hb, by rw [HF'.out]; exact OW.out⟩
          case measure => simp [intOf]; omega
      · have hpv : inB lo hi (xp, xk, xv) = false := by simp [inB, g1]
        have HF' : Hid ((xs.take (n + 1)).filter (inB lo hi) = (xs.take n).filter (inB lo hi)) := by
          have := HF.out
          rw [hpv] at this
          simpa [Hid] using this
        go_wp2
        go_roundw
        case rel => exact ⟨n + 1, by omega, by go_num, hb, by rw [HF'.out]; exact OW.out⟩
        case measure => simp [intOf]; omega
    · have hn' : n = L := by omega
      subst hn'
      have ht : xs.take n = xs := List.take_of_length_le (by rw [HX.out]; omega)
      rw [ht] at hown
      have OW : Hid (wr.ownsRow w.heap.size 30 3 u7 (xs.filter (inB lo hi)).length (flatR (xs.filter (inB lo hi)))) := hown
      clear hown ht
      go_wp2
      go_ret
      exact ⟨u7, rfl, (rowsAt_of_own OW.out).1, hb⟩
end Go.Proofs.YtgffkkijfmoooaaGreatDoor
