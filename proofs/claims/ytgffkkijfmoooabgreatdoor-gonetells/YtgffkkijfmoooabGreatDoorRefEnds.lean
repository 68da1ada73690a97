/-
  The contracts of the document's own KeysOf, Ends and wholeText.
-/
import Derived.Test.YtgffkkijfmoooabGreatDoorRefSum
import Derived.Test.YtgffkkijfmoooabGreatDoorRefNums
import Derived.Test.YtgffkkijfmoooabGreatDoorDataMake
namespace Go.Proofs.YtgffkkijfmoooabGreatDoor
open Go.RowKit Go.Extern.Stop Go.Stop Go.Extern Go.Sort Go.Shelf Go.Lib

def encZ (n : Int) : Value := .int .i64 n

theorem keysAt_of_own {w : World} {base : Nat} {v : Value} {zs : List Int} (h : w.ownsRow base 3 1 v zs.length (zs.map encZ)) : KeysAt w v zs := by
  obtain ⟨hl, h⟩ := h
  rcases h with ⟨hv, hn⟩ | ⟨g, cap, cur, rfl, _, hg, hc, _, _, ht⟩
  · have : zs = [] := List.length_eq_zero_iff.1 hn
    subst this
    exact .inl ⟨none, 0, hv, rfl⟩
  · refine .inr ⟨g, 0, cap, rfl, fun j hj => ?_⟩
    have hu : (zs.map encZ)[j]? = some (.int .i64 zs[j]) := by simp [hj, encZ]
    rw [← ht, List.getElem?_take, if_pos (by omega)] at hu
    simp only [World.cell?, hg, Nat.zero_add]
    simpa using hu

set_option maxRecDepth 100000 in
set_option maxHeartbeats 2000000 in
theorem keysOf_any (v : Value) (xs : List Rw) (w : World) (hx : RowsAt w v xs) (hl : xs.length ≤ 20000) :
    Calls Tryz.prog 63 #[v] w fun e w' => ∃ v', e = .returned v' ∧ KeysAt w' v' (keysR xs) ∧ Below w.heap.size w w' := by
  obtain ⟨i0, hi0, hz0, hs0, hby0⟩ := Tryz.numInfo
  obtain ⟨q, cap, rfl⟩ := hx.form
  generalize hL : xs.length = L at hx hl ⊢
  have HX : Hid (xs.length = L) := hL
  clear hL
  go_enter Tryz.func63, Tryz.ntmps63
  go_wp2
  go_loopw [3, 4] (fun out k wr => ∃ n : Nat, n ≤ L ∧ k = .int .i64 n ∧ Below w.heap.size w wr ∧ wr.ownsRow w.heap.size 3 1 out n ((keysR (xs.take n)).map encZ)) (fun _ k _ => L - (intOf k).toNat)
  case atStart => exact ⟨0, by omega, rfl, Below.refl _ _, by simp [keysG]; exact World.ownsRow_nil _ _ _ _⟩
  case round =>
    obtain ⟨n, hn, rfl, hb, hown⟩ := hrel
    have OW : Hid (wr.ownsRow w.heap.size 3 1 u3 n ((keysR (xs.take n)).map encZ)) := hown
    clear hown
    by_cases hlt : n < L
    · have hltx : n < xs.length := by rw [HX.out]; exact hlt
      have hrows := hx.below hb
      rcases hrows with ⟨_, _, e, e'⟩ | ⟨b, o, cap2, e, hcells⟩
      · exfalso; have := HX.out; rw [e'] at this; simp at this; omega
      injection e with e1 e2 e3
      subst e1
      clear e2 e3
      obtain ⟨c1, c2, c3⟩ := hcells n hltx
      clear hcells
      have hi : (n : Int) < (L : Int) := by omega
      have HK : Hid ((keysR (xs.take (n + 1))).map encZ = (keysR (xs.take n)).map encZ ++ [.int .i64 xs[n].2.1]) := by
        show _ = _
        rw [← List.take_append_getElem hltx, keys_snoc, List.map_append]
        rfl
      generalize xs[n].2.1 = xk at c2 HK
      clear c1 c3 hltx
      have hal : Below wr.heap.size wr (wr.alloc (.cells #[.int .i64 xk] 3)) := (Below.refl _ _).alloc (Nat.le_refl _) _
      have hbA : Below w.heap.size w (wr.alloc (.cells #[.int .i64 xk] 3)) := hb.alloc hb.size _
      go_wp2_with (at_builtin; refine wpList_append_own _ rfl _ _ 44 rfl w.heap.size 3 i0 (.int .i64 0) 1 8 Tryz.underlying44 hi0 hz0 hs0 hby0 rfl (by decide) u3 n ((keysR (xs.take n)).map encZ) rfl ?qc0 ⟨wr.heap.size, 0, none⟩ 1 1 [.int .i64 xk] rfl ?qc1 ?qc2 ?qc3 ?qc4 ?qc5 ?qc6 ?_)
      case qc0 => exact own_below OW.out hal
      case qc1 => rfl
      case qc2 => exact cell_one _ _ _
      case qc3 => intro u hu; simp at hu; subst hu; rfl
      case qc4 => unfold maxLen; omega
      case qc5 => omega
      case qc6 => first | exact hbA.size | (have := hb.size; omega)
      intro v' w4 hown4 hgrow hnil
      have hbC : Below w.heap.size w w4 := hbA.grown hgrow hbA.size (fun k hk => by
        rcases OW.out.2 with ⟨e, _⟩ | ⟨g', cap', cur, e, hg', _⟩
        · rw [e] at hk; simp [Value.ownBlock] at hk
        · rw [e] at hk; simp [Value.ownBlock] at hk; omega)
      have OW4 : Hid (w4.ownsRow w.heap.size 3 1 v' (n + 1) ((keysR (xs.take n)).map encZ ++ [.int .i64 xk])) := hown4
      clear hown4 hnil hgrow
      go_wp2
      go_roundw
      case rel => exact ⟨n + 1, by omega, by go_num, hbC, by rw [HK.out]; exact OW4.out⟩
      case measure => simp [intOf]; omega
    · obtain rfl : n = L := by omega
      have hta : xs.take n = xs := List.take_of_length_le (by rw [HX.out]; exact Nat.le_refl _)
      rw [hta] at OW
      have HKA : Hid (KeysAt wr u3 (keysR xs)) := keysAt_of_own (base := w.heap.size) (by
        have e : (keysR xs).length = n := by simp [keysG, HX.out]
        rw [e]; exact OW.out)
      clear hta
      go_wp2
      go_ret
      exact ⟨_, rfl, HKA.out, hb⟩

set_option maxRecDepth 100000 in
set_option maxHeartbeats 2000000 in
theorem ends_any (v : Value) (zs : List Int) (w : World) (hz : KeysAt w v zs) (hl : zs.length ≤ maxLen) :
    Calls Tryz.prog 101 #[v] w fun e w' => e = .returned (.tuple #[.int .i64 (endsZ zs).1, .int .i64 (endsZ zs).2]) ∧ w' = w := by
  unfold maxLen at hl
  rcases hz with ⟨p, c, rfl, rfl⟩ | ⟨b, o, cap, rfl, hc⟩
  · have e0 : endsZ [] = (0, 0) := rfl
    rw [e0]
    clear hl
    go_enter Tryz.func101, Tryz.ntmps101
    go_wp2
    go_ret2
    exact ⟨rfl, rfl⟩
  by_cases h0 : zs.length = 0
  · have hz0 : zs = [] := List.length_eq_zero_iff.1 h0
    subst hz0
    have e0 : endsZ [] = (0, 0) := rfl
    rw [e0]
    clear hl hc
    have e1 : ([] : List Int).length = 0 := rfl
    rw [e1]
    clear h0 e1 e0
    go_enter Tryz.func101, Tryz.ntmps101
    go_wp2
    go_ret2
    exact ⟨rfl, rfl⟩
  have c0 := hc 0 (by omega)
  simp only [Nat.add_zero] at c0
  have HZ1 : Hid (endsZ (zs.take 1) = (zs[0], zs[0])) := by
    show _ = _
    have e : zs.take 1 = [zs[0]] := by
      cases zs with
      | nil => simp at h0
      | cons z r => simp
    rw [e]; rfl
  generalize zs[0] = z0 at c0 HZ1
  have HC : Hid (∀ j (h : j < zs.length), w.cell? ⟨b, o + j, none⟩ = some (.int .i64 zs[j])) := hc
  clear hc
  generalize hL : zs.length = L at hl h0 ⊢
  have HX : Hid (zs.length = L) := hL
  clear hL
  have hL0 : ¬ (L : Int) = 0 := by omega
  have hLp : (0 : Int) < (L : Int) := by omega
  go_enter Tryz.func101, Tryz.ntmps101
  go_wp2
  go_loop [4, 5, 6] (fun lo hi k => ∃ n : Nat, 1 ≤ n ∧ n ≤ L ∧ k = .int .i64 n ∧ lo = .int .i64 (endsZ (zs.take n)).1 ∧ hi = .int .i64 (endsZ (zs.take n)).2) (fun _ _ k => L - (intOf k).toNat)
  case atStart => exact ⟨1, Nat.le_refl _, by omega, rfl, by rw [HZ1.out], by rw [HZ1.out]⟩
  case round =>
    obtain ⟨n, hn1, hn, rfl, rfl, rfl⟩ := hrel
    by_cases hlt : n < L
    · have hltx : n < zs.length := by rw [HX.out]; exact hlt
      have cn := HC.out n hltx
      have hi : (n : Int) < (L : Int) := by omega
      have hi0 : (0 : Int) ≤ (n : Int) := by omega
      have HK : Hid (endsZ (zs.take (n + 1)) = (if zs[n] < (endsZ (zs.take n)).1 then zs[n] else (endsZ (zs.take n)).1, if (endsZ (zs.take n)).2 < zs[n] then zs[n] else (endsZ (zs.take n)).2)) := by
        show _ = _
        rw [← List.take_append_getElem hltx, ends_snoc _ _ (fun e => by
          have := congrArg List.length e
          rw [List.length_take, List.length_nil] at this
          have := HX.out
          omega)]
      generalize zs[n] = z at cn HK
      generalize endsZ (zs.take n) = E at HK ⊢
      obtain ⟨lo, hi2⟩ := E
      dsimp only at HK ⊢
      clear hltx
      by_cases hl1 : z < lo
      · by_cases hl2 : hi2 < z
        · rw [if_pos hl1, if_pos hl2] at HK
          go_wp2
          go_round
          case rel => exact ⟨n + 1, by omega, by omega, by go_num, by rw [HK.out], by rw [HK.out]⟩
          case measure => simp [intOf]; omega
        · rw [if_pos hl1, if_neg hl2] at HK
          go_wp2
          go_round
          case rel => exact ⟨n + 1, by omega, by omega, by go_num, by rw [HK.out], by rw [HK.out]⟩
          case measure => simp [intOf]; omega
      · by_cases hl2 : hi2 < z
        · rw [if_neg hl1, if_pos hl2] at HK
          go_wp2
          go_round
          case rel => exact ⟨n + 1, by omega, by omega, by go_num, by rw [HK.out], by rw [HK.out]⟩
          case measure => simp [intOf]; omega
        · rw [if_neg hl1, if_neg hl2] at HK
          go_wp2
          go_round
          case rel => exact ⟨n + 1, by omega, by omega, by go_num, by rw [HK.out], by rw [HK.out]⟩
          case measure => simp [intOf]; omega
    · obtain rfl : n = L := by omega
      have hta : zs.take n = zs := List.take_of_length_le (by rw [HX.out]; exact Nat.le_refl _)
      rw [hta]
      clear hta
      go_wp2
      go_ret2
      exact ⟨rfl, rfl⟩

set_option maxRecDepth 100000 in
set_option maxHeartbeats 2000000 in
theorem wholeText_any (kw : ByteArray) (hkw : kw.size ≤ 100) (v : Value) (zs : List Int) (body : ByteArray) (w : World) (hz : KeysAt w v zs) (hl : zs.length ≤ 20000) (hb : body.size ≤ 20000) (h1 : -1073741824 ≤ (endsZ zs).1 ∧ (endsZ zs).1 ≤ 4294967296) (h2 : -1073741824 ≤ (endsZ zs).2 ∧ (endsZ zs).2 ≤ 4294967296) :
    Calls Tryz.prog 62 #[.string kw, v, .string body] w fun e w' => e = .returned (.string (bytesOf (headL kw.data.toList zs.length (endsZ zs).1 (endsZ zs).2 (sumL body.data.toList) ++ 10 :: body.data.toList))) ∧ Below w.heap.size w w' := by
  have hen := ends_any v zs w hz (by unfold maxLen; omega)
  obtain ⟨q, cap, rfl⟩ := hz.form
  have hsl := sumL_lt body.data.toList
  have hsu := fun W => sumOf_any body W (by unfold maxLen; omega)
  have HT : Hid (((((((((((kw ++ ⟨#[32]⟩) ++ bytesOf (itoa zs.length)) ++ ⟨#[32]⟩) ++ bytesOf (itoa (endsZ zs).1)) ++ ⟨#[32]⟩) ++ bytesOf (itoa (endsZ zs).2)) ++ ⟨#[32]⟩) ++ bytesOf (itoa (sumL body.data.toList))) ++ ⟨#[10]⟩) ++ body) = bytesOf (headL kw.data.toList zs.length (endsZ zs).1 (endsZ zs).2 (sumL body.data.toList) ++ 10 :: body.data.toList)) := by
    show _ = _
    apply part_ext
    simp [bytesOf, ByteArray.data_append, headL]
  have hd1 := fun W => decimal_any zs.length W (by omega) (by omega)
  have hd2 := fun W => decimal_any (endsZ zs).1 W (by omega) (by omega)
  have hd3 := fun W => decimal_any (endsZ zs).2 W (by omega) (by omega)
  have hd4 := fun W => decimal_any (sumL body.data.toList) W (by omega) (by omega)
  have z1 : (bytesOf (itoa zs.length)).size ≤ 11 := by rw [bytesOf_size]; exact itoa_len11 _ (by omega) (by omega)
  have z2 : (bytesOf (itoa (endsZ zs).1)).size ≤ 11 := by rw [bytesOf_size]; exact itoa_len11 _ h1.1 h1.2
  have z3 : (bytesOf (itoa (endsZ zs).2)).size ≤ 11 := by rw [bytesOf_size]; exact itoa_len11 _ h2.1 h2.2
  have z4 : (bytesOf (itoa (sumL body.data.toList))).size ≤ 11 := by rw [bytesOf_size]; exact itoa_len11 _ (by omega) (by omega)
  generalize bytesOf (headL kw.data.toList zs.length (endsZ zs).1 (endsZ zs).2 (sumL body.data.toList) ++ 10 :: body.data.toList) = T at HT ⊢
  generalize (endsZ zs).1 = lo at hen hd2 HT z2
  generalize (endsZ zs).2 = hi at hen hd3 HT z3
  generalize sumL body.data.toList = su at hsu hd4 HT hsl z4
  generalize zs.length = L at hen hd1 HT hl z1 ⊢
  generalize bytesOf (itoa L) = t1 at hd1 HT z1
  generalize bytesOf (itoa lo) = t2 at hd2 HT z2
  generalize bytesOf (itoa hi) = t3 at hd3 HT z3
  generalize bytesOf (itoa su) = t4 at hd4 HT z4
  clear hz h1 h2
  go_enter Tryz.func62, Tryz.ntmps62
  go_wp2_with fail
  refine hen.mono ?_
  rintro e w1 ⟨rfl, rfl⟩
  clear hen
  go_wp2_with fail
  refine (hd1 _).mono ?_
  rintro e w2 ⟨rfl, hg2⟩
  clear hd1
  go_wp2_with fail
  refine (hd2 _).mono ?_
  rintro e w3 ⟨rfl, hg3⟩
  clear hd2
  go_wp2_with fail
  refine (hd3 _).mono ?_
  rintro e w4 ⟨rfl, hg4⟩
  clear hd3
  go_wp2_with fail
  refine (hsu _).mono ?_
  rintro e w5 ⟨rfl, rfl⟩
  clear hsu
  go_wp2_with fail
  refine (hd4 _).mono ?_
  rintro e w6 ⟨rfl, hg6⟩
  clear hd4
  have b2 := hg2.below
  have b3 := b2.trans (hg3.below.mono b2.size)
  have b4 := b3.trans (hg4.below.mono b3.size)
  have b6 := b4.trans (hg6.below.mono b4.size)
  clear hg2 hg3 hg4 hg6
  go_wp2
  go_ret
  exact ⟨congrArg (fun x => Ending.returned (Value.string x)) HT.out, b6⟩
end Go.Proofs.YtgffkkijfmoooabGreatDoor
