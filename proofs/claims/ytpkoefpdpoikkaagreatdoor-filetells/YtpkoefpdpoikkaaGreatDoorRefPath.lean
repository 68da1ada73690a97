/-
  The contract of the document's own PathOf.
-/
import Derived.Test.YtpkoefpdpoikkaaGreatDoorRefEnds
namespace Go.Proofs.YtpkoefpdpoikkaaGreatDoor
open Go.RowKit Go.Extern.Stop Go.Stop Go.Extern Go.Sort Go.Shelf Go.Lib

def CutInvD (d : UInt8) (l : List UInt8) (f n : Nat) (ts : List ByteArray) : Prop :=
  f ≤ n ∧ ts.length ≤ f ∧ (∀ c ∈ (l.drop f).take (n - f), c ≠ d) ∧ ts.map (·.data.toList) ++ pieces d (l.drop f) = pieces d l

theorem cutd_zero (d : UInt8) (l : List UInt8) : CutInvD d l 0 0 [] := ⟨Nat.le_refl _, Nat.le_refl _, by simp, by simp⟩

theorem cutd_skip {d : UInt8} {l : List UInt8} {f n : Nat} {ts : List ByteArray} {c : UInt8} (h : CutInvD d l f n ts) (hc : l[n]? = some c) (hne : c ≠ d) : CutInvD d l f (n + 1) ts := by
  obtain ⟨h1, h2, h3, h4⟩ := h
  refine ⟨by omega, h2, fun g hd => ?_, h4⟩
  obtain ⟨k, hk⟩ := List.mem_iff_getElem?.1 hd
  rw [List.getElem?_take] at hk
  split at hk
  · rename_i hlt
    rw [List.getElem?_drop] at hk
    rcases Nat.lt_or_ge k (n - f) with h' | h'
    · refine h3 g (List.mem_iff_getElem?.2 ⟨k, ?_⟩)
      rw [List.getElem?_take, if_pos h', List.getElem?_drop, hk]
    · rw [show f + k = n by omega, hc] at hk
      rw [← Option.some.inj hk]; exact hne
  · cases hk

theorem cutd_hit {d : UInt8} {s : ByteArray} {f n : Nat} {ts : List ByteArray} (h : CutInvD d s.data.toList f n ts) (hc : s.data.toList[n]? = some d) : CutInvD d s.data.toList (n + 1) (n + 1) (ts ++ [s.extract f n]) := by
  obtain ⟨h1, h2, h3, h4⟩ := h
  refine ⟨Nat.le_refl _, by simp; omega, by simp, ?_⟩
  have hn : n < s.data.toList.length := by
    rcases Nat.lt_or_ge n s.data.toList.length with h | h
    · exact h
    · rw [List.getElem?_eq_none h] at hc; cases hc
  have hsp : s.data.toList.drop f = (s.data.toList.drop f).take (n - f) ++ d :: s.data.toList.drop (n + 1) := by
    have e1 := List.take_append_drop (n - f) (s.data.toList.drop f)
    rw [List.drop_drop, show f + (n - f) = n by omega, List.drop_eq_getElem_cons hn] at e1
    rw [List.getElem?_eq_getElem hn] at hc
    rw [Option.some.inj hc] at e1
    exact e1.symm
  rw [hsp, pieces_append d _ _ h3] at h4
  rw [← h4, List.map_append, List.append_assoc]
  congr 1
  simp only [List.map_cons, List.map_nil, List.cons_append, List.nil_append]
  rw [extract_data]

theorem cutd_end {d : UInt8} {s : ByteArray} {f : Nat} {ts : List ByteArray} (h : CutInvD d s.data.toList f s.size ts) : (ts ++ [s.extract f s.size]).map (·.data.toList) = pieces d s.data.toList := by
  obtain ⟨h1, h2, h3, h4⟩ := h
  rw [List.take_of_length_le (by rw [List.length_drop, size_list]; omega)] at h3
  rw [pieces_none d _ h3] at h4
  rw [← h4, List.map_append]
  simp only [List.map_cons, List.map_nil, extract_to_end]

set_option maxRecDepth 100000 in
set_option maxHeartbeats 2000000 in
theorem cutBy_any (d : UInt8) (s : ByteArray) (w : World) (hs : s.size < 4294967281) :
    Calls Tryz.prog 82 #[.string s, .int .u8 d.toNat] w fun e w' => ∃ v ts, e = .returned v ∧ TextsAt w' v ts ∧ ts.map (·.data.toList) = pieces d s.data.toList ∧ Below w.heap.size w w' := by
  obtain ⟨i0, hi0, hz0, hs0, hby0⟩ := Tryz.strInfo
  go_enter Tryz.func82, Tryz.ntmps82
  go_wp2
  go_loopw [5, 6, 7] (fun out from' k wr => ∃ (n f : Nat) (ts : List ByteArray), n ≤ s.size ∧ k = .int .i64 n ∧ from' = .int .i64 f ∧ Below w.heap.size w wr ∧ CutInvD d s.data.toList f n ts ∧ wr.ownsRow w.heap.size 9 1 out ts.length (ts.map Value.string)) (fun _ _ k _ => s.size - (intOf k).toNat)
  case atStart => exact ⟨0, 0, [], by omega, rfl, rfl, Below.refl _ _, cutd_zero _ _, by simp; exact World.ownsRow_nil _ _ _ _⟩
  case round =>
    obtain ⟨n, f, ts, hn, rfl, rfl, hb, hci, hown⟩ := hrel
    have OW : Hid (wr.ownsRow w.heap.size 9 1 u5 ts.length (ts.map Value.string)) := hown
    have CI : Hid (CutInvD d s.data.toList f n ts) := hci
    have hfn : f ≤ n := hci.1
    have htl : ts.length ≤ f := hci.2.1
    have TL : Hid (ts.length ≤ f) := htl
    clear hown hci htl
    by_cases hlt : n < s.size
    · have hi : (n : Int) < (s.size : Int) := by omega
      have hby := byte_list s n hlt
      by_cases hc : s[n].toNat = d.toNat
      · have hc' : (s[n].toNat : Int) = d.toNat := by omega
        have HC : Hid (s.data.toList[n]? = some d) := by
          rw [hby]
          exact congrArg some (UInt8.toNat_inj.1 hc)
        clear hby hc
        have hal : Below wr.heap.size wr (wr.alloc (.cells #[.string (s.extract f n)] 9)) := (Below.refl _ _).alloc (Nat.le_refl _) _
        have hbA : Below w.heap.size w (wr.alloc (.cells #[.string (s.extract f n)] 9)) := hb.alloc hb.size _
        go_wp2_with (at_builtin; refine wpList_append_own _ rfl _ _ 97 rfl w.heap.size 9 i0 (.string ⟨#[]⟩) 1 16 Tryz.underlying97 hi0 hz0 hs0 hby0 rfl (by decide) u5 ts.length (ts.map Value.string) rfl ?qc0 ⟨wr.heap.size, 0, none⟩ 1 1 [.string (s.extract f n)] rfl ?qc1 ?qc2 ?qc3 ?qc4 ?qc5 ?qc6 ?_)
        case qc0 => exact own_below OW.out hal
        case qc1 => rfl
        case qc2 => exact cell_one _ _ _
        case qc3 => intro u hu; simp at hu; subst hu; rfl
        case qc4 => have := TL.out; unfold maxLen; omega
        case qc5 => have := TL.out; omega
        case qc6 => first | exact hbA.size | (have := hb.size; omega)
        intro v' w4 hown4 hgrow hnil
        have hbC : Below w.heap.size w w4 := hbA.grown hgrow hbA.size (fun k hk => by
          rcases OW.out.2 with ⟨e, _⟩ | ⟨g', cap', cur, e, hg', _⟩
          · rw [e] at hk; simp [Value.ownBlock] at hk
          · rw [e] at hk; simp [Value.ownBlock] at hk; omega)
        have OW4 : Hid (w4.ownsRow w.heap.size 9 1 v' (ts.length + 1) (ts.map Value.string ++ [.string (s.extract f n)])) := hown4
        clear hown4 hnil hgrow
        go_wp2
        go_roundw
        case rel => exact ⟨n + 1, n + 1, ts ++ [s.extract f n], by omega, by go_num, by go_num, hbC, cutd_hit CI.out HC.out, by rw [List.length_append, List.map_append]; exact OW4.out⟩
        case measure => simp [intOf]; omega
      · have hc' : ¬ (s[n].toNat : Int) = d.toNat := by omega
        have CI' : Hid (CutInvD d s.data.toList f (n + 1) ts) := cutd_skip CI.out hby (fun e => hc (by rw [e]))
        clear hby hc
        go_wp2
        go_roundw
        case rel => exact ⟨n + 1, f, ts, by omega, by go_num, by go_num, hb, CI'.out, OW.out⟩
        case measure => simp [intOf]; omega
    · have hn' : n = s.size := by omega
      subst hn'
      have hal : Below wr.heap.size wr (wr.alloc (.cells #[.string (s.extract f s.size)] 9)) := (Below.refl _ _).alloc (Nat.le_refl _) _
      have hbA : Below w.heap.size w (wr.alloc (.cells #[.string (s.extract f s.size)] 9)) := hb.alloc hb.size _
      go_wp2_with (at_builtin; refine wpList_append_own _ rfl _ _ 97 rfl w.heap.size 9 i0 (.string ⟨#[]⟩) 1 16 Tryz.underlying97 hi0 hz0 hs0 hby0 rfl (by decide) u5 ts.length (ts.map Value.string) rfl ?qc0 ⟨wr.heap.size, 0, none⟩ 1 1 [.string (s.extract f s.size)] rfl ?qc1 ?qc2 ?qc3 ?qc4 ?qc5 ?qc6 ?_)
      case qc0 => exact own_below OW.out hal
      case qc1 => rfl
      case qc2 => exact cell_one _ _ _
      case qc3 => intro u hu; simp at hu; subst hu; rfl
      case qc4 => have := TL.out; unfold maxLen; omega
      case qc5 => have := TL.out; omega
      case qc6 => first | exact hbA.size | (have := hb.size; omega)
      intro v' w4 hown4 hgrow hnil
      have hbC : Below w.heap.size w w4 := hbA.grown hgrow hbA.size (fun k hk => by
        rcases OW.out.2 with ⟨e, _⟩ | ⟨g', cap', cur, e, hg', _⟩
        · rw [e] at hk; simp [Value.ownBlock] at hk
        · rw [e] at hk; simp [Value.ownBlock] at hk; omega)
      have OW4 : Hid (w4.ownsRow w.heap.size 9 1 v' (ts.length + 1) (ts.map Value.string ++ [.string (s.extract f s.size)])) := hown4
      clear hown4 hnil hgrow
      go_wp2
      go_ret
      exact ⟨v', ts ++ [s.extract f s.size], rfl, textsAt_of_own (base := w.heap.size) (by simp) (by rw [List.length_append, List.map_append]; exact OW4.out), cutd_end CI.out, hbC⟩

def NumsPost (w : World) (e : Ending) (ts : List ByteArray) : Prop :=
  (∃ (zs : List Int) (v : Value), zs.length = ts.length ∧ (∀ (j : Nat) (t : ByteArray), ts[j]? = some t → numO t.data.toList = zs[j]?) ∧ e = .returned (.tuple #[v, .bool true]) ∧ KeysAt w v zs) ∨
  (∃ (j : Nat) (t : ByteArray), ts[j]? = some t ∧ numO t.data.toList = none ∧ e = .returned (.tuple #[.slice none 0 0, .bool false]))
def NumsPostN (B : Nat) (w : World) (e : Ending) (ts : List ByteArray) : Prop :=
  (∃ (zs : List Int) (v : Value), zs.length = ts.length ∧ (∀ (j : Nat) (t : ByteArray), ts[j]? = some t → numO t.data.toList = zs[j]?) ∧ e = .returned (.tuple #[v, .bool true]) ∧ KeysAt w v zs ∧ ∀ k, v.ownBlock = some k → B ≤ k) ∨
  (∃ (j : Nat) (t : ByteArray), ts[j]? = some t ∧ numO t.data.toList = none ∧ e = .returned (.tuple #[.slice none 0 0, .bool false]))
theorem NumsPostN.weak {B : Nat} {w : World} {e : Ending} {ts : List ByteArray} (h : NumsPostN B w e ts) : NumsPost w e ts := by
  rcases h with ⟨zs, g, h1, h2, h3, h4, _⟩ | h
  · exact Or.inl ⟨zs, g, h1, h2, h3, h4⟩
  · exact Or.inr h

set_option maxRecDepth 100000 in
set_option maxHeartbeats 2000000 in
theorem numbersOf_new (b o cap : Nat) (ts : List ByteArray) (w : World) (hc : ∀ j (h : j < ts.length), w.cell? ⟨b, o + j, none⟩ = some (.string ts[j])) (hs : ∀ t ∈ ts, t.size ≤ maxLen) (hl : ts.length ≤ 20000) :
    Calls Tryz.prog 83 #[.slice (some ⟨b, o, none⟩) ts.length cap] w fun e w' => NumsPostN w.heap.size w' e ts ∧ Below w.heap.size w w' := by
  obtain ⟨i0, hi0, hz0, hs0, hby0⟩ := Tryz.numInfo
  have HC : Hid (∀ j (h : j < ts.length), w.cell? ⟨b, o + j, none⟩ = some (.string ts[j])) := hc
  have HS : Hid (∀ t ∈ ts, t.size ≤ maxLen) := hs
  obtain ⟨L, hL⟩ : ∃ L, ts.length = L := ⟨_, rfl⟩
  have HX : Hid (ts.length = L) := hL
  rw [hL] at hl ⊢
  clear hL hc hs
  go_enter Tryz.func83, Tryz.ntmps83
  go_wp2
  go_loopw [4, 5] (fun out k wr => ∃ (n : Nat) (zs : List Int), n ≤ L ∧ k = .int .i64 n ∧ Below w.heap.size w wr ∧ zs.length = n ∧ (∀ j t, j < n → ts[j]? = some t → numO t.data.toList = zs[j]?) ∧ wr.ownsRow w.heap.size 3 1 out n (zs.map encZ)) (fun _ k _ => L - (intOf k).toNat)
  case atStart => exact ⟨0, [], by omega, rfl, Below.refl _ _, rfl, fun j t h => absurd h (Nat.not_lt_zero _), by simp; exact World.ownsRow_nil _ _ _ _⟩
  case round =>
    obtain ⟨n, zs, hn, rfl, hb, hzl, hzs, hown⟩ := hrel
    have OW : Hid (wr.ownsRow w.heap.size 3 1 u4 n (zs.map encZ)) := hown
    have HZL : Hid (zs.length = n) := hzl
    have HZS : Hid (∀ j t, j < n → ts[j]? = some t → numO t.data.toList = zs[j]?) := hzs
    clear hown hzl hzs
    by_cases hlt : n < L
    · have hltx : n < ts.length := by rw [HX.out]; exact hlt
      have c1 := below_keep hb (HC.out n hltx)
      have HG : Hid (ts[n]? = some ts[n]) := List.getElem?_eq_getElem hltx
      have hnum := fun W => numberOf_any ts[n] W (HS.out _ (List.getElem_mem _))
      generalize ts[n] = t at c1 HG hnum
      unfold numR at hnum
      have hi : (n : Int) < (L : Int) := by omega
      have hi0' : (0 : Int) ≤ (n : Int) := by omega
      clear hltx
      cases hk : numO t.data.toList with
      | none =>
        rw [hk] at hnum
        dsimp only at hnum
        have HK : Hid (numO t.data.toList = none) := hk
        clear hk
        go_wp2_with (go_at_call 77; refine (hnum _).mono ?_; rintro e w1 ⟨rfl, hw⟩; rw [hw]; clear hw)
        go_ret2
        exact ⟨Or.inr ⟨n, t, HG.out, HK.out, rfl⟩, hb⟩
      | some x =>
        rw [hk] at hnum
        dsimp only at hnum
        have HK : Hid (numO t.data.toList = some x) := hk
        clear hk
        have hal : Below wr.heap.size wr (wr.alloc (.cells #[.int .i64 x] 3)) := (Below.refl _ _).alloc (Nat.le_refl _) _
        have hbA : Below w.heap.size w (wr.alloc (.cells #[.int .i64 x] 3)) := hb.alloc hb.size _
        go_wp2_with (first
          | (go_at_call 77; refine (hnum _).mono ?_; rintro e w1 ⟨rfl, hw⟩; rw [hw]; clear hw)
          | (at_builtin; refine wpList_append_own _ rfl _ _ 93 rfl w.heap.size 3 i0 (.int .i64 0) 1 8 Tryz.underlying93 hi0 hz0 hs0 hby0 rfl (by decide) u4 n (zs.map encZ) rfl ?qc0 ⟨wr.heap.size, 0, none⟩ 1 1 [.int .i64 x] rfl ?qc1 ?qc2 ?qc3 ?qc4 ?qc5 ?qc6 ?_))
        case qc0 => exact own_below OW.out hal
        case qc1 => rfl
        case qc2 => exact cell_one _ _ _
        case qc3 => intro u hu; simp at hu; subst hu; rfl
        case qc4 => unfold maxLen; omega
        case qc5 => omega
        case qc6 => first | exact hbA.size | (have := hb.size; omega)
        intro v' w4 hown4 hgrow hnil
        have hbC : Below w.heap.size w w4 := hbA.grown hgrow hbA.size (fun k hk => by
          rcases OW.out.2 with ⟨e, _⟩ | ⟨g', cap', cur, e, hg', _⟩
          · rw [e] at hk; simp [Value.ownBlock] at hk
          · rw [e] at hk; simp [Value.ownBlock] at hk; omega)
        have OW4 : Hid (w4.ownsRow w.heap.size 3 1 v' (n + 1) (zs.map encZ ++ [.int .i64 x])) := hown4
        clear hown4 hnil hgrow
        go_wp2
        go_roundw
        case rel =>
          refine ⟨n + 1, zs ++ [x], by omega, by go_num, hbC, by rw [List.length_append, HZL.out]; rfl, fun j t' hj ht' => ?_, by rw [List.map_append]; exact OW4.out⟩
          rcases Nat.lt_or_ge j n with h' | h'
          · rw [HZS.out j t' h' ht', List.getElem?_append_left (by rw [HZL.out]; exact h')]
          · obtain rfl : j = n := by omega
            rw [HG.out] at ht'
            rw [← Option.some.inj ht', HK.out, List.getElem?_append_right (by rw [HZL.out]; exact Nat.le_refl _), HZL.out, Nat.sub_self]
            rfl
        case measure => simp [intOf]; omega
    · obtain rfl : n = L := by omega
      have HKA : Hid (KeysAt wr u4 zs) := keysAt_of_own (base := w.heap.size) (by rw [HZL.out]; exact OW.out)
      go_wp2
      go_ret2
      exact ⟨Or.inl ⟨zs, u4, by rw [HZL.out, HX.out], fun j t ht => HZS.out j t (by
        rw [← HX.out]
        rcases Nat.lt_or_ge j ts.length with h | h
        · exact h
        · rw [List.getElem?_eq_none h] at ht; cases ht) ht, rfl, HKA.out, fun k hk => (OW.out.lt k hk).1⟩, hb⟩

theorem numbersOf_list (b o cap : Nat) (ts : List ByteArray) (w : World) (hc : ∀ j (h : j < ts.length), w.cell? ⟨b, o + j, none⟩ = some (.string ts[j])) (hs : ∀ t ∈ ts, t.size ≤ maxLen) (hl : ts.length ≤ 20000) :
    Calls Tryz.prog 83 #[.slice (some ⟨b, o, none⟩) ts.length cap] w fun e w' => NumsPost w' e ts ∧ Below w.heap.size w w' :=
  (numbersOf_new b o cap ts w hc hs hl).mono fun _ _ ⟨h1, h2⟩ => ⟨h1.weak, h2⟩
end Go.Proofs.YtpkoefpdpoikkaaGreatDoor
namespace Go.Proofs.YtpkoefpdpoikkaaGreatDoor
open Go.RowKit Go.Extern.Stop Go.Stop Go.Extern Go.Sort Go.Shelf Go.Lib

set_option maxRecDepth 100000 in
set_option maxHeartbeats 4000000 in
theorem pathOf_any (s : ByteArray) (w : World) (hs : s.size ≤ 100000) :
    Calls Tryz.prog 19 #[.string s] w fun e w' => e = .returned (.tuple #[.string (bytesOf (pathR s.data.toList).1), .int .i64 (pathR s.data.toList).2.1, .int .i64 (pathR s.data.toList).2.2]) ∧ w' = w := by
  have hsz := size_list s
  have bad : pathO s.data.toList = none → (Ending.returned (.tuple #[.string ⟨#[]⟩, .int .i64 0, .int .i64 5]) = Ending.returned (.tuple #[.string (bytesOf (pathR s.data.toList).1), .int .i64 (pathR s.data.toList).2.1, .int .i64 (pathR s.data.toList).2.2])) := fun hp0 => by
    rw [pathR_none hp0]; rfl
  have BAD : Hid (pathO s.data.toList = none → (Ending.returned (.tuple #[.string ⟨#[]⟩, .int .i64 0, .int .i64 5]) = Ending.returned (.tuple #[.string (bytesOf (pathR s.data.toList).1), .int .i64 (pathR s.data.toList).2.1, .int .i64 (pathR s.data.toList).2.2]))) := bad
  clear bad
  by_cases hl : s.size < 6
  · have HN : Hid (pathO s.data.toList = none) := path_short (by omega)
    clear hsz
    go_enter Tryz.func19, Tryz.ntmps19
    go_wp2
    go_ret3
    exact ⟨BAD.out HN.out, rfl⟩
  · have HPP : Hid (pathO s.data.toList = if (s.data.toList.take 4 = kData ∨ s.data.toList.take 4 = kGone) ∧ s.data.toList[4]? = some 47 then (pathN (s.data.toList.drop 5)).map fun n => (decide (s.data.toList.take 4 = kGone), n) else none) := path_parts (by omega)
    have hb4 := byte_list s 4 (by omega)
    have HB4 : Hid (s.data.toList[4]? = some s[4]) := hb4
    have eA : (s.extract 0 4).data.toList = s.data.toList.take 4 := by rw [extract_from_zero]
    have eB : (s.extract 5 s.size).data.toList = s.data.toList.drop 5 := by rw [extract_to_end]
    have hnum := numberOf_any (s.extract 5 s.size) w (by rw [ByteArray.size_extract]; unfold maxLen; omega)
    rw [eB] at hnum
    have i1 : ¬ (s.size : Int) < 6 := by omega
    have i2 : (4 : Int) ≤ (s.size : Int) := by omega
    have i3 : (5 : Int) ≤ (s.size : Int) := by omega
    have i4 : (4 : Int) < (s.size : Int) := by omega
    clear hb4 eB
    by_cases hk : (s.data.toList.take 4 = kData ∨ s.data.toList.take 4 = kGone)
    · by_cases h47 : s[4] = 47
      · unfold numR at hnum
        have HP : Hid (pathO s.data.toList = (pathN (s.data.toList.drop 5)).map fun n => (decide (s.data.toList.take 4 = kGone), n)) := by
          show _ = _
          rw [HPP.out, if_pos ⟨hk, by rw [HB4.out, h47]⟩]
        have c47 : (s[4].toNat : Int) = 47 := by rw [h47]; rfl
        cases hn : numO (s.data.toList.drop 5) with
        | none =>
          have HN : Hid (pathO s.data.toList = none) := by
            show _ = _
            rw [HP.out]; unfold pathN; rw [hn]; rfl
          rw [hn] at hnum
          dsimp only at hnum
          clear hn h47
          rcases hk with hk | hk
          · have d1 := eqB_of (eA.trans hk)
            simp only [kData] at d1
            clear hk eA
            go_enter Tryz.func19, Tryz.ntmps19
            go_wp2_with (go_at_call 77; refine hnum.mono ?_; rintro e w1 ⟨rfl, hw⟩; rw [hw]; clear hw)
            go_ret3
            exact ⟨BAD.out HN.out, rfl⟩
          · have d1 := neB_of (s := s.extract 0 4) (l := [100, 97, 116, 97]) (by rw [eA, hk]; decide)
            have d2 := eqB_of (eA.trans hk)
            simp only [kGone] at d2
            clear hk eA
            go_enter Tryz.func19, Tryz.ntmps19
            go_wp2_with (go_at_call 77; refine hnum.mono ?_; rintro e w1 ⟨rfl, hw⟩; rw [hw]; clear hw)
            go_ret3
            exact ⟨BAD.out HN.out, rfl⟩
        | some n =>
          rw [hn] at hnum
          dsimp only at hnum
          by_cases hc : 1 ≤ n ∧ n ≤ 1073741824
          · have hcn : cntB n = true := by simp [cntB, hc.1, hc.2]
            have HS : Hid (pathO s.data.toList = some (decide (s.data.toList.take 4 = kGone), n)) := by
              show _ = _
              rw [HP.out]; unfold pathN; rw [hn]; simp [hcn]
            obtain ⟨hc1, hc2⟩ := hc
            clear hn hcn h47
            have HR : Hid (pathR s.data.toList = (s.data.toList.take 4, n, 0)) := by
              show _ = _
              rw [pathR_some HS.out]
              rcases hk with hk | hk
              · rw [hk]; rfl
              · rw [hk]; rfl
            have HX : Hid (bytesOf (s.data.toList.take 4) = s.extract 0 4) := by
              show _ = _
              rw [← eA, bytesOf_data]
            rcases hk with hk | hk
            · have d1 := eqB_of (eA.trans hk)
              simp only [kData] at d1
              clear hk eA
              go_enter Tryz.func19, Tryz.ntmps19
              go_wp2_with (go_at_call 77; refine hnum.mono ?_; rintro e w1 ⟨rfl, hw⟩; rw [hw]; clear hw)
              go_ret3
              exact ⟨by rw [HR.out, HX.out]; rfl, rfl⟩
            · have d1 := neB_of (s := s.extract 0 4) (l := [100, 97, 116, 97]) (by rw [eA, hk]; decide)
              have d2 := eqB_of (eA.trans hk)
              simp only [kGone] at d2
              clear hk eA
              go_enter Tryz.func19, Tryz.ntmps19
              go_wp2_with (go_at_call 77; refine hnum.mono ?_; rintro e w1 ⟨rfl, hw⟩; rw [hw]; clear hw)
              go_ret3
              exact ⟨by rw [HR.out, HX.out]; rfl, rfl⟩
          · have hcn : cntB n = false := by
              cases h : cntB n with
              | false => rfl
              | true => simp only [cntB, Bool.and_eq_true, decide_eq_true_eq] at h; exact absurd h hc
            have HN : Hid (pathO s.data.toList = none) := by
              show _ = _
              rw [HP.out]; unfold pathN; rw [hn]; simp [hcn]
            clear hn hcn h47
            rcases hk with hk | hk
            · have d1 := eqB_of (eA.trans hk)
              simp only [kData] at d1
              clear hk eA
              by_cases hc1 : n < 1
              · clear hc
                go_enter Tryz.func19, Tryz.ntmps19
                go_wp2_with (go_at_call 77; refine hnum.mono ?_; rintro e w1 ⟨rfl, hw⟩; rw [hw]; clear hw)
                go_ret3
                exact ⟨BAD.out HN.out, rfl⟩
              · have hc2 : 1073741824 < n := by omega
                clear hc
                go_enter Tryz.func19, Tryz.ntmps19
                go_wp2_with (go_at_call 77; refine hnum.mono ?_; rintro e w1 ⟨rfl, hw⟩; rw [hw]; clear hw)
                go_ret3
                exact ⟨BAD.out HN.out, rfl⟩
            · have d1 := neB_of (s := s.extract 0 4) (l := [100, 97, 116, 97]) (by rw [eA, hk]; decide)
              have d2 := eqB_of (eA.trans hk)
              simp only [kGone] at d2
              clear hk eA
              by_cases hc1 : n < 1
              · clear hc
                go_enter Tryz.func19, Tryz.ntmps19
                go_wp2_with (go_at_call 77; refine hnum.mono ?_; rintro e w1 ⟨rfl, hw⟩; rw [hw]; clear hw)
                go_ret3
                exact ⟨BAD.out HN.out, rfl⟩
              · have hc2 : 1073741824 < n := by omega
                clear hc
                go_enter Tryz.func19, Tryz.ntmps19
                go_wp2_with (go_at_call 77; refine hnum.mono ?_; rintro e w1 ⟨rfl, hw⟩; rw [hw]; clear hw)
                go_ret3
                exact ⟨BAD.out HN.out, rfl⟩
      · have HN : Hid (pathO s.data.toList = none) := by
          show _ = _
          rw [HPP.out, if_neg]
          rintro ⟨_, e⟩
          rw [HB4.out] at e
          exact h47 (Option.some.inj e)
        have c47 : ¬ (s[4].toNat : Int) = 47 := fun e => h47 (by
          have e' : s[4].toNat = 47 := by omega
          exact UInt8.toNat_inj.1 e')
        generalize numR (s.data.toList.drop 5) = R at hnum
        obtain ⟨nv, bv⟩ := R
        dsimp only at hnum
        clear h47
        rcases hk with hk | hk
        · have d1 := eqB_of (eA.trans hk)
          simp only [kData] at d1
          clear hk eA
          go_enter Tryz.func19, Tryz.ntmps19
          go_wp2_with (go_at_call 77; refine hnum.mono ?_; rintro e w1 ⟨rfl, hw⟩; rw [hw]; clear hw)
          go_ret3
          exact ⟨BAD.out HN.out, rfl⟩
        · have d1 := neB_of (s := s.extract 0 4) (l := [100, 97, 116, 97]) (by rw [eA, hk]; decide)
          have d2 := eqB_of (eA.trans hk)
          simp only [kGone] at d2
          clear hk eA
          go_enter Tryz.func19, Tryz.ntmps19
          go_wp2_with (go_at_call 77; refine hnum.mono ?_; rintro e w1 ⟨rfl, hw⟩; rw [hw]; clear hw)
          go_ret3
          exact ⟨BAD.out HN.out, rfl⟩
    · have HN : Hid (pathO s.data.toList = none) := by
        show _ = _
        rw [HPP.out, if_neg]
        rintro ⟨e, _⟩
        exact hk e
      have d1 := neB_of (s := s.extract 0 4) (l := [100, 97, 116, 97]) (by rw [eA]; exact fun e => hk (Or.inl e))
      have d2 := neB_of (s := s.extract 0 4) (l := [103, 111, 110, 101]) (by rw [eA]; exact fun e => hk (Or.inr e))
      generalize numR (s.data.toList.drop 5) = R at hnum
      obtain ⟨nv, bv⟩ := R
      dsimp only at hnum
      clear hk eA
      go_enter Tryz.func19, Tryz.ntmps19
      go_wp2_with (go_at_call 77; refine hnum.mono ?_; rintro e w1 ⟨rfl, hw⟩; rw [hw]; clear hw)
      go_ret3
      exact ⟨BAD.out HN.out, rfl⟩

end Go.Proofs.YtpkoefpdpoikkaaGreatDoor
