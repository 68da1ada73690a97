/-
  The contract of the document's own Cut.
  The contract of the document's own NumbersOf, of two texts.
  The contracts of the library that this seat takes, in plain words.
  The contracts of part's specs: divide, bucket, trunc, readN, read; what a spec is; a row's group.
  The contract of strconv.FormatUint at base 10: a number's numeral.
-/
import Derived.Test.YtoobgeekmaeccaaGreatDoorRefNum
import Derived.Shelf.Strings.Builder1
import Derived.Shelf.Strings.Builder2
import Derived.Shelf.Strings.OnBuilder
import Derived.Shelf.Small.Bits
import Derived.Shelf.Small.Strs
import Derived.Shelf.Small.Wraps
import Derived.Shelf.Strings.BuilderF
import Derived.Shelf.Strings.BuilderK
import Derived.Shelf.Strconv.Atoi
import Derived.Shelf.Strconv.Itoa0
import Derived.Shelf.Strconv.Itoa1
import Derived.Shelf.LaysM
import Derived.Shelf.Strconv.Itoa2
import Derived.Shelf.Strconv.Itoa3
import Derived.Shelf.Strconv.AtoiErrFast
import Derived.Shelf.Strconv.ParseIntEmpty
import Derived.Shelf.Strconv.AtoiFail
import Derived.Shelf.Strconv.Clone
import Derived.Shelf.Strconv.SyntaxError
import Derived.Shelf.LaysC
import Derived.Shelf.Strconv.ToError
import Derived.Shelf.Strconv.AtoiErr
import Derived.Shelf.Strconv.Lower
import Derived.Shelf.Strconv.ParseUint10
import Derived.Shelf.Strconv.ParseUint10Empty
import Derived.Shelf.Strconv.ParseUint10Any
import Derived.Shelf.Strconv.ParseInt10
import Derived.Shelf.Strconv.AtoiLong
import Derived.Shelf.Strconv.AtoiInnerAll
import Derived.Shelf.Strconv.RangeError
import Derived.Shelf.Strconv.ToErrorRange
import Derived.Shelf.Strconv.AtoiAll
import Derived.Shelf.Strings.Search1
import Derived.Shelf.Strings.Search2
import Derived.Shelf.Strings.Search3
import Derived.Shelf.Strings.Cut
import Derived.Shelf.Strings.Count
import Derived.Shelf.Strings.Split
import Derived.Shelf.Strings.SplitShaped
import Derived.Shelf.Slices.Turned
import Derived.Ground.Names2Prog
import Derived.Shelf.Slices.Clone
import Derived.Shelf.Slices.CompactI
import Derived.Shelf.Slices.SearchI
import Derived.Shelf.Slices.Empties
import Derived.Ground.SlgnProg
import Derived.Shelf.SlicesE.Compact
import Derived.Shelf.SlicesE.Clone
import Derived.Ground.SlgmProg
import Derived.Shelf.SortM.Plain
import Derived.Shelf.SortM.SortNone
import Derived.Test.YtoobgeekmaeccaaGreatDoorProg
import Derived.Test.YtoobgeekmaeccaaGreatDoorAppendSrc
import Derived.Lib.QuietBelow
import Derived.BigQuiet
import Derived.Lib.ItoaMem
namespace Go.Proofs.YtoobgeekmaeccaaGreatDoor
open Go.RowKit Go.Extern.Stop Go.Stop Go.Extern Go.Sort Go.Shelf Go.Lib

def TextsAt (w : World) (v : Value) (ts : List ByteArray) : Prop :=
  ∃ b cap, v = .slice (some ⟨b, 0, none⟩) ts.length cap ∧ ts.length ≤ cap ∧ ∀ j (h : j < ts.length), w.cell? ⟨b, j, none⟩ = some (.string ts[j])

theorem TextsAt.below {w w' : World} {v : Value} {ts : List ByteArray} (h : TextsAt w v ts) (hb : Below w.heap.size w w') : TextsAt w' v ts := by
  obtain ⟨b, cap, hv, hc, h⟩ := h
  exact ⟨b, cap, hv, hc, fun j hj => below_keep hb (h j hj)⟩

theorem textsAt_of_own {w : World} {base : Nat} {v : Value} {ts : List ByteArray} (hne : ts ≠ []) (h : w.ownsRow base 9 1 v ts.length (ts.map Value.string)) : TextsAt w v ts := by
  obtain ⟨hl, h⟩ := h
  rcases h with ⟨hv, hn⟩ | ⟨g, cap, cur, rfl, _, hg, hc, _, _, ht⟩
  · exact absurd (List.length_eq_zero_iff.1 hn) hne
  · refine ⟨g, cap, rfl, hc, fun j hj => ?_⟩
    have hu : (ts.map Value.string)[j]? = some (.string ts[j]) := by simp [hj]
    rw [← ht, List.getElem?_take, if_pos (by omega)] at hu
    simp only [World.cell?, hg]
    simpa using hu

theorem Tryz.strInfo3 : (Tryz.prog.info? 9).map (fun i => (i.zero, i.size, i.bytes)) = some (some (.string ⟨#[]⟩), 1, 16) := by kernel_rfl
theorem Tryz.strInfo : ∃ i0 : TypeInfo, Tryz.prog.info? 9 = some i0 ∧ i0.zero = some (.string ⟨#[]⟩) ∧ i0.size = 1 ∧ i0.bytes = 16 := by
  obtain ⟨i, hi, h⟩ := Option.map_eq_some_iff.1 Tryz.strInfo3
  simp only [Prod.mk.injEq] at h
  exact ⟨i, hi, h.1, h.2.1, h.2.2⟩

theorem cell_one (w : World) (x : Value) (t : TypeId) : ∀ j u, [x][j]? = some u → (w.alloc (.cells #[x] t)).cell? ((⟨w.heap.size, 0, none⟩ : Addr).add j) = some u := by
  intro j u hj
  rw [Addr.add_lit, Nat.zero_add]
  match j, hj with
  | 0, hj => simp at hj; subst hj; simp
  | j + 1, hj => simp at hj

def CutInv (l : List UInt8) (f n : Nat) (ts : List ByteArray) : Prop :=
  f ≤ n ∧ ts.length ≤ f ∧ (∀ c ∈ (l.drop f).take (n - f), c ≠ 32) ∧ ts.map (·.data.toList) ++ words (l.drop f) = words l

theorem cut_zero (l : List UInt8) : CutInv l 0 0 [] := ⟨Nat.le_refl _, Nat.le_refl _, by simp, by simp⟩

theorem cut_skip {l : List UInt8} {f n : Nat} {ts : List ByteArray} {c : UInt8} (h : CutInv l f n ts) (hc : l[n]? = some c) (hne : c ≠ 32) : CutInv l f (n + 1) ts := by
  obtain ⟨h1, h2, h3, h4⟩ := h
  refine ⟨by omega, h2, fun d hd => ?_, h4⟩
  obtain ⟨k, hk⟩ := List.mem_iff_getElem?.1 hd
  rw [List.getElem?_take] at hk
  split at hk
  · rename_i hlt
    rw [List.getElem?_drop] at hk
    rcases Nat.lt_or_ge k (n - f) with h' | h'
    · refine h3 d (List.mem_iff_getElem?.2 ⟨k, ?_⟩)
      rw [List.getElem?_take, if_pos h', List.getElem?_drop, hk]
    · rw [show f + k = n by omega, hc] at hk
      rw [← Option.some.inj hk]; exact hne
  · cases hk

theorem cut_hit {s : ByteArray} {f n : Nat} {ts : List ByteArray} (h : CutInv s.data.toList f n ts) (hc : s.data.toList[n]? = some 32) : CutInv s.data.toList (n + 1) (n + 1) (ts ++ [s.extract f n]) := by
  obtain ⟨h1, h2, h3, h4⟩ := h
  refine ⟨Nat.le_refl _, by simp; omega, by simp, ?_⟩
  have hn : n < s.data.toList.length := by
    rcases Nat.lt_or_ge n s.data.toList.length with h | h
    · exact h
    · rw [List.getElem?_eq_none h] at hc; cases hc
  have hsp : s.data.toList.drop f = (s.data.toList.drop f).take (n - f) ++ 32 :: s.data.toList.drop (n + 1) := by
    have e1 := List.take_append_drop (n - f) (s.data.toList.drop f)
    rw [List.drop_drop, show f + (n - f) = n by omega, List.drop_eq_getElem_cons hn] at e1
    rw [List.getElem?_eq_getElem hn] at hc
    rw [Option.some.inj hc] at e1
    exact e1.symm
  rw [hsp, words_append _ _ h3] at h4
  rw [← h4, List.map_append, List.append_assoc]
  congr 1
  simp only [List.map_cons, List.map_nil, List.cons_append, List.nil_append]
  rw [extract_data]

theorem cut_end {s : ByteArray} {f : Nat} {ts : List ByteArray} (h : CutInv s.data.toList f s.size ts) : (ts ++ [s.extract f s.size]).map (·.data.toList) = words s.data.toList := by
  obtain ⟨h1, h2, h3, h4⟩ := h
  rw [List.take_of_length_le (by rw [List.length_drop, size_list]; omega)] at h3
  rw [words_none _ h3] at h4
  rw [← h4, List.map_append]
  simp only [List.map_cons, List.map_nil, extract_to_end]

set_option maxRecDepth 100000 in
set_option maxHeartbeats 2000000 in
theorem cutText_any (s : ByteArray) (w : World) (hs : s.size < 4294967281) :
    Calls Tryz.prog 147 #[.string s, .int .u8 32] w fun e w' => ∃ v ts, e = .returned v ∧ TextsAt w' v ts ∧ ts.map (·.data.toList) = words s.data.toList ∧ Below w.heap.size w w' := by
  obtain ⟨i0, hi0, hz0, hs0, hby0⟩ := Tryz.strInfo
  go_enter Tryz.func147, Tryz.ntmps147
  go_wp2
  go_loopw [5, 6, 7] (fun out from' k wr => ∃ (n f : Nat) (ts : List ByteArray), n ≤ s.size ∧ k = .int .i64 n ∧ from' = .int .i64 f ∧ Below w.heap.size w wr ∧ CutInv s.data.toList f n ts ∧ wr.ownsRow w.heap.size 9 1 out ts.length (ts.map Value.string)) (fun _ _ k _ => s.size - (intOf k).toNat)
  case atStart => exact ⟨0, 0, [], by omega, rfl, rfl, Below.refl _ _, cut_zero _, by simp; exact World.ownsRow_nil _ _ _ _⟩
  case round =>
    obtain ⟨n, f, ts, hn, rfl, rfl, hb, hci, hown⟩ := hrel
    have OW : Hid (wr.ownsRow w.heap.size 9 1 u5 ts.length (ts.map Value.string)) := hown
    have CI : Hid (CutInv s.data.toList f n ts) := hci
    have hfn : f ≤ n := hci.1
    have htl : ts.length ≤ f := hci.2.1
    have TL : Hid (ts.length ≤ f) := htl
    clear hown hci htl
    by_cases hlt : n < s.size
    · have hi : (n : Int) < (s.size : Int) := by omega
      have hby := byte_list s n hlt
      by_cases hc : s[n].toNat = 32
      · have hc' : (s[n].toNat : Int) = 32 := by omega
        have HC : Hid (s.data.toList[n]? = some 32) := by
          rw [hby]
          exact congrArg some (UInt8.toNat_inj.1 hc)
        clear hby hc
        have hal : Below wr.heap.size wr (wr.alloc (.cells #[.string (s.extract f n)] 9)) := (Below.refl _ _).alloc (Nat.le_refl _) _
        have hbA : Below w.heap.size w (wr.alloc (.cells #[.string (s.extract f n)] 9)) := hb.alloc hb.size _
        go_wp2_with (at_builtin; refine wpList_append_own _ rfl _ _ 157 rfl w.heap.size 9 i0 (.string ⟨#[]⟩) 1 16 Tryz.underlying157 hi0 hz0 hs0 hby0 rfl (by decide) u5 ts.length (ts.map Value.string) rfl ?qc0 ⟨wr.heap.size, 0, none⟩ 1 1 [.string (s.extract f n)] rfl ?qc1 ?qc2 ?qc3 ?qc4 ?qc5 ?qc6 ?_)
        case qc0 => exact own_below OW.out hal
        case qc1 => rfl
        case qc2 => exact cell_one _ _ _
        case qc3 => intro u hu; simp at hu; subst hu; rfl
        case qc4 => have := TL.out; unfold maxLen; omega
        case qc5 => have := TL.out; omega
        case qc6 => first | exact hbA.size | (have := hb.size; omega)
        intro v' w4 hown4 hgrow hnil
        have hbC : Below w.heap.size w w4 := hbA.grown hgrow hbA.size (fun k hk => by
          rcases OW.out.2 with ⟨e, _⟩ | ⟨g', cap', cur, e, hg', _⟩
          · rw [e] at hk; simp [Value.ownBlock] at hk
          · rw [e] at hk; simp [Value.ownBlock] at hk; omega)
        have OW4 : Hid (w4.ownsRow w.heap.size 9 1 v' (ts.length + 1) (ts.map Value.string ++ [.string (s.extract f n)])) := hown4
        clear hown4 hnil hgrow
        go_wp2
        go_roundw
        case rel => exact ⟨n + 1, n + 1, ts ++ [s.extract f n], by omega, by go_num, by go_num, hbC, cut_hit CI.out HC.out, by rw [List.length_append, List.map_append]; exact OW4.out⟩
        case measure => simp [intOf]; omega
      · have hc' : ¬ (s[n].toNat : Int) = 32 := by omega
        have CI' : Hid (CutInv s.data.toList f (n + 1) ts) := cut_skip CI.out hby (fun e => hc (by rw [e]; rfl))
        clear hby hc
        go_wp2
        go_roundw
        case rel => exact ⟨n + 1, f, ts, by omega, by go_num, by go_num, hb, CI'.out, OW.out⟩
        case measure => simp [intOf]; omega
    · have hn' : n = s.size := by omega
      subst hn'
      have hal : Below wr.heap.size wr (wr.alloc (.cells #[.string (s.extract f s.size)] 9)) := (Below.refl _ _).alloc (Nat.le_refl _) _
      have hbA : Below w.heap.size w (wr.alloc (.cells #[.string (s.extract f s.size)] 9)) := hb.alloc hb.size _
      go_wp2_with (at_builtin; refine wpList_append_own _ rfl _ _ 157 rfl w.heap.size 9 i0 (.string ⟨#[]⟩) 1 16 Tryz.underlying157 hi0 hz0 hs0 hby0 rfl (by decide) u5 ts.length (ts.map Value.string) rfl ?qc0 ⟨wr.heap.size, 0, none⟩ 1 1 [.string (s.extract f s.size)] rfl ?qc1 ?qc2 ?qc3 ?qc4 ?qc5 ?qc6 ?_)
      case qc0 => exact own_below OW.out hal
      case qc1 => rfl
      case qc2 => exact cell_one _ _ _
      case qc3 => intro u hu; simp at hu; subst hu; rfl
      case qc4 => have := TL.out; unfold maxLen; omega
      case qc5 => have := TL.out; omega
      case qc6 => first | exact hbA.size | (have := hb.size; omega)
      intro v' w4 hown4 hgrow hnil
      have hbC : Below w.heap.size w w4 := hbA.grown hgrow hbA.size (fun k hk => by
        rcases OW.out.2 with ⟨e, _⟩ | ⟨g', cap', cur, e, hg', _⟩
        · rw [e] at hk; simp [Value.ownBlock] at hk
        · rw [e] at hk; simp [Value.ownBlock] at hk; omega)
      have OW4 : Hid (w4.ownsRow w.heap.size 9 1 v' (ts.length + 1) (ts.map Value.string ++ [.string (s.extract f s.size)])) := hown4
      clear hown4 hnil hgrow
      go_wp2
      go_ret
      exact ⟨v', ts ++ [s.extract f s.size], rfl, textsAt_of_own (base := w.heap.size) (by simp) (by rw [List.length_append, List.map_append]; exact OW4.out), cut_end CI.out, hbC⟩
end Go.Proofs.YtoobgeekmaeccaaGreatDoor
namespace Go.Proofs.YtoobgeekmaeccaaGreatDoor
open Go.RowKit Go.Extern.Stop Go.Stop Go.Extern Go.Sort Go.Shelf Go.Lib

theorem Tryz.numInfo3 : (Tryz.prog.info? 3).map (fun i => (i.zero, i.size, i.bytes)) = some (some (.int .i64 0), 1, 8) := by kernel_rfl
theorem Tryz.numInfo : ∃ i0 : TypeInfo, Tryz.prog.info? 3 = some i0 ∧ i0.zero = some (.int .i64 0) ∧ i0.size = 1 ∧ i0.bytes = 8 := by
  obtain ⟨i, hi, h⟩ := Option.map_eq_some_iff.1 Tryz.numInfo3
  simp only [Prod.mk.injEq] at h
  exact ⟨i, hi, h.1, h.2.1, h.2.2⟩

theorem own_cell {w : World} {base : Nat} {t : TypeId} {v : Value} {n : Nat} {l : List Value} (h : w.ownsRow base t 1 v n l) (hn : n ≠ 0) : ∃ g cap, v = .slice (some ⟨g, 0, none⟩) n cap ∧ n ≤ cap ∧ ∀ j u, l[j]? = some u → w.cell? ⟨g, j, none⟩ = some u := by
  obtain ⟨hl, h⟩ := h
  rcases h with ⟨hv, hn'⟩ | ⟨g, cap, cur, rfl, _, hg, hc, _, _, ht⟩
  · exact absurd hn' hn
  · refine ⟨g, cap, rfl, hc, fun j u hu => ?_⟩
    have hj : j < l.length := by
      rcases Nat.lt_or_ge j l.length with h' | h'
      · exact h'
      · rw [List.getElem?_eq_none h'] at hu; cases hu
    rw [← ht, List.getElem?_take, if_pos (by omega)] at hu
    simp only [World.cell?, hg]
    simpa using hu

def NumsOf (w : World) (e : Ending) : Option Int → Option Int → Prop
  | some x, some y => ∃ g c, e = .returned (.tuple #[.slice (some ⟨g, 0, none⟩) 2 c, .bool true]) ∧ w.cell? ⟨g, 0, none⟩ = some (.int .i64 x) ∧ w.cell? ⟨g, 1, none⟩ = some (.int .i64 y)
  | _, _ => e = .returned (.tuple #[.slice none 0 0, .bool false])

set_option maxRecDepth 100000 in
set_option maxHeartbeats 2000000 in
theorem numbersOf_any (b o cap : Nat) (K V : ByteArray) (w : World) (hK : w.cell? ⟨b, o, none⟩ = some (.string K)) (hV : w.cell? ⟨b, o + 1, none⟩ = some (.string V)) (hsK : K.size ≤ maxLen) (hsV : V.size ≤ maxLen) :
    Calls Tryz.prog 148 #[.slice (some ⟨b, o, none⟩) 2 cap] w fun e w' => NumsOf w' e (numO K.data.toList) (numO V.data.toList) ∧ Below w.heap.size w w' := by
  obtain ⟨i0, hi0, hz0, hs0, hby0⟩ := Tryz.numInfo
  have hNK := fun W => numberOf_any K W hsK
  have hNV := fun W => numberOf_any V W hsV
  unfold numR at hNK hNV
  cases hk : numO K.data.toList with
  | none =>
    rw [hk] at hNK
    have he : ∀ W e y, NumsOf W e none y = (e = .returned (.tuple #[.slice none 0 0, .bool false])) := fun W e y => by cases y <;> rfl
    simp only [he]
    clear hNV hV he hk
    dsimp only at hNK
    go_enter Tryz.func148, Tryz.ntmps148
    go_wp2
    refine wp_loop_rounds 3 ?_
    rw [rounds_succ]
    go_wp2_with (go_at_call 107; refine (hNK _).mono ?_; rintro e w1 ⟨rfl, hw⟩; rw [hw]; clear hw)
    go_ret2
    exact ⟨rfl, Below.refl _ _⟩
  | some x =>
    rw [hk] at hNK
    clear hk
    dsimp only at hNK
    have hb0 : Below w.heap.size w (w.alloc (.cells #[.int .i64 x] 3)) := (Below.refl _ _).alloc (Nat.le_refl _) _
    have h00 : (w.alloc (.cells #[.int .i64 x] 3)).ownsRow w.heap.size 3 1 (.slice none 0 0) 0 [] := World.ownsRow_nil _ _ _ _
    generalize hv : numO V.data.toList = y at hNV ⊢
    clear hv
    go_enter Tryz.func148, Tryz.ntmps148
    go_wp2
    refine wp_loop_rounds 3 ?_
    rw [rounds_succ]
    go_wp2_with (first
      | (go_at_call 107; refine (hNK _).mono ?_; rintro e w1 ⟨rfl, hw⟩; rw [hw]; clear hw)
      | (at_builtin; refine wpList_append_own _ rfl _ _ 50 rfl w.heap.size 3 i0 (.int .i64 0) 1 8 Tryz.underlying50 hi0 hz0 hs0 hby0 rfl (by decide) (.slice none 0 0) 0 [] rfl ?qc0 ⟨w.heap.size, 0, none⟩ 1 1 [.int .i64 x] rfl ?qc1 ?qc2 ?qc3 ?qc4 ?qc5 ?qc6 ?_))
    case qc0 => exact h00
    case qc1 => rfl
    case qc2 => exact cell_one _ _ _
    case qc3 => intro u hu; simp at hu; subst hu; rfl
    case qc4 => unfold maxLen; omega
    case qc5 => omega
    case qc6 => exact hb0.size
    intro v1 w4 hown4 hgrow hnil
    have hb4 : Below w.heap.size w w4 := hb0.grown hgrow hb0.size (fun k hk => by simp [Value.ownBlock] at hk)
    have hV4 := below_keep hb4 hV
    have OW4 : Hid (w4.ownsRow w.heap.size 3 1 v1 1 [.int .i64 x]) := hown4
    clear hown4 hgrow hnil h00 hV hK hNK
    go_wp2
    rw [rounds_succ]
    cases y with
    | none =>
      dsimp only at hNV
      go_wp2_with (go_at_call 107; refine (hNV _).mono ?_; rintro e w1 ⟨rfl, hw⟩; rw [hw]; clear hw)
      go_ret2
      exact ⟨rfl, hb4⟩
    | some y =>
      dsimp only at hNV
      have hb5 : Below w4.heap.size w4 (w4.alloc (.cells #[.int .i64 y] 3)) := (Below.refl _ _).alloc (Nat.le_refl _) _
      have hb5' : Below w.heap.size w (w4.alloc (.cells #[.int .i64 y] 3)) := hb4.trans (hb5.mono hb4.size)
      go_wp2_with (first
        | (go_at_call 107; refine (hNV _).mono ?_; rintro e w1 ⟨rfl, hw⟩; rw [hw]; clear hw)
        | (at_builtin; refine wpList_append_own _ rfl _ _ 50 rfl w.heap.size 3 i0 (.int .i64 0) 1 8 Tryz.underlying50 hi0 hz0 hs0 hby0 rfl (by decide) v1 1 [.int .i64 x] rfl ?qd0 ⟨w4.heap.size, 0, none⟩ 1 1 [.int .i64 y] rfl ?qd1 ?qd2 ?qd3 ?qd4 ?qd5 ?qd6 ?_))
      case qd0 => exact own_below OW4.out hb5
      case qd1 => rfl
      case qd2 => exact cell_one _ _ _
      case qd3 => intro u hu; simp at hu; subst hu; rfl
      case qd4 => unfold maxLen; omega
      case qd5 => omega
      case qd6 => exact hb5'.size
      intro v2 w6 hown6 hgrow hnil
      have hb6 : Below w.heap.size w w6 := hb5'.grown hgrow hb5'.size (fun k hk => by
        rcases OW4.out.2 with ⟨e, _⟩ | ⟨g', cap', cur, e, hg', _⟩
        · rw [e] at hk; simp [Value.ownBlock] at hk
        · rw [e] at hk; simp [Value.ownBlock] at hk; omega)
      obtain ⟨g, c, rfl, _, hcl⟩ := own_cell hown6 (by omega)
      have c0 := hcl 0 (.int .i64 x) rfl
      have c1 := hcl 1 (.int .i64 y) rfl
      clear hown6 hgrow hnil hcl
      go_wp2
      rw [rounds_succ]
      go_wp2
      go_ret2
      exact ⟨⟨g, c, rfl, c0, c1⟩, hb6⟩
end Go.Proofs.YtoobgeekmaeccaaGreatDoor
namespace Go.Proofs
open Go.Shelf
def Tryz.lays169_ren : Go.Shelf.Ren := ⟨fun | 169 => 115 | n => n, fun | 70 => 175 | 9 => 9 | 0 => 0 | 72 => 178 | 37 => 176 | 127 => 234 | 3 => 3 | 5 => 5 | n => n, fun | n => n⟩
theorem Tryz.lays169 : Go.Proofs.Lays.n169 Tryz.prog Tryz.lays169_ren := {
  mixed := by kernel_rfl
  f169 := Tryz.func115.trans (congrArg some (by kernel_rfl))
  t0 := Tryz.underlying0
  a0 := Tryz.isAgg0
  z0 := Tryz.sizeOf0
  v0 := Tryz.zeroValue0
  t3 := Tryz.underlying3
  a3 := Tryz.isAgg3
  z3 := Tryz.sizeOf3
  v3 := Tryz.zeroValue3
  t9 := Tryz.underlying9
  a9 := Tryz.isAgg9
  z9 := Tryz.sizeOf9
  v9 := Tryz.zeroValue9
  t37 := Tryz.underlying176
  a37 := Tryz.isAgg176
  z37 := Tryz.sizeOf176
  v37 := Tryz.zeroValue176
  t70 := Tryz.underlying175
  a70 := Tryz.isAgg175
  z70 := Tryz.sizeOf175
  v70 := Tryz.zeroValue175
  t72 := Tryz.underlying178
  a72 := Tryz.isAgg178
  z72 := Tryz.sizeOf178
  v72 := Tryz.zeroValue178
  t127 := Tryz.underlying234
  a127 := Tryz.isAgg234
  z127 := Tryz.sizeOf234
  v127 := Tryz.zeroValue234 }
theorem Tryz.Builder_Extra_169 : Builder.Extra Tryz.prog Tryz.lays169_ren := {
  sizeBuilder := by kernel_rfl
  liesBuilder := by kernel_rfl
  t5 := Tryz.underlying5
  a5 := Tryz.isAgg5
  z5 := Tryz.sizeOf5
  v5 := Tryz.zeroValue5
  infoByte := by kernel_rfl
  cellsByte := by kernel_rfl
  sizeByte := by kernel_rfl
  neB5 := by decide }
open Go.RowKit in
theorem Tryz.Builder_String_any (B b : Nat) (l : List UInt8) (w : World) (h : Lib.IsBuilder 178 5 B b (Lib.byteCells l) w) (hBw : B ≤ w.heap.size) :
    Calls Tryz.prog 115 #[.pointer (some ⟨b, 0, none⟩)] w fun e w' => e = .returned (.string ⟨l.toArray⟩) ∧ Below B w w' := Any.Builder_String_any Tryz.lays169 Tryz.Builder_Extra_169 B b l w h hBw
def Tryz.lays156_ren : Go.Shelf.Ren := ⟨fun | 156 => 167 | 165 => 201 | 166 => 114 | 169 => 115 | 240 => 165 | 241 => 222 | 276 => 199 | 277 => 239 | n => n, fun | 31 => 157 | 9 => 9 | 3 => 3 | 4 => 4 | 0 => 0 | 20 => 20 | 72 => 178 | 76 => 40 | 70 => 175 | 37 => 176 | 75 => 35 | 127 => 234 | 164 => 209 | 5 => 5 | 80 => 181 | n => n, fun | n => n⟩
theorem Tryz.lays156 : Go.Proofs.Lays.n156 Tryz.prog Tryz.lays156_ren := {
  mixed := by kernel_rfl
  f156 := Tryz.func167.trans (congrArg some (by kernel_rfl))
  f165 := Tryz.func201.trans (congrArg some (by kernel_rfl))
  f166 := Tryz.func114.trans (congrArg some (by kernel_rfl))
  f169 := Tryz.func115.trans (congrArg some (by kernel_rfl))
  f240 := Tryz.func165.trans (congrArg some (by kernel_rfl))
  f241 := Tryz.func222.trans (congrArg some (by kernel_rfl))
  f276 := Tryz.func199.trans (congrArg some (by kernel_rfl))
  f277 := Tryz.func239.trans (congrArg some (by kernel_rfl))
  t0 := Tryz.underlying0
  a0 := Tryz.isAgg0
  z0 := Tryz.sizeOf0
  v0 := Tryz.zeroValue0
  t3 := Tryz.underlying3
  a3 := Tryz.isAgg3
  z3 := Tryz.sizeOf3
  v3 := Tryz.zeroValue3
  t4 := Tryz.underlying4
  a4 := Tryz.isAgg4
  z4 := Tryz.sizeOf4
  v4 := Tryz.zeroValue4
  t9 := Tryz.underlying9
  a9 := Tryz.isAgg9
  z9 := Tryz.sizeOf9
  v9 := Tryz.zeroValue9
  t20 := Tryz.underlying20
  a20 := Tryz.isAgg20
  z20 := Tryz.sizeOf20
  v20 := Tryz.zeroValue20
  t31 := Tryz.underlying157
  a31 := Tryz.isAgg157
  z31 := Tryz.sizeOf157
  v31 := Tryz.zeroValue157
  t37 := Tryz.underlying176
  a37 := Tryz.isAgg176
  z37 := Tryz.sizeOf176
  v37 := Tryz.zeroValue176
  t70 := Tryz.underlying175
  a70 := Tryz.isAgg175
  z70 := Tryz.sizeOf175
  v70 := Tryz.zeroValue175
  t72 := Tryz.underlying178
  a72 := Tryz.isAgg178
  z72 := Tryz.sizeOf178
  v72 := Tryz.zeroValue178
  t75 := Tryz.underlying35
  a75 := Tryz.isAgg35
  z75 := Tryz.sizeOf35
  v75 := Tryz.zeroValue35
  t76 := Tryz.underlying40
  a76 := Tryz.isAgg40
  z76 := Tryz.sizeOf40
  v76 := Tryz.zeroValue40
  t127 := Tryz.underlying234
  a127 := Tryz.isAgg234
  z127 := Tryz.sizeOf234
  v127 := Tryz.zeroValue234
  t164 := Tryz.underlying209
  a164 := Tryz.isAgg209
  z164 := Tryz.sizeOf209
  v164 := Tryz.zeroValue209 }
theorem Tryz.Builder_Extra_156 : Builder.Extra Tryz.prog Tryz.lays156_ren := {
  sizeBuilder := by kernel_rfl
  liesBuilder := by kernel_rfl
  t5 := Tryz.underlying5
  a5 := Tryz.isAgg5
  z5 := Tryz.sizeOf5
  v5 := Tryz.zeroValue5
  infoByte := by kernel_rfl
  cellsByte := by kernel_rfl
  sizeByte := by kernel_rfl
  neB5 := by decide }
open Go.RowKit in
theorem Tryz.strings_Join (bk o c : Nat) (xs : List ByteArray) (sep : ByteArray) (w : World) (hcells : ∀ (j : Nat) x, xs[j]? = some x → w.cell? ⟨bk, o + j, none⟩ = some (.string x)) (hbk : bk < w.heap.size) (hN : xs.length ≤ 140737488355328) (hcap : xs.length ≤ c) (hlen : (Lib.join (xs.map (·.data.toList)) sep.data.toList).length ≤ 140737488355328) :
    Calls Tryz.prog 167 #[.slice (some ⟨bk, o, none⟩) xs.length c, .string sep] w fun e w' => e = .returned (.string ⟨(Lib.join (xs.map (·.data.toList)) sep.data.toList).toArray⟩) ∧ Below w.heap.size w w' := Any.strings_Join Tryz.lays156 Tryz.Builder_Extra_156 bk o c xs sep w hcells hbk hN hcap hlen
end Go.Proofs
namespace Go.Proofs.YtoobgeekmaeccaaGreatDoor
open Go.RowKit Go.Extern.Stop Go.Stop Go.Extern Go.Sort Go.Shelf Go.Lib

theorem itoa_below (n : Int) (w : World) (a : Nat → Addr) (h : Env0 w a) (h0 : -9223372036854775808 ≤ n) (h1 : n ≤ 9223372036854775807) :
    Calls Tryz.prog 64 #[.int .i64 n] w fun e w' => e = .returned (.string (bytesOf (itoa n))) ∧ Below w.heap.size w w' :=
  (itoa_any n w h.tab h0 h1).mono fun e w' ⟨he, k, os, hw⟩ => ⟨he, by subst hw; exact grow_below k os⟩

theorem eqB_of {s : ByteArray} {l : List UInt8} (h : s.data.toList = l) : (s.toList == l) = true := by
  rw [ByteArray.toList_eq]; simpa using h
theorem neB_of {s : ByteArray} {l : List UInt8} (h : s.data.toList ≠ l) : (s.toList == l) = false := by
  rw [ByteArray.toList_eq]; simpa using h

end Go.Proofs.YtoobgeekmaeccaaGreatDoor
namespace Go.Proofs.YtoobgeekmaeccaaGreatDoor
open Go.RowKit Go.Extern.Stop Go.Stop Go.Extern Go.Sort Go.Shelf Go.Lib

theorem holds_zero0 (w : World) (T : TypeId) (nd : Nat) (hs : nd ≤ 24) : Holds (fun (b : UInt8) => Value.int .u8 (b.toNat : Int)) (w.alloc (.cells Lib.zeros24 T)) w.heap.size 0 (Array.replicate nd (0 : UInt8)) := fun j hj => by
  have hj' : j < nd := by simpa using hj
  refine ⟨?_, World.frozen?_alloc_new _ _ _ _⟩
  rw [World.cell?_alloc_new, Lib.zeros24_at _ (by omega), getElem!_pos _ j hj]
  simp

theorem fin_pos0 (w : World) (o : Obj) (dk : Array UInt8) (k : Nat) : ∃ os, (putRow (fun (b : UInt8) => Value.int .u8 (b.toNat : Int)) (w.alloc o) w.heap.size 0 dk).drewN k = grow (w.drewN k) os := by
  rw [alloc_eq_grow]
  obtain ⟨os', _, e⟩ := putRow_grow_new (fun (b : UInt8) => Value.int .u8 (b.toNat : Int)) w #[o] w.heap.size 0 dk (Nat.le_refl _)
  exact ⟨os', by rw [e]; rfl⟩

theorem small_any (i : Nat) (hi : i < 100) (w : World) : Calls Tryz.prog 202 #[.int .i64 i] w fun e w' => e = .returned (.string ⟨(Lib.decDigits i).toArray⟩) ∧ w' = w :=
  Any.internal_strconv_small { Tryz.laysM171 with } i hi w

theorem numDigits_any (u : Nat) (h1 : 1 ≤ u) (h2 : u < 18446744073709551616) (w : World) (htab : Lib.TabIs Tryz.prog w "internal/strconv.uint64pow10" .u64 Lib.pow10Tab) :
    Calls Tryz.prog 203 #[.int .u64 u] w fun e w' => e = .returned (.int .i64 (Lib.nDigits u)) ∧ w' = w :=
  Any.internal_strconv_numDigits { Tryz.laysM171 with } u h1 h2 w htab

theorem base10_any (blk off cap : Nat) (u : Nat) (d : Array UInt8) (w : World) (hH : Holds (fun (b : UInt8) => Value.int .u8 (b.toNat : Int)) w blk off d) (hu : u < 10 ^ d.size) (hu64 : u < 18446744073709551616) (hsz : d.size < 4611686018427387904) :
    Calls Tryz.prog 204 #[.slice (some ⟨blk, off, none⟩) d.size cap, .int .u64 u] w fun e w' =>
      e = .returned (.tuple #[]) ∧ ∃ (n v' : Nat) (dk : Array UInt8), w' = (putRow (fun (b : UInt8) => Value.int .u8 (b.toNat : Int)) w blk off dk).drewN n ∧ FmtInv d.size u 0 v' dk :=
  Any.internal_strconv_formatBase10 { Tryz.laysM171 with } blk off cap u d w hH hu hu64 (by omega)

set_option maxHeartbeats 6400000 in
set_option maxRecDepth 100000 in
theorem fmtU_in (u : Nat) (hu64 : u < 18446744073709551616) (w : World) (htab : Lib.TabIs Tryz.prog w "internal/strconv.uint64pow10" .u64 Lib.pow10Tab) :
    Calls Tryz.prog 200 #[.int .u64 u, .int .i64 10] w fun e w' => e = .returned (.string ⟨(Lib.itoa u).toArray⟩) ∧ ∃ k os, w' = grow (w.drewN k) os := by
  by_cases hs : u < 100
  · have hsm := small_any u hs w
    have hi : (u : Int) < 100 := by omega
    have hwr : IntKind.i64.wrap (u : Int) = (u : Int) := IntWalk.i64_in _ (by omega)
    go_enter Tryz.func200, Tryz.ntmps200
    go_wp2_with fail
    refine hsm.mono ?_
    rintro e w' ⟨rfl, rfl⟩
    go_wp2
    go_ret
    refine ⟨?_, 0, #[], by simp [World.drewN_zero]⟩
    rw [Lib.itoa_nonneg]
    rfl
  · have hu1 : 1 ≤ u := by omega
    have hi : ¬ (u : Int) < 100 := by omega
    have hnd20 : Lib.nDigits u ≤ 20 := by have := Lib.numDigits_eq u hu1 hu64; split at this <;> omega
    have hal : Tryz.prog.arrayLen 277 = 24 := by simp [Program.arrayLen, Tryz.underlying277]
    have hsl1 : ∀ W, (Instr.sliceAt 277 (.pointer (some ⟨w.heap.size, 0, none⟩)) none (some (.int .i64 (Lib.nDigits u : Int))) none).run Tryz.prog W = .ok (.slice (some ⟨w.heap.size, 0, none⟩) (Lib.nDigits u) 24) W := fun W => by
      rw [run_sliceAt_array_h W 277 ⟨w.heap.size, 0, none⟩ (by simp [Program.arrayLen, Program.elem, Tryz.underlying277]) .i64 (Lib.nDigits u : Int) (by omega) (by rw [hal]; omega)]
      go_simp
    have hH0 := holds_zero0 w 277 (Lib.nDigits u) (by omega)
    have hfmt := base10_any w.heap.size 0 24 u (Array.replicate (Lib.nDigits u) 0) (w.alloc (.cells Lib.zeros24 277)) hH0 (by rw [Array.size_replicate]; exact Lib.lt_pow_nDigits u) hu64 (by rw [Array.size_replicate]; omega)
    rw [Array.size_replicate] at hfmt
    have hnd := numDigits_any u hu1 hu64 _ (Lib.tabIs_alloc htab (.cells Lib.zeros24 277))
    have HH0 := Lib.hid hH0
    clear hH0 hal
    go_enter Tryz.func200, Tryz.ntmps200
    go_wp2_with fail
    refine hnd.mono ?_
    rintro e w' ⟨rfl, rfl⟩
    go_wp2_with fail
    refine hfmt.mono ?_
    rintro e w' ⟨rfl, k, v', dk, rfl, hF⟩
    have hcv : (convert 176 9 (.slice (some ⟨w.heap.size, 0, none⟩) (Lib.nDigits u) 24)).run Tryz.prog ((putRow (fun (b : UInt8) => Value.int .u8 (b.toNat : Int)) (w.alloc (.cells Lib.zeros24 277)) w.heap.size 0 dk).drewN k) = .ok (.string ⟨(Lib.decDigits u).toArray⟩) ((putRow (fun (b : UInt8) => Value.int .u8 (b.toNat : Int)) (w.alloc (.cells Lib.zeros24 277)) w.heap.size 0 dk).drewN k) := by
      have h := run_convert_bytes_back (P := Tryz.prog) ((putRow (fun (b : UInt8) => Value.int .u8 (b.toNat : Int)) (w.alloc (.cells Lib.zeros24 277)) w.heap.size 0 dk).drewN k) 176 9 5 ⟨w.heap.size, 0, none⟩ 24 (Lib.decDigits u) Tryz.underlying176 Tryz.underlying5 Tryz.underlying9 (fun j hj => by
        rw [Lib.row_is_numeral hF j hj, Lib.add_plain, World.cell?_drewN]
        exact cell?_putRow (fun (b : UInt8) => Value.int .u8 (b.toNat : Int)) _ w.heap.size 0 _ dk HH0.out (by rw [hF.size, Array.size_replicate]) j (by rw [hF.size]; rw [Lib.decDigits_length] at hj; exact hj))
      rw [Lib.decDigits_length] at h
      exact h
    go_wp2
    go_ret
    obtain ⟨os, eo⟩ := fin_pos0 w (.cells Lib.zeros24 277) dk k
    refine ⟨?_, k, os, eo⟩
    rw [Lib.itoa_nonneg]
    rfl

set_option maxHeartbeats 1000000 in
theorem fmtU_any (u : Nat) (hu64 : u < 18446744073709551616) (w : World) (a : Nat → Addr) (h : Env0 w a) :
    Calls Tryz.prog 166 #[.int .u64 u, .int .i64 10] w fun e w' => e = .returned (.string (bytesOf (itoa u))) ∧ Below w.heap.size w w' := by
  have hin := fmtU_in u hu64 w h.tab
  go_enter Tryz.func166, Tryz.ntmps166
  go_wp2_with fail
  refine hin.mono ?_
  rintro e w' ⟨rfl, k, os, rfl⟩
  go_wp2
  go_ret
  exact ⟨rfl, grow_below k os⟩
end Go.Proofs.YtoobgeekmaeccaaGreatDoor
