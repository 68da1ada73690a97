/-
  The contracts of the document's own Cut, by any byte, and of NumbersOf, of any texts.
  The contract of the document's own DataOf.
  The contracts of the document's own splitText and headFault.
  The contract of the document's own ReadData.
-/
import Derived.Test.YtpiagofhgalklacGreatDoorRefEnds
import Derived.Test.YtpiagofhgalklacGreatDoorLinePure
import Derived.Test.YtpiagofhgalklacGreatDoorRefNums
import Derived.BigRegion
import Derived.Test.YtpiagofhgalklacGreatDoorRowLaw
import Derived.Deep.Onto
import Derived.Test.YtpiagofhgalklacGreatDoorCoded
import Derived.Test.YtpiagofhgalklacGreatDoorFaulted
import Derived.Lib.QuietBelow
import Derived.BigQuiet
import Derived.Test.YtpiagofhgalklacGreatDoorDataMake
import Derived.Test.YtpiagofhgalklacGreatDoorDataRows
namespace Go.Proofs.YtpiagofhgalklacGreatDoor
open Go.RowKit Go.Extern.Stop Go.Stop Go.Extern Go.Sort Go.Shelf Go.Lib

/-- Cut so far: the pieces ts before f, no d from f to n. -/
def CutInvD (d : UInt8) (l : List UInt8) (f n : Nat) (ts : List ByteArray) : Prop :=
  f ≤ n ∧ ts.length ≤ f ∧ (∀ c ∈ (l.drop f).take (n - f), c ≠ d) ∧ ts.map (·.data.toList) ++ pieces d (l.drop f) = pieces d l

theorem cutd_zero (d : UInt8) (l : List UInt8) : CutInvD d l 0 0 [] := ⟨Nat.le_refl _, Nat.le_refl _, by simp, by simp⟩

theorem cutd_skip {d : UInt8} {l : List UInt8} {f n : Nat} {ts : List ByteArray} {c : UInt8} (h : CutInvD d l f n ts) (hc : l[n]? = some c) (hne : c ≠ d) : CutInvD d l f (n + 1) ts := by
  obtain ⟨h1, h2, h3, h4⟩ := h
  refine ⟨by omega, h2, fun g hd => ?_, h4⟩
  obtain ⟨k, hk⟩ := List.mem_iff_getElem?.1 hd
  rw [List.getElem?_take] at hk
  split at hk
  · rename_i hlt
    rw [List.getElem?_drop] at hk
    rcases Nat.lt_or_ge k (n - f) with h' | h'
    · refine h3 g (List.mem_iff_getElem?.2 ⟨k, ?_⟩)
      rw [List.getElem?_take, if_pos h', List.getElem?_drop, hk]
    · rw [show f + k = n by omega, hc] at hk
      rw [← Option.some.inj hk]; exact hne
  · cases hk

theorem cutd_hit {d : UInt8} {s : ByteArray} {f n : Nat} {ts : List ByteArray} (h : CutInvD d s.data.toList f n ts) (hc : s.data.toList[n]? = some d) : CutInvD d s.data.toList (n + 1) (n + 1) (ts ++ [s.extract f n]) := by
  obtain ⟨h1, h2, h3, h4⟩ := h
  refine ⟨Nat.le_refl _, by simp; omega, by simp, ?_⟩
  have hn : n < s.data.toList.length := by
    rcases Nat.lt_or_ge n s.data.toList.length with h | h
    · exact h
    · rw [List.getElem?_eq_none h] at hc; cases hc
  have hsp : s.data.toList.drop f = (s.data.toList.drop f).take (n - f) ++ d :: s.data.toList.drop (n + 1) := by
    have e1 := List.take_append_drop (n - f) (s.data.toList.drop f)
    rw [List.drop_drop, show f + (n - f) = n by omega, List.drop_eq_getElem_cons hn] at e1
    rw [List.getElem?_eq_getElem hn] at hc
    rw [Option.some.inj hc] at e1
    exact e1.symm
  rw [hsp, pieces_append d _ _ h3] at h4
  rw [← h4, List.map_append, List.append_assoc]
  congr 1
  simp only [List.map_cons, List.map_nil, List.cons_append, List.nil_append]
  rw [extract_data]

theorem cutd_end {d : UInt8} {s : ByteArray} {f : Nat} {ts : List ByteArray} (h : CutInvD d s.data.toList f s.size ts) : (ts ++ [s.extract f s.size]).map (·.data.toList) = pieces d s.data.toList := by
  obtain ⟨h1, h2, h3, h4⟩ := h
  rw [List.take_of_length_le (by rw [List.length_drop, size_list]; omega)] at h3
  rw [pieces_none d _ h3] at h4
  rw [← h4, List.map_append]
  simp only [List.map_cons, List.map_nil, extract_to_end]

set_option maxRecDepth 100000 in
set_option maxHeartbeats 2000000 in
theorem cutBy_any (d : UInt8) (s : ByteArray) (w : World) (hs : s.size < 4294967281) :
    Calls Tryz.prog 55 #[.string s, .int .u8 d.toNat] w fun e w' => ∃ v ts, e = .returned v ∧ TextsAt w' v ts ∧ ts.map (·.data.toList) = pieces d s.data.toList ∧ Below w.heap.size w w' := by
  obtain ⟨i0, hi0, hz0, hs0, hby0⟩ := Tryz.strInfo
  go_enter Tryz.func55, Tryz.ntmps55
  go_wp2
  go_loopw [5, 6, 7] (fun out from' k wr => ∃ (n f : Nat) (ts : List ByteArray), n ≤ s.size ∧ k = .int .i64 n ∧ from' = .int .i64 f ∧ Below w.heap.size w wr ∧ CutInvD d s.data.toList f n ts ∧ wr.ownsRow w.heap.size 9 1 out ts.length (ts.map Value.string)) (fun _ _ k _ => s.size - (intOf k).toNat)
  case atStart => exact ⟨0, 0, [], by omega, rfl, rfl, Below.refl _ _, cutd_zero _ _, by simp; exact World.ownsRow_nil _ _ _ _⟩
  case round =>
    obtain ⟨n, f, ts, hn, rfl, rfl, hb, hci, hown⟩ := hrel
    have OW : Hid (wr.ownsRow w.heap.size 9 1 u5 ts.length (ts.map Value.string)) := hown
    have CI : Hid (CutInvD d s.data.toList f n ts) := hci
    have hfn : f ≤ n := hci.1
    have htl : ts.length ≤ f := hci.2.1
    have TL : Hid (ts.length ≤ f) := htl
    clear hown hci htl
    by_cases hlt : n < s.size
    · have hi : (n : Int) < (s.size : Int) := by omega
      have hby := byte_list s n hlt
      by_cases hc : s[n].toNat = d.toNat
      · have hc' : (s[n].toNat : Int) = d.toNat := by omega
        have HC : Hid (s.data.toList[n]? = some d) := by
          rw [hby]
          exact congrArg some (UInt8.toNat_inj.1 hc)
        clear hby hc
        have hal : Below wr.heap.size wr (wr.alloc (.cells #[.string (s.extract f n)] 9)) := (Below.refl _ _).alloc (Nat.le_refl _) _
        have hbA : Below w.heap.size w (wr.alloc (.cells #[.string (s.extract f n)] 9)) := hb.alloc hb.size _
        go_wp2_with (at_builtin; refine wpList_append_own _ rfl _ _ 93 rfl w.heap.size 9 i0 (.string ⟨#[]⟩) 1 16 Tryz.underlying93 hi0 hz0 hs0 hby0 rfl (by decide) u5 ts.length (ts.map Value.string) rfl ?qc0 ⟨wr.heap.size, 0, none⟩ 1 1 [.string (s.extract f n)] rfl ?qc1 ?qc2 ?qc3 ?qc4 ?qc5 ?qc6 ?_)
        case qc0 => exact own_below OW.out hal
        case qc1 => rfl
        case qc2 => exact cell_one _ _ _
        case qc3 => intro u hu; simp at hu; subst hu; rfl
        case qc4 => have := TL.out; unfold maxLen; omega
        case qc5 => have := TL.out; omega
        case qc6 => first | exact hbA.size | (have := hb.size; omega)
        intro v' w4 hown4 hgrow hnil
        have hbC : Below w.heap.size w w4 := hbA.grown hgrow hbA.size (fun k hk => by
          rcases OW.out.2 with ⟨e, _⟩ | ⟨g', cap', cur, e, hg', _⟩
          · rw [e] at hk; simp [Value.ownBlock] at hk
          · rw [e] at hk; simp [Value.ownBlock] at hk; omega)
        have OW4 : Hid (w4.ownsRow w.heap.size 9 1 v' (ts.length + 1) (ts.map Value.string ++ [.string (s.extract f n)])) := hown4
        clear hown4 hnil hgrow
        go_wp2
        go_roundw
        case rel => exact ⟨n + 1, n + 1, ts ++ [s.extract f n], by omega, by go_num, by go_num, hbC, cutd_hit CI.out HC.out, by rw [List.length_append, List.map_append]; exact OW4.out⟩
        case measure => simp [intOf]; omega
      · have hc' : ¬ (s[n].toNat : Int) = d.toNat := by omega
        have CI' : Hid (CutInvD d s.data.toList f (n + 1) ts) := cutd_skip CI.out hby (fun e => hc (by rw [e]))
        clear hby hc
        go_wp2
        go_roundw
        case rel => exact ⟨n + 1, f, ts, by omega, by go_num, by go_num, hb, CI'.out, OW.out⟩
        case measure => simp [intOf]; omega
    · have hn' : n = s.size := by omega
      subst hn'
      have hal : Below wr.heap.size wr (wr.alloc (.cells #[.string (s.extract f s.size)] 9)) := (Below.refl _ _).alloc (Nat.le_refl _) _
      have hbA : Below w.heap.size w (wr.alloc (.cells #[.string (s.extract f s.size)] 9)) := hb.alloc hb.size _
      go_wp2_with (at_builtin; refine wpList_append_own _ rfl _ _ 93 rfl w.heap.size 9 i0 (.string ⟨#[]⟩) 1 16 Tryz.underlying93 hi0 hz0 hs0 hby0 rfl (by decide) u5 ts.length (ts.map Value.string) rfl ?qc0 ⟨wr.heap.size, 0, none⟩ 1 1 [.string (s.extract f s.size)] rfl ?qc1 ?qc2 ?qc3 ?qc4 ?qc5 ?qc6 ?_)
      case qc0 => exact own_below OW.out hal
      case qc1 => rfl
      case qc2 => exact cell_one _ _ _
      case qc3 => intro u hu; simp at hu; subst hu; rfl
      case qc4 => have := TL.out; unfold maxLen; omega
      case qc5 => have := TL.out; omega
      case qc6 => first | exact hbA.size | (have := hb.size; omega)
      intro v' w4 hown4 hgrow hnil
      have hbC : Below w.heap.size w w4 := hbA.grown hgrow hbA.size (fun k hk => by
        rcases OW.out.2 with ⟨e, _⟩ | ⟨g', cap', cur, e, hg', _⟩
        · rw [e] at hk; simp [Value.ownBlock] at hk
        · rw [e] at hk; simp [Value.ownBlock] at hk; omega)
      have OW4 : Hid (w4.ownsRow w.heap.size 9 1 v' (ts.length + 1) (ts.map Value.string ++ [.string (s.extract f s.size)])) := hown4
      clear hown4 hnil hgrow
      go_wp2
      go_ret
      exact ⟨v', ts ++ [s.extract f s.size], rfl, textsAt_of_own (base := w.heap.size) (by simp) (by rw [List.length_append, List.map_append]; exact OW4.out), cutd_end CI.out, hbC⟩

/-- What texts are: numbers, or one that is none. -/
def NumsPost (w : World) (e : Ending) (ts : List ByteArray) : Prop :=
  (∃ (zs : List Int) (v : Value), zs.length = ts.length ∧ (∀ (j : Nat) (t : ByteArray), ts[j]? = some t → numO t.data.toList = zs[j]?) ∧ e = .returned (.tuple #[v, .bool true]) ∧ KeysAt w v zs) ∨
  (∃ (j : Nat) (t : ByteArray), ts[j]? = some t ∧ numO t.data.toList = none ∧ e = .returned (.tuple #[.slice none 0 0, .bool false]))

set_option maxRecDepth 100000 in
set_option maxHeartbeats 2000000 in
theorem numbersOf_list (b o cap : Nat) (ts : List ByteArray) (w : World) (hc : ∀ j (h : j < ts.length), w.cell? ⟨b, o + j, none⟩ = some (.string ts[j])) (hs : ∀ t ∈ ts, t.size ≤ maxLen) (hl : ts.length ≤ 20000) :
    Calls Tryz.prog 73 #[.slice (some ⟨b, o, none⟩) ts.length cap] w fun e w' => NumsPost w' e ts ∧ Below w.heap.size w w' := by
  obtain ⟨i0, hi0, hz0, hs0, hby0⟩ := Tryz.numInfo
  have HC : Hid (∀ j (h : j < ts.length), w.cell? ⟨b, o + j, none⟩ = some (.string ts[j])) := hc
  have HS : Hid (∀ t ∈ ts, t.size ≤ maxLen) := hs
  obtain ⟨L, hL⟩ : ∃ L, ts.length = L := ⟨_, rfl⟩
  have HX : Hid (ts.length = L) := hL
  rw [hL] at hl ⊢
  clear hL hc hs
  go_enter Tryz.func73, Tryz.ntmps73
  go_wp2
  go_loopw [4, 5] (fun out k wr => ∃ (n : Nat) (zs : List Int), n ≤ L ∧ k = .int .i64 n ∧ Below w.heap.size w wr ∧ zs.length = n ∧ (∀ j t, j < n → ts[j]? = some t → numO t.data.toList = zs[j]?) ∧ wr.ownsRow w.heap.size 3 1 out n (zs.map encZ)) (fun _ k _ => L - (intOf k).toNat)
  case atStart => exact ⟨0, [], by omega, rfl, Below.refl _ _, rfl, fun j t h => absurd h (Nat.not_lt_zero _), by simp; exact World.ownsRow_nil _ _ _ _⟩
  case round =>
    obtain ⟨n, zs, hn, rfl, hb, hzl, hzs, hown⟩ := hrel
    have OW : Hid (wr.ownsRow w.heap.size 3 1 u4 n (zs.map encZ)) := hown
    have HZL : Hid (zs.length = n) := hzl
    have HZS : Hid (∀ j t, j < n → ts[j]? = some t → numO t.data.toList = zs[j]?) := hzs
    clear hown hzl hzs
    by_cases hlt : n < L
    · have hltx : n < ts.length := by rw [HX.out]; exact hlt
      have c1 := below_keep hb (HC.out n hltx)
      have HG : Hid (ts[n]? = some ts[n]) := List.getElem?_eq_getElem hltx
      have hnum := fun W => numberOf_any ts[n] W (HS.out _ (List.getElem_mem _))
      generalize ts[n] = t at c1 HG hnum
      unfold numR at hnum
      have hi : (n : Int) < (L : Int) := by omega
      have hi0' : (0 : Int) ≤ (n : Int) := by omega
      clear hltx
      cases hk : numO t.data.toList with
      | none =>
        rw [hk] at hnum
        dsimp only at hnum
        have HK : Hid (numO t.data.toList = none) := hk
        clear hk
        go_wp2_with (go_at_call 74; refine (hnum _).mono ?_; rintro e w1 ⟨rfl, hw⟩; rw [hw]; clear hw)
        go_ret2
        exact ⟨Or.inr ⟨n, t, HG.out, HK.out, rfl⟩, hb⟩
      | some x =>
        rw [hk] at hnum
        dsimp only at hnum
        have HK : Hid (numO t.data.toList = some x) := hk
        clear hk
        have hal : Below wr.heap.size wr (wr.alloc (.cells #[.int .i64 x] 3)) := (Below.refl _ _).alloc (Nat.le_refl _) _
        have hbA : Below w.heap.size w (wr.alloc (.cells #[.int .i64 x] 3)) := hb.alloc hb.size _
        go_wp2_with (first
          | (go_at_call 74; refine (hnum _).mono ?_; rintro e w1 ⟨rfl, hw⟩; rw [hw]; clear hw)
          | (at_builtin; refine wpList_append_own _ rfl _ _ 117 rfl w.heap.size 3 i0 (.int .i64 0) 1 8 Tryz.underlying117 hi0 hz0 hs0 hby0 rfl (by decide) u4 n (zs.map encZ) rfl ?qc0 ⟨wr.heap.size, 0, none⟩ 1 1 [.int .i64 x] rfl ?qc1 ?qc2 ?qc3 ?qc4 ?qc5 ?qc6 ?_))
        case qc0 => exact own_below OW.out hal
        case qc1 => rfl
        case qc2 => exact cell_one _ _ _
        case qc3 => intro u hu; simp at hu; subst hu; rfl
        case qc4 => unfold maxLen; omega
        case qc5 => omega
        case qc6 => first | exact hbA.size | (have := hb.size; omega)
        intro v' w4 hown4 hgrow hnil
        have hbC : Below w.heap.size w w4 := hbA.grown hgrow hbA.size (fun k hk => by
          rcases OW.out.2 with ⟨e, _⟩ | ⟨g', cap', cur, e, hg', _⟩
          · rw [e] at hk; simp [Value.ownBlock] at hk
          · rw [e] at hk; simp [Value.ownBlock] at hk; omega)
        have OW4 : Hid (w4.ownsRow w.heap.size 3 1 v' (n + 1) (zs.map encZ ++ [.int .i64 x])) := hown4
        clear hown4 hnil hgrow
        go_wp2
        go_roundw
        case rel =>
          refine ⟨n + 1, zs ++ [x], by omega, by go_num, hbC, by rw [List.length_append, HZL.out]; rfl, fun j t' hj ht' => ?_, by rw [List.map_append]; exact OW4.out⟩
          rcases Nat.lt_or_ge j n with h' | h'
          · rw [HZS.out j t' h' ht', List.getElem?_append_left (by rw [HZL.out]; exact h')]
          · obtain rfl : j = n := by omega
            rw [HG.out] at ht'
            rw [← Option.some.inj ht', HK.out, List.getElem?_append_right (by rw [HZL.out]; exact Nat.le_refl _), HZL.out, Nat.sub_self]
            rfl
        case measure => simp [intOf]; omega
    · obtain rfl : n = L := by omega
      have HKA : Hid (KeysAt wr u4 zs) := keysAt_of_own (base := w.heap.size) (by rw [HZL.out]; exact OW.out)
      go_wp2
      go_ret2
      exact ⟨Or.inl ⟨zs, u4, by rw [HZL.out, HX.out], fun j t ht => HZS.out j t (by
        rw [← HX.out]
        rcases Nat.lt_or_ge j ts.length with h | h
        · exact h
        · rw [List.getElem?_eq_none h] at ht; cases ht) ht, rfl, HKA.out⟩, hb⟩
end Go.Proofs.YtpiagofhgalklacGreatDoor
namespace Go.Proofs.YtpiagofhgalklacGreatDoor
open Go.RowKit Go.Extern.Stop Go.Stop Go.Extern Go.Sort Go.Shelf Go.Lib

theorem fine_of (w : World) : Calls Tryz.prog 43 #[] w fun e w' => e = .returned (.agg #[.int .i64 0, .int .i64 (-1)]) ∧ Below w.heap.size w w' := by
  go_enter Tryz.func43, Tryz.ntmps43
  go_wp2
  refine bodyPost_ret (v := .agg #[.int .i64 0, .int .i64 (-1)]) (by simp [results, Tryz.results43, go_sem]) rfl ⟨rfl, ?_⟩
  exact (Below.refl _ _).alloc (Nat.le_refl _) _

theorem bare_of (n : Int) (w : World) : Calls Tryz.prog 40 #[.int .i64 n] w fun e w' => e = .returned (.agg #[.int .i64 n, .int .i64 (-1)]) ∧ Below w.heap.size w w' := by
  go_enter Tryz.func40, Tryz.ntmps40
  go_wp2
  refine bodyPost_ret (v := .agg #[.int .i64 n, .int .i64 (-1)]) (by simp [results, Tryz.results40, go_sem]) rfl ⟨rfl, ?_⟩
  exact (Below.refl _ _).alloc (Nat.le_refl _) _

/-- The cell of a fault. -/
def FC (W : World) (F : Nat) (x y : Int) : Prop := W.heap[F]? = some (.cells #[.int .i64 x, .int .i64 y] 30 (0, 0))
theorem FC.lt {W : World} {F : Nat} {x y : Int} (h : FC W F x y) : F < W.heap.size := lt_of_block h
theorem FC.below {W W' : World} {F : Nat} {x y : Int} (h : FC W F x y) (hb : Below W.heap.size W W') : FC W' F x y := (hb.block F h.lt).trans h
theorem FC.c0 {W : World} {F : Nat} {x y : Int} (h : FC W F x y) : W.cell? ⟨F, 0, none⟩ = some (.int .i64 x) := by rw [cell_of_row _ _ _ _ _ _ h]; rfl
theorem FC.c1 {W : World} {F : Nat} {x y : Int} (h : FC W F x y) : W.cell? ⟨F, 1, none⟩ = some (.int .i64 y) := by rw [cell_of_row _ _ _ _ _ _ h]; rfl
theorem FC.fz {W : World} {F : Nat} {x y : Int} (h : FC W F x y) (o : Nat) : W.frozen? ⟨F, o, none⟩ = false := frozen_of_row _ _ _ _ _ h
theorem FC.new (w : World) : FC (w.alloc (.cells #[.int .i64 0, .int .i64 0] 30)) w.heap.size 0 0 := heap_alloc_new _ _
theorem FC.set {W : World} {F : Nat} {x y : Int} (h : FC W F x y) (a b : Int) : FC ((W.setCell ⟨F, 0, none⟩ (.int .i64 a)).setCell ⟨F, 1, none⟩ (.int .i64 b)) F a b := by
  have h1 : (W.setCell ⟨F, 0, none⟩ (.int .i64 a)).heap[F]? = some (.cells #[.int .i64 a, .int .i64 y] 30 (0, 0)) := by
    rw [heap_setCell_same _ _ _ _ _ _ h]; rfl
  show _ = _
  rw [heap_setCell_same _ _ _ _ _ _ h1]; rfl

theorem lines_take (xs : List Rw) (n : Nat) (h : n < xs.length) : linesL (xs.take (n + 1)) = linesL (xs.take n) ++ (textL xs[n] ++ [10]) := by
  rw [← List.take_append_getElem h, lines_snoc]

end Go.Proofs.YtpiagofhgalklacGreatDoor
namespace Go.Proofs.YtpiagofhgalklacGreatDoor
open Go.RowKit Go.Extern.Stop Go.Stop Go.Extern Go.Sort Go.Shelf Go.Lib

/-- What splitText hands back. -/
def SplitT {β : Type} (k : FK β) (w : World) (s : List UInt8) (e : Ending) (w' : World) : Prop :=
  Below w.heap.size w w' ∧ ((∃ c : Nat, c ≠ 0 ∧ e = .returned (.tuple #[.slice none 0 0, .slice none 0 0, .agg #[.int .i64 c, .int .i64 (-1)]]) ∧ readG k s = ([], c, none)) ∨
    (∃ (n lo hi sum : Int) (b : List UInt8) (v tv : Value) (ts : List ByteArray), e = .returned (.tuple #[v, tv, .agg #[.int .i64 0, .int .i64 (-1)]]) ∧ KeysAt w' v [n, lo, hi, sum] ∧ TextsAt w' tv ts ∧ ts.map (·.data.toList) = pieces 10 b ∧ b.length ≤ 20000 ∧ readG k s = endG k n lo hi (rowsG k (pieces 10 b) 0 [])))

theorem sumOf_low (s : ByteArray) (w : World) (hs : s.size ≤ maxLen) : Calls Tryz.prog 71 #[.string s] w fun e w' => e = .returned (.int .i64 (sumL s.data.toList : Nat)) ∧ Below w.heap.size w w' :=
  (sumOf_any s w hs).mono fun e w' ⟨h1, h2⟩ => ⟨h1, by rw [h2]; exact Below.refl _ _⟩

theorem KeysAt.setLow {W : World} {v : Value} {zs : List Int} {F o : Nat} {x : Value} (h : KeysAt W v zs) (hF : ∀ b o' c n, v = .slice (some ⟨b, o', none⟩) n c → b ≠ F) : KeysAt (W.setCell ⟨F, o, none⟩ x) v zs := by
  rcases h with h | ⟨b, o', c, rfl, h⟩
  · exact .inl h
  · exact .inr ⟨b, o', c, rfl, fun j hj => by
      rw [World.cell?_setCell_other _ _ _ _ (by have := hF b o' c _ rfl; simp)]
      exact h j hj⟩

theorem TextsAt.setLow {W : World} {v : Value} {ts : List ByteArray} {F o : Nat} {x : Value} (h : TextsAt W v ts) (hF : ∀ b o' c n, v = .slice (some ⟨b, o', none⟩) n c → b ≠ F) : TextsAt (W.setCell ⟨F, o, none⟩ x) v ts := by
  obtain ⟨b, c, rfl, hc, h⟩ := h
  exact ⟨b, c, rfl, hc, fun j hj => by
    rw [World.cell?_setCell_other _ _ _ _ (by have := hF b 0 c _ rfl; simp)]
    exact h j hj⟩

theorem FC.ne_keys {W : World} {F : Nat} {x y : Int} {v : Value} {zs : List Int} (h : FC W F x y) (hk : KeysAt W v zs) (h4 : 4 ≤ zs.length) : ∀ b o' c n, v = .slice (some ⟨b, o', none⟩) n c → b ≠ F := by
  intro b o' c n hv e
  subst e
  rcases hk with ⟨_, _, e1, e2⟩ | ⟨b2, o2, c2, e1, h2⟩
  · rw [e2] at h4; simp at h4
  · rw [e1] at hv
    injection hv with e3
    injection e3 with e3
    injection e3 with e3 e4
    subst e3
    have := h2 3 (by omega)
    rw [cell_of_row _ _ _ _ _ _ h, Array.getElem?_eq_none (by simp)] at this
    cases this
theorem FC.ne_texts {W : World} {F : Nat} {x y : Int} {v : Value} {ts : List ByteArray} (h : FC W F x y) (ht : TextsAt W v ts) (hne : ts ≠ []) : ∀ b o' c n, v = .slice (some ⟨b, o', none⟩) n c → b ≠ F := by
  intro b o' c n hv e
  subst e
  obtain ⟨b2, c2, e1, _, h2⟩ := ht
  rw [e1] at hv
  injection hv with e3
  injection e3 with e3
  injection e3 with e3 e4
  subst e3
  have := h2 0 (List.length_pos_iff.2 hne)
  rw [cell_of_row _ _ _ _ _ _ h] at this
  simp at this

/-- The number of a head's fault. -/
def headF (n lo hi : Int) (zs : List Int) : Nat := if 40 < zs.length then 8 else if n = zs.length ∧ lo = (endsZ zs).1 ∧ hi = (endsZ zs).2 then 0 else 3

end Go.Proofs.YtpiagofhgalklacGreatDoor
namespace Go.Proofs.YtpiagofhgalklacGreatDoor
open Go.RowKit Go.Extern.Stop Go.Stop Go.Extern Go.Sort Go.Shelf Go.Lib

/-- What ReadData hands back. -/
def ReadPost (w : World) (D : List Rw × Nat × Option Nat) (e : Ending) (w' : World) : Prop :=
  Below w.heap.size w w' ∧ ((D.2.1 = 0 ∧ ∃ v, e = .returned (.tuple #[v, .agg #[.int .i64 0, .int .i64 (-1)]]) ∧ RowsAt w' v D.1) ∨
    (D.2.1 ≠ 0 ∧ ∃ j : Int, e = .returned (.tuple #[.slice none 0 0, .agg #[.int .i64 D.2.1, .int .i64 j]]) ∧ (D.2.2 = none → j = -1) ∧ ∀ k : Nat, D.2.2 = some k → j = k))

theorem own_slice {W : World} {base : Nat} {e : TypeId} {size : Nat} {v : Value} {n : Nat} {xs : List Value} (h : W.ownsRow base e size v n xs) : ∃ q c, v = .slice q n c := by
  rcases h.2 with ⟨rfl, rfl⟩ | ⟨g, cap, cur, rfl, _⟩
  · exact ⟨_, _, rfl⟩
  · exact ⟨_, _, rfl⟩

theorem pieces_len (d : UInt8) : ∀ (l : List UInt8), ∀ x ∈ pieces d l, x.length ≤ l.length
  | [], x, h => by simp [pieces] at h; simp [h]
  | c :: r, x, h => by
    have ih := pieces_len d r
    unfold pieces at h
    split at h
    · rw [List.mem_cons] at h
      rcases h with rfl | h
      · simp
      · have := ih x h; simp; omega
    · split at h
      · rw [List.mem_singleton] at h; subst h; simp
      · rename_i w ws e
        rw [e] at ih
        rw [List.mem_cons] at h
        rcases h with rfl | h
        · have := ih w List.mem_cons_self; simp; omega
        · have := ih x (List.mem_cons_of_mem _ h); simp; omega

theorem blk_other {W : World} {g b : Nat} {o : Nat} {v : Value} {x : Option Obj} (h : W.heap[g]? = x) (hne : g ≠ b) : (W.setCell ⟨b, o, none⟩ v).heap[g]? = x := by
  rw [heap_setCell_other _ _ _ _ hne]; exact h

theorem headF_end (n lo hi : Int) (acc : List Rw) : endO n lo hi (acc, 0, 0) = if headF n lo hi (keysR acc) = 0 then (acc, 0, none) else ([], headF n lo hi (keysR acc), none) := by
  have e : (keysR acc).length = acc.length := by simp [keysG]
  unfold endO endG headF
  rw [e]
  simp only [ne_eq, not_true_eq_false, if_false]
  split
  · simp
  · split <;> simp

end Go.Proofs.YtpiagofhgalklacGreatDoor
