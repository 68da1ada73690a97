/-
  The contract of the document's own DataOf.
  The contracts of the document's own Cut, by any byte, and of NumbersOf, of any texts.
  The contracts of the document's own splitText and headFault.
  The contract of the document's own ReadData.
-/
import Derived.Test.YtgffkkijfmoooabGreatDoorRefEnds
import Derived.Test.YtgffkkijfmoooabGreatDoorTellsWalk
import Derived.Test.YtgffkkijfmoooabGreatDoorDataMake
import Derived.Test.YtgffkkijfmoooabGreatDoorLinePure
import Derived.Test.YtgffkkijfmoooabGreatDoorDataFile
import Derived.Lib.QuietBelow
import Derived.BigQuiet
import Derived.Test.YtgffkkijfmoooabGreatDoorRefSort
import Derived.BigRegion
namespace Go.Proofs.YtgffkkijfmoooabGreatDoor
open Go.RowKit Go.Extern.Stop Go.Stop Go.Extern Go.Sort Go.Shelf Go.Lib

theorem fine_of (w : World) : Calls Tryz.prog 64 #[] w fun e w' => e = .returned (.agg #[.int .i64 0, .int .i64 (-1)]) ∧ Below w.heap.size w w' := by
  go_enter Tryz.func64, Tryz.ntmps64
  go_wp2
  refine bodyPost_ret (v := .agg #[.int .i64 0, .int .i64 (-1)]) (by simp [results, Tryz.results64, go_sem]) rfl ⟨rfl, ?_⟩
  exact (Below.refl _ _).alloc (Nat.le_refl _) _

theorem bare_of (n : Int) (w : World) : Calls Tryz.prog 58 #[.int .i64 n] w fun e w' => e = .returned (.agg #[.int .i64 n, .int .i64 (-1)]) ∧ Below w.heap.size w w' := by
  go_enter Tryz.func58, Tryz.ntmps58
  go_wp2
  refine bodyPost_ret (v := .agg #[.int .i64 n, .int .i64 (-1)]) (by simp [results, Tryz.results58, go_sem]) rfl ⟨rfl, ?_⟩
  exact (Below.refl _ _).alloc (Nat.le_refl _) _

/-- The cell of a fault. -/
def FC (W : World) (F : Nat) (x y : Int) : Prop := W.heap[F]? = some (.cells #[.int .i64 x, .int .i64 y] 31 (0, 0))
theorem FC.lt {W : World} {F : Nat} {x y : Int} (h : FC W F x y) : F < W.heap.size := lt_of_block h
theorem FC.below {W W' : World} {F : Nat} {x y : Int} (h : FC W F x y) (hb : Below W.heap.size W W') : FC W' F x y := (hb.block F h.lt).trans h
theorem FC.c0 {W : World} {F : Nat} {x y : Int} (h : FC W F x y) : W.cell? ⟨F, 0, none⟩ = some (.int .i64 x) := by rw [cell_of_row _ _ _ _ _ _ h]; rfl
theorem FC.c1 {W : World} {F : Nat} {x y : Int} (h : FC W F x y) : W.cell? ⟨F, 1, none⟩ = some (.int .i64 y) := by rw [cell_of_row _ _ _ _ _ _ h]; rfl
theorem FC.fz {W : World} {F : Nat} {x y : Int} (h : FC W F x y) (o : Nat) : W.frozen? ⟨F, o, none⟩ = false := frozen_of_row _ _ _ _ _ h
theorem FC.new (w : World) : FC (w.alloc (.cells #[.int .i64 0, .int .i64 0] 31)) w.heap.size 0 0 := heap_alloc_new _ _
theorem FC.set {W : World} {F : Nat} {x y : Int} (h : FC W F x y) (a b : Int) : FC ((W.setCell ⟨F, 0, none⟩ (.int .i64 a)).setCell ⟨F, 1, none⟩ (.int .i64 b)) F a b := by
  have h1 : (W.setCell ⟨F, 0, none⟩ (.int .i64 a)).heap[F]? = some (.cells #[.int .i64 a, .int .i64 y] 31 (0, 0)) := by
    rw [heap_setCell_same _ _ _ _ _ _ h]; rfl
  show _ = _
  rw [heap_setCell_same _ _ _ _ _ _ h1]; rfl

set_option maxRecDepth 100000 in
set_option maxHeartbeats 2000000 in
theorem dataOf_full (q : Option Addr) (n cap : Nat) (w : World) (hn : 40 < n) (hl : n ≤ maxLen) :
    Calls Tryz.prog 13 #[.slice q n cap] w fun e w' => e = .returned (.tuple #[.string ⟨#[]⟩, .agg #[.int .i64 8, .int .i64 (-1)]]) ∧ Below w.heap.size w w' := by
  unfold maxLen at hl
  have hi : (40 : Int) < (n : Int) := by omega
  have hf0 := FC.new w
  have hbr := fun W => bare_of 8 W
  have hal : Below w.heap.size w (w.alloc (.cells #[.int .i64 0, .int .i64 0] 31)) := (Below.refl _ _).alloc (Nat.le_refl _) _
  go_enter Tryz.func13, Tryz.ntmps13
  go_wp2_with fail
  refine (hbr _).mono ?_
  rintro e w1 ⟨rfl, hb1⟩
  clear hbr
  have hf1 := hf0.below hb1
  have hB1 : Below w.heap.size w w1 := hal.trans (hb1.mono hal.size)
  have j0 := hf1.c0
  have j1 := hf1.c1
  have jz := hf1.fz
  clear hf0 hal hb1
  go_wp2
  refine bodyPost_ret (v := .tuple #[.string ⟨#[]⟩, .agg #[.int .i64 8, .int .i64 (-1)]]) (by simp [results, Tryz.results13, go_sem, j0, j1]) rfl ⟨rfl, ?_⟩
  exact (hB1.setCell (by simp) _).setCell (by simp) _

theorem lines_take (xs : List Rw) (n : Nat) (h : n < xs.length) : linesL (xs.take (n + 1)) = linesL (xs.take n) ++ (textL xs[n] ++ [10]) := by
  rw [← List.take_append_getElem h, lines_snoc]

set_option maxRecDepth 100000 in
set_option maxHeartbeats 4000000 in
theorem dataOf_any (q : Option Addr) (cap : Nat) (xs : List Rw) (w : World) (hx : RowsAt w (.slice q xs.length cap) xs) (hl : xs.length ≤ 40) (hp : ∀ x ∈ xs, x.1.size ≤ 30)
    (m : Nat) (hm : m ≤ xs.length) (hgood : ∀ i (h : i < xs.length), i < m → rowE xs[i] = 0) (hend : ∀ (h : m < xs.length), rowE xs[m] ≠ 0) :
    Calls Tryz.prog 13 #[.slice q xs.length cap] w fun e w' => (m = xs.length ∧ e = .returned (.tuple #[.string (bytesOf (fileOf (sortR xs))), .agg #[.int .i64 0, .int .i64 (-1)]]) ∧ Below w.heap.size w w') ∨
      (∃ h : m < xs.length, e = .returned (.tuple #[.string ⟨#[]⟩, .agg #[.int .i64 (rowE xs[m]), .int .i64 m]]) ∧ Below w.heap.size w w') := by
  have HALL : Hid (m = xs.length → ∀ x ∈ xs, rowE x = 0) := fun e x hxm => by
    obtain ⟨i, hi, e'⟩ := List.mem_iff_getElem.1 hxm
    rw [← e']
    exact hgood i hi (by omega)
  obtain ⟨L, hL⟩ : ∃ L, xs.length = L := ⟨_, rfl⟩
  have HX : Hid (xs.length = L) := hL
  have HGOOD : Hid (∀ i (h : i < xs.length), i < m → rowE xs[i] = 0) := hgood
  have HEND : Hid (∀ (h : m < xs.length), rowE xs[m] ≠ 0) := hend
  have hsl : (sortR xs).length = L := by rw [(sortR_perm xs).length_eq, hL]
  have hkl : (keysR xs).length = L := by simp [keysG, hL]
  have HKS : Hid (endsZ (keysR (sortR xs)) = endsZ (keysR xs)) := keys_perm (sortR_perm xs)
  have HP : Hid (∀ x ∈ xs, x.1.size ≤ 30) := hp
  have hso := fun W (hr : RowsAt W (.slice q xs.length cap) xs) => sortRows_at (.slice q xs.length cap) xs W hr (by omega)
  have hko := fun W (hr : RowsAt W (.slice q xs.length cap) xs) => keysOf_any (.slice q xs.length cap) xs W hr (by omega)
  rw [hL] at hx hl hm
  simp only [hL] at hso hko
  have harg : (Value.slice q xs.length cap) = .slice q L cap := by rw [hL]
  rw [harg]
  have hi40 : ¬ (40 : Int) < (L : Int) := by omega
  have hf0 := FC.new w
  have hal : Below w.heap.size w (w.alloc (.cells #[.int .i64 0, .int .i64 0] 31)) := (Below.refl _ _).alloc (Nat.le_refl _) _
  clear hL hgood hend harg hp
  go_enter Tryz.func13, Tryz.ntmps13
  go_wp2
  generalize w.alloc (.cells #[.int .i64 0, .int .i64 0] 31) = w1 at hf0 hal ⊢
  have hx1 : ∀ W, Below w1.heap.size w1 W → RowsAt W (.slice q L cap) xs := fun W hW => hx.below (hal.trans (hW.mono hal.size))
  clear hx
  go_loopw [4] (fun k wr => ∃ n : Nat, n ≤ m ∧ k = .int .i64 n ∧ Below w1.heap.size w1 wr) (fun k _ => L - (intOf k).toNat)
  case atStart => exact ⟨0, by omega, rfl, Below.refl _ _⟩
  case round =>
    obtain ⟨n, hn, rfl, hb⟩ := hrel
    by_cases hlt : n < L
    · have hltx : n < xs.length := by rw [HX.out]; exact hlt
      have hrows := hx1 wr hb
      rcases hrows with ⟨_, _, e, e'⟩ | ⟨b, o, cap2, e, hcells⟩
      · exfalso; have := HX.out; rw [e'] at this; simp at this; omega
      injection e with e1 e2 e3
      subst e1
      clear e2 e3
      obtain ⟨c1, c2, c3⟩ := hcells n hltx
      clear hcells
      have hi : (n : Int) < (L : Int) := by omega
      have hi0 : (0 : Int) ≤ (n : Int) := by omega
      have hrp := HP.out xs[n] (List.getElem_mem _)
      have hre := rowError_any xs[n] wr (by unfold maxLen; omega)
      by_cases hltm : n < m
      · rw [HGOOD.out n hltx hltm] at hre
        generalize xs[n] = x at c1 c2 c3 hre
        obtain ⟨xp, xk, xv⟩ := x
        dsimp only at c1 c2 c3 hre
        clear hso hko hx1
        go_wp2_with fail
        refine hre.mono ?_
        rintro e w2 ⟨rfl, hb2⟩
        clear hre
        have hb3 : Below w1.heap.size w1 w2 := hb.trans (hb2.mono hb.size)
        go_wp2
        go_roundw
        case rel => exact ⟨n + 1, by omega, by go_num, hb3⟩
        case measure => simp [intOf]; omega
      · have hnm : n = m := by omega
        subst hnm
        have hE := HEND.out hltx
        obtain ⟨E, hEE⟩ : ∃ E, rowE xs[n] = E := ⟨_, rfl⟩
        have HEE : Hid (rowE xs[n] = E) := hEE
        rw [hEE] at hre hE
        have hEp : (0 : Int) < (E : Int) := by omega
        clear hEE hE hrp
        generalize xs[n].1 = xp at c1 hre
        generalize xs[n].2.1 = xk at c2 hre
        generalize xs[n].2.2 = xv at c3 hre
        clear hso hko hx1
        have hf2 := hf0.below hb
        go_wp2_with fail
        refine hre.mono ?_
        rintro e w2 ⟨rfl, hb2⟩
        clear hre
        have hb3 : Below w1.heap.size w1 w2 := hb.trans (hb2.mono hb.size)
        have hB : Below w.heap.size w w2 := hal.trans (hb3.mono hal.size)
        have hf3 := hf2.below hb2
        have j0 := hf3.c0
        have j1 := hf3.c1
        have jz := hf3.fz
        clear hf0 hf2 c1 c2 c3
        go_wp2
        refine bodyPost_ret (v := .tuple #[.string ⟨#[]⟩, .agg #[.int .i64 E, .int .i64 n]]) (by simp [results, Tryz.results13, go_sem, j0, j1]) rfl (Or.inr ⟨hltx, by rw [HEE.out], ?_⟩)
        exact (hB.setCell (by simp) _).setCell (by simp) _
    · have hn' : n = L := by omega
      subst hn'
      have hmL : m = n := by omega
      have hall := HALL.out (by rw [HX.out]; exact hmL)
      have hso1 := hso wr (hx1 wr hb)
      clear hso
      go_wp2_with fail
      refine hso1.mono ?_
      rintro e w2 ⟨v2, rfl, hv2, hb2⟩
      clear hso1
      have hB2 : Below w1.heap.size w1 w2 := hb.trans (hb2.mono hb.size)
      obtain ⟨p2, c2, hv2f⟩ := hv2.form
      rw [hsl] at hv2f
      subst hv2f
      have hok := sort_ok hall
      have HOK : Hid (∀ x ∈ sortR xs, rowE x = 0) := hok
      have HLL : Hid (∀ k, (linesL ((sortR xs).take k)).length ≤ 33 * k) := fun k => by
        have h1 := lines_len ((sortR xs).take k) (fun x hxx => hok x (List.mem_of_mem_take hxx))
        rw [List.length_take] at h1
        omega
      have HPS : Hid (∀ x ∈ sortR xs, x.1.size ≤ 30) := fun x hxx => HP.out x ((sortR_perm xs).mem_iff.1 hxx)
      have hinE := ends_in hall
      have HFL : Hid (bytesOf (headL (⟨#[100, 97, 116, 97]⟩ : ByteArray).data.toList (keysR xs).length (endsZ (keysR xs)).1 (endsZ (keysR xs)).2 (sumL (linesL (sortR xs))) ++ 10 :: linesL (sortR xs)) = bytesOf (fileOf (sortR xs))) := by
        show _ = _
        have e : fileOf (sortR xs) = headL kData (sortR xs).length (endsZ (keysR (sortR xs))).1 (endsZ (keysR (sortR xs))).2 (sumL (linesL (sortR xs))) ++ 10 :: linesL (sortR xs) := rfl
        rw [e, HKS.out, hkl, hsl]
        rfl
      clear hb2 hok hall
      generalize hSS : sortR xs = S at hv2 hsl HOK HLL HPS HFL
      have HSS : Hid (sortR xs = S) := hSS
      clear hSS
      go_wp2
      go_loopw [7, 8] (fun bd k w3 => ∃ i : Nat, i ≤ n ∧ k = .int .i64 i ∧ Below w2.heap.size w2 w3 ∧ bd = .string (bytesOf (linesL (S.take i)))) (fun _ k _ => n - (intOf k).toNat)
      case atStart => exact ⟨0, by omega, rfl, Below.refl _ _, rfl⟩
      case round =>
        obtain ⟨i, hin, rfl, hb3, rfl⟩ := hrel
        by_cases hilt : i < n
        · have hix : i < S.length := by rw [hsl]; exact hilt
          have hrows := hv2.below hb3
          rcases hrows with ⟨_, _, e, e'⟩ | ⟨b, o, cap2, e, hcells⟩
          · exfalso; rw [e'] at hsl; simp at hsl; omega
          injection e with e1 e2 e3
          subst e1
          clear e2 e3
          obtain ⟨d1, d2, d3⟩ := hcells i hix
          clear hcells
          have hi : (i : Int) < (n : Int) := by omega
          have hi0 : (0 : Int) ≤ (i : Int) := by omega
          have hrp := HPS.out S[i] (List.getElem_mem _)
          have hr0 := HOK.out S[i] (List.getElem_mem _)
          have hrt := rowText_any S[i] wr (by unfold maxLen; omega)
          have htl : (textB S[i]).size ≤ 32 := by
            rw [← size_list, textB_ok _ hr0]; exact text_len _ hr0
          have hbl : (bytesOf (linesL (S.take i))).size ≤ 33 * i := by rw [bytesOf_size]; exact HLL.out i
          have HT : Hid (bytesOf (linesL (S.take i)) ++ textB S[i] ++ ⟨#[10]⟩ = bytesOf (linesL (S.take (i + 1)))) := by
            show _ = _
            apply part_ext
            rw [lines_take S i hix]
            simp [bytesOf, ByteArray.data_append, textB_ok _ hr0]
          generalize bytesOf (linesL (S.take i)) = B0 at hbl HT ⊢
          generalize S[i] = x at d1 d2 d3 hrt htl HT
          generalize textB x = tx at hrt htl HT
          obtain ⟨xp, xk, xv⟩ := x
          dsimp only at d1 d2 d3 hrt
          clear hix hrp hr0 hko hx1
          go_wp2_with fail
          refine hrt.mono ?_
          rintro e w4 ⟨rfl, hb4⟩
          clear hrt
          have hb5 : Below w2.heap.size w2 w4 := hb3.trans (hb4.mono hb3.size)
          go_wp2
          go_roundw
          case rel => exact ⟨i + 1, by omega, by go_num, hb5, by rw [HT.out]⟩
          case measure => simp [intOf]; omega
        · have hin' : i = n := by omega
          subst hin'
          have hta : S.take i = S := List.take_of_length_le (by rw [hsl]; exact Nat.le_refl _)
          have hll := HLL.out i
          rw [hta] at hll ⊢
          have hB3 : Below w1.heap.size w1 wr := hB2.trans (hb3.mono hB2.size)
          have hk3 := hko wr (hx1 wr hB3)
          have hwt := fun W (v : Value) (hz : KeysAt W v (keysR xs)) => wholeText_any ⟨#[100, 97, 116, 97]⟩ (by decide) v (keysR xs) (bytesOf (linesL S)) W hz (by omega) (by rw [bytesOf_size]; omega) (by have := hinE.1; simp only [inNum, Bool.and_eq_true, decide_eq_true_eq] at this; omega) (by have := hinE.2; simp only [inNum, Bool.and_eq_true, decide_eq_true_eq] at this; omega)
          have eBd : (bytesOf (linesL S)).data.toList = linesL S := by simp [bytesOf]
          simp only [eBd, HFL.out] at hwt
          generalize hTT : bytesOf (fileOf S) = T at hwt
          have HTT : Hid (bytesOf (fileOf S) = T) := hTT
          clear hTT
          generalize bytesOf (linesL S) = BD at hwt ⊢
          clear hko hx1 hta hll hinE eBd hv2
          go_wp2_with fail
          refine hk3.mono ?_
          rintro e w5 ⟨v5, rfl, hv5, hb5⟩
          clear hk3
          have hw5 := hwt w5 v5 hv5
          clear hwt
          go_wp2_with fail
          refine hw5.mono ?_
          rintro e w6 ⟨rfl, hb6⟩
          clear hw5
          have hfin := fine_of w6
          go_wp2_with fail
          refine hfin.mono ?_
          rintro e w7 ⟨rfl, hb7⟩
          clear hfin
          have hB5 : Below w1.heap.size w1 w5 := hB3.trans (hb5.mono hB3.size)
          have hB6 : Below w1.heap.size w1 w6 := hB5.trans (hb6.mono hB5.size)
          have hB7 : Below w1.heap.size w1 w7 := hB6.trans (hb7.mono hB6.size)
          have hB : Below w.heap.size w w7 := hal.trans (hB7.mono hal.size)
          have hf7 := hf0.below hB7
          have j0 := hf7.c0
          have j1 := hf7.c1
          have jz := hf7.fz
          clear hf0
          go_wp2
          refine bodyPost_ret (v := .tuple #[.string T, .agg #[.int .i64 0, .int .i64 (-1)]]) (by simp [results, Tryz.results13, go_sem, j0, j1]) rfl (Or.inl ⟨by rw [HX.out]; exact hmL, by rw [HSS.out, HTT.out], ?_⟩)
          exact (hB.setCell (by simp) _).setCell (by simp) _
end Go.Proofs.YtgffkkijfmoooabGreatDoor
namespace Go.Proofs.YtgffkkijfmoooabGreatDoor
open Go.RowKit Go.Extern.Stop Go.Stop Go.Extern Go.Sort Go.Shelf Go.Lib

/-- Cut so far: the pieces ts before f, no d from f to n. -/
def CutInvD (d : UInt8) (l : List UInt8) (f n : Nat) (ts : List ByteArray) : Prop :=
  f ≤ n ∧ ts.length ≤ f ∧ (∀ c ∈ (l.drop f).take (n - f), c ≠ d) ∧ ts.map (·.data.toList) ++ pieces d (l.drop f) = pieces d l

theorem cutd_zero (d : UInt8) (l : List UInt8) : CutInvD d l 0 0 [] := ⟨Nat.le_refl _, Nat.le_refl _, by simp, by simp⟩

theorem cutd_skip {d : UInt8} {l : List UInt8} {f n : Nat} {ts : List ByteArray} {c : UInt8} (h : CutInvD d l f n ts) (hc : l[n]? = some c) (hne : c ≠ d) : CutInvD d l f (n + 1) ts := by
  obtain ⟨h1, h2, h3, h4⟩ := h
  refine ⟨by omega, h2, fun g hd => ?_, h4⟩
  obtain ⟨k, hk⟩ := List.mem_iff_getElem?.1 hd
  rw [List.getElem?_take] at hk
  split at hk
  · rename_i hlt
    rw [List.getElem?_drop] at hk
    rcases Nat.lt_or_ge k (n - f) with h' | h'
    · refine h3 g (List.mem_iff_getElem?.2 ⟨k, ?_⟩)
      rw [List.getElem?_take, if_pos h', List.getElem?_drop, hk]
    · rw [show f + k = n by omega, hc] at hk
      rw [← Option.some.inj hk]; exact hne
  · cases hk

theorem cutd_hit {d : UInt8} {s : ByteArray} {f n : Nat} {ts : List ByteArray} (h : CutInvD d s.data.toList f n ts) (hc : s.data.toList[n]? = some d) : CutInvD d s.data.toList (n + 1) (n + 1) (ts ++ [s.extract f n]) := by
  obtain ⟨h1, h2, h3, h4⟩ := h
  refine ⟨Nat.le_refl _, by simp; omega, by simp, ?_⟩
  have hn : n < s.data.toList.length := by
    rcases Nat.lt_or_ge n s.data.toList.length with h | h
    · exact h
    · rw [List.getElem?_eq_none h] at hc; cases hc
  have hsp : s.data.toList.drop f = (s.data.toList.drop f).take (n - f) ++ d :: s.data.toList.drop (n + 1) := by
    have e1 := List.take_append_drop (n - f) (s.data.toList.drop f)
    rw [List.drop_drop, show f + (n - f) = n by omega, List.drop_eq_getElem_cons hn] at e1
    rw [List.getElem?_eq_getElem hn] at hc
    rw [Option.some.inj hc] at e1
    exact e1.symm
  rw [hsp, pieces_append d _ _ h3] at h4
  rw [← h4, List.map_append, List.append_assoc]
  congr 1
  simp only [List.map_cons, List.map_nil, List.cons_append, List.nil_append]
  rw [extract_data]

theorem cutd_end {d : UInt8} {s : ByteArray} {f : Nat} {ts : List ByteArray} (h : CutInvD d s.data.toList f s.size ts) : (ts ++ [s.extract f s.size]).map (·.data.toList) = pieces d s.data.toList := by
  obtain ⟨h1, h2, h3, h4⟩ := h
  rw [List.take_of_length_le (by rw [List.length_drop, size_list]; omega)] at h3
  rw [pieces_none d _ h3] at h4
  rw [← h4, List.map_append]
  simp only [List.map_cons, List.map_nil, extract_to_end]

set_option maxRecDepth 100000 in
set_option maxHeartbeats 2000000 in
theorem cutBy_any (d : UInt8) (s : ByteArray) (w : World) (hs : s.size < 4294967281) :
    Calls Tryz.prog 99 #[.string s, .int .u8 d.toNat] w fun e w' => ∃ v ts, e = .returned v ∧ TextsAt w' v ts ∧ ts.map (·.data.toList) = pieces d s.data.toList ∧ Below w.heap.size w w' := by
  obtain ⟨i0, hi0, hz0, hs0, hby0⟩ := Tryz.strInfo
  go_enter Tryz.func99, Tryz.ntmps99
  go_wp2
  go_loopw [5, 6, 7] (fun out from' k wr => ∃ (n f : Nat) (ts : List ByteArray), n ≤ s.size ∧ k = .int .i64 n ∧ from' = .int .i64 f ∧ Below w.heap.size w wr ∧ CutInvD d s.data.toList f n ts ∧ wr.ownsRow w.heap.size 9 1 out ts.length (ts.map Value.string)) (fun _ _ k _ => s.size - (intOf k).toNat)
  case atStart => exact ⟨0, 0, [], by omega, rfl, rfl, Below.refl _ _, cutd_zero _ _, by simp; exact World.ownsRow_nil _ _ _ _⟩
  case round =>
    obtain ⟨n, f, ts, hn, rfl, rfl, hb, hci, hown⟩ := hrel
    have OW : Hid (wr.ownsRow w.heap.size 9 1 u5 ts.length (ts.map Value.string)) := hown
    have CI : Hid (CutInvD d s.data.toList f n ts) := hci
    have hfn : f ≤ n := hci.1
    have htl : ts.length ≤ f := hci.2.1
    have TL : Hid (ts.length ≤ f) := htl
    clear hown hci htl
    by_cases hlt : n < s.size
    · have hi : (n : Int) < (s.size : Int) := by omega
      have hby := byte_list s n hlt
      by_cases hc : s[n].toNat = d.toNat
      · have hc' : (s[n].toNat : Int) = d.toNat := by omega
        have HC : Hid (s.data.toList[n]? = some d) := by
          rw [hby]
          exact congrArg some (UInt8.toNat_inj.1 hc)
        clear hby hc
        have hal : Below wr.heap.size wr (wr.alloc (.cells #[.string (s.extract f n)] 9)) := (Below.refl _ _).alloc (Nat.le_refl _) _
        have hbA : Below w.heap.size w (wr.alloc (.cells #[.string (s.extract f n)] 9)) := hb.alloc hb.size _
        go_wp2_with (at_builtin; refine wpList_append_own _ rfl _ _ 113 rfl w.heap.size 9 i0 (.string ⟨#[]⟩) 1 16 Tryz.underlying113 hi0 hz0 hs0 hby0 rfl (by decide) u5 ts.length (ts.map Value.string) rfl ?qc0 ⟨wr.heap.size, 0, none⟩ 1 1 [.string (s.extract f n)] rfl ?qc1 ?qc2 ?qc3 ?qc4 ?qc5 ?qc6 ?_)
        case qc0 => exact own_below OW.out hal
        case qc1 => rfl
        case qc2 => exact cell_one _ _ _
        case qc3 => intro u hu; simp at hu; subst hu; rfl
        case qc4 => have := TL.out; unfold maxLen; omega
        case qc5 => have := TL.out; omega
        case qc6 => first | exact hbA.size | (have := hb.size; omega)
        intro v' w4 hown4 hgrow hnil
        have hbC : Below w.heap.size w w4 := hbA.grown hgrow hbA.size (fun k hk => by
          rcases OW.out.2 with ⟨e, _⟩ | ⟨g', cap', cur, e, hg', _⟩
          · rw [e] at hk; simp [Value.ownBlock] at hk
          · rw [e] at hk; simp [Value.ownBlock] at hk; omega)
        have OW4 : Hid (w4.ownsRow w.heap.size 9 1 v' (ts.length + 1) (ts.map Value.string ++ [.string (s.extract f n)])) := hown4
        clear hown4 hnil hgrow
        go_wp2
        go_roundw
        case rel => exact ⟨n + 1, n + 1, ts ++ [s.extract f n], by omega, by go_num, by go_num, hbC, cutd_hit CI.out HC.out, by rw [List.length_append, List.map_append]; exact OW4.out⟩
        case measure => simp [intOf]; omega
      · have hc' : ¬ (s[n].toNat : Int) = d.toNat := by omega
        have CI' : Hid (CutInvD d s.data.toList f (n + 1) ts) := cutd_skip CI.out hby (fun e => hc (by rw [e]))
        clear hby hc
        go_wp2
        go_roundw
        case rel => exact ⟨n + 1, f, ts, by omega, by go_num, by go_num, hb, CI'.out, OW.out⟩
        case measure => simp [intOf]; omega
    · have hn' : n = s.size := by omega
      subst hn'
      have hal : Below wr.heap.size wr (wr.alloc (.cells #[.string (s.extract f s.size)] 9)) := (Below.refl _ _).alloc (Nat.le_refl _) _
      have hbA : Below w.heap.size w (wr.alloc (.cells #[.string (s.extract f s.size)] 9)) := hb.alloc hb.size _
      go_wp2_with (at_builtin; refine wpList_append_own _ rfl _ _ 113 rfl w.heap.size 9 i0 (.string ⟨#[]⟩) 1 16 Tryz.underlying113 hi0 hz0 hs0 hby0 rfl (by decide) u5 ts.length (ts.map Value.string) rfl ?qc0 ⟨wr.heap.size, 0, none⟩ 1 1 [.string (s.extract f s.size)] rfl ?qc1 ?qc2 ?qc3 ?qc4 ?qc5 ?qc6 ?_)
      case qc0 => exact own_below OW.out hal
      case qc1 => rfl
      case qc2 => exact cell_one _ _ _
      case qc3 => intro u hu; simp at hu; subst hu; rfl
      case qc4 => have := TL.out; unfold maxLen; omega
      case qc5 => have := TL.out; omega
      case qc6 => first | exact hbA.size | (have := hb.size; omega)
      intro v' w4 hown4 hgrow hnil
      have hbC : Below w.heap.size w w4 := hbA.grown hgrow hbA.size (fun k hk => by
        rcases OW.out.2 with ⟨e, _⟩ | ⟨g', cap', cur, e, hg', _⟩
        · rw [e] at hk; simp [Value.ownBlock] at hk
        · rw [e] at hk; simp [Value.ownBlock] at hk; omega)
      have OW4 : Hid (w4.ownsRow w.heap.size 9 1 v' (ts.length + 1) (ts.map Value.string ++ [.string (s.extract f s.size)])) := hown4
      clear hown4 hnil hgrow
      go_wp2
      go_ret
      exact ⟨v', ts ++ [s.extract f s.size], rfl, textsAt_of_own (base := w.heap.size) (by simp) (by rw [List.length_append, List.map_append]; exact OW4.out), cutd_end CI.out, hbC⟩

/-- What texts are: numbers, or one that is none. -/
def NumsPost (w : World) (e : Ending) (ts : List ByteArray) : Prop :=
  (∃ (zs : List Int) (v : Value), zs.length = ts.length ∧ (∀ (j : Nat) (t : ByteArray), ts[j]? = some t → numO t.data.toList = zs[j]?) ∧ e = .returned (.tuple #[v, .bool true]) ∧ KeysAt w v zs) ∨
  (∃ (j : Nat) (t : ByteArray), ts[j]? = some t ∧ numO t.data.toList = none ∧ e = .returned (.tuple #[.slice none 0 0, .bool false]))

set_option maxRecDepth 100000 in
set_option maxHeartbeats 2000000 in
theorem numbersOf_list (b o cap : Nat) (ts : List ByteArray) (w : World) (hc : ∀ j (h : j < ts.length), w.cell? ⟨b, o + j, none⟩ = some (.string ts[j])) (hs : ∀ t ∈ ts, t.size ≤ maxLen) (hl : ts.length ≤ 20000) :
    Calls Tryz.prog 100 #[.slice (some ⟨b, o, none⟩) ts.length cap] w fun e w' => NumsPost w' e ts ∧ Below w.heap.size w w' := by
  obtain ⟨i0, hi0, hz0, hs0, hby0⟩ := Tryz.numInfo
  have HC : Hid (∀ j (h : j < ts.length), w.cell? ⟨b, o + j, none⟩ = some (.string ts[j])) := hc
  have HS : Hid (∀ t ∈ ts, t.size ≤ maxLen) := hs
  obtain ⟨L, hL⟩ : ∃ L, ts.length = L := ⟨_, rfl⟩
  have HX : Hid (ts.length = L) := hL
  rw [hL] at hl ⊢
  clear hL hc hs
  go_enter Tryz.func100, Tryz.ntmps100
  go_wp2
  go_loopw [4, 5] (fun out k wr => ∃ (n : Nat) (zs : List Int), n ≤ L ∧ k = .int .i64 n ∧ Below w.heap.size w wr ∧ zs.length = n ∧ (∀ j t, j < n → ts[j]? = some t → numO t.data.toList = zs[j]?) ∧ wr.ownsRow w.heap.size 3 1 out n (zs.map encZ)) (fun _ k _ => L - (intOf k).toNat)
  case atStart => exact ⟨0, [], by omega, rfl, Below.refl _ _, rfl, fun j t h => absurd h (Nat.not_lt_zero _), by simp; exact World.ownsRow_nil _ _ _ _⟩
  case round =>
    obtain ⟨n, zs, hn, rfl, hb, hzl, hzs, hown⟩ := hrel
    have OW : Hid (wr.ownsRow w.heap.size 3 1 u4 n (zs.map encZ)) := hown
    have HZL : Hid (zs.length = n) := hzl
    have HZS : Hid (∀ j t, j < n → ts[j]? = some t → numO t.data.toList = zs[j]?) := hzs
    clear hown hzl hzs
    by_cases hlt : n < L
    · have hltx : n < ts.length := by rw [HX.out]; exact hlt
      have c1 := below_keep hb (HC.out n hltx)
      have HG : Hid (ts[n]? = some ts[n]) := List.getElem?_eq_getElem hltx
      have hnum := fun W => numberOf_any ts[n] W (HS.out _ (List.getElem_mem _))
      generalize ts[n] = t at c1 HG hnum
      unfold numR at hnum
      have hi : (n : Int) < (L : Int) := by omega
      have hi0' : (0 : Int) ≤ (n : Int) := by omega
      clear hltx
      cases hk : numO t.data.toList with
      | none =>
        rw [hk] at hnum
        dsimp only at hnum
        have HK : Hid (numO t.data.toList = none) := hk
        clear hk
        go_wp2_with (go_at_call 85; refine (hnum _).mono ?_; rintro e w1 ⟨rfl, hw⟩; rw [hw]; clear hw)
        go_ret2
        exact ⟨Or.inr ⟨n, t, HG.out, HK.out, rfl⟩, hb⟩
      | some x =>
        rw [hk] at hnum
        dsimp only at hnum
        have HK : Hid (numO t.data.toList = some x) := hk
        clear hk
        have hal : Below wr.heap.size wr (wr.alloc (.cells #[.int .i64 x] 3)) := (Below.refl _ _).alloc (Nat.le_refl _) _
        have hbA : Below w.heap.size w (wr.alloc (.cells #[.int .i64 x] 3)) := hb.alloc hb.size _
        go_wp2_with (first
          | (go_at_call 85; refine (hnum _).mono ?_; rintro e w1 ⟨rfl, hw⟩; rw [hw]; clear hw)
          | (at_builtin; refine wpList_append_own _ rfl _ _ 44 rfl w.heap.size 3 i0 (.int .i64 0) 1 8 Tryz.underlying44 hi0 hz0 hs0 hby0 rfl (by decide) u4 n (zs.map encZ) rfl ?qc0 ⟨wr.heap.size, 0, none⟩ 1 1 [.int .i64 x] rfl ?qc1 ?qc2 ?qc3 ?qc4 ?qc5 ?qc6 ?_))
        case qc0 => exact own_below OW.out hal
        case qc1 => rfl
        case qc2 => exact cell_one _ _ _
        case qc3 => intro u hu; simp at hu; subst hu; rfl
        case qc4 => unfold maxLen; omega
        case qc5 => omega
        case qc6 => first | exact hbA.size | (have := hb.size; omega)
        intro v' w4 hown4 hgrow hnil
        have hbC : Below w.heap.size w w4 := hbA.grown hgrow hbA.size (fun k hk => by
          rcases OW.out.2 with ⟨e, _⟩ | ⟨g', cap', cur, e, hg', _⟩
          · rw [e] at hk; simp [Value.ownBlock] at hk
          · rw [e] at hk; simp [Value.ownBlock] at hk; omega)
        have OW4 : Hid (w4.ownsRow w.heap.size 3 1 v' (n + 1) (zs.map encZ ++ [.int .i64 x])) := hown4
        clear hown4 hnil hgrow
        go_wp2
        go_roundw
        case rel =>
          refine ⟨n + 1, zs ++ [x], by omega, by go_num, hbC, by rw [List.length_append, HZL.out]; rfl, fun j t' hj ht' => ?_, by rw [List.map_append]; exact OW4.out⟩
          rcases Nat.lt_or_ge j n with h' | h'
          · rw [HZS.out j t' h' ht', List.getElem?_append_left (by rw [HZL.out]; exact h')]
          · obtain rfl : j = n := by omega
            rw [HG.out] at ht'
            rw [← Option.some.inj ht', HK.out, List.getElem?_append_right (by rw [HZL.out]; exact Nat.le_refl _), HZL.out, Nat.sub_self]
            rfl
        case measure => simp [intOf]; omega
    · obtain rfl : n = L := by omega
      have HKA : Hid (KeysAt wr u4 zs) := keysAt_of_own (base := w.heap.size) (by rw [HZL.out]; exact OW.out)
      go_wp2
      go_ret2
      exact ⟨Or.inl ⟨zs, u4, by rw [HZL.out, HX.out], fun j t ht => HZS.out j t (by
        rw [← HX.out]
        rcases Nat.lt_or_ge j ts.length with h | h
        · exact h
        · rw [List.getElem?_eq_none h] at ht; cases ht) ht, rfl, HKA.out⟩, hb⟩
end Go.Proofs.YtgffkkijfmoooabGreatDoor
namespace Go.Proofs.YtgffkkijfmoooabGreatDoor
open Go.RowKit Go.Extern.Stop Go.Stop Go.Extern Go.Sort Go.Shelf Go.Lib

/-- What splitText hands back. -/
def SplitT {β : Type} (k : FK β) (w : World) (s : List UInt8) (e : Ending) (w' : World) : Prop :=
  Below w.heap.size w w' ∧ ((∃ c : Nat, c ≠ 0 ∧ e = .returned (.tuple #[.slice none 0 0, .slice none 0 0, .agg #[.int .i64 c, .int .i64 (-1)]]) ∧ readG k s = ([], c, none)) ∨
    (∃ (n lo hi sum : Int) (b : List UInt8) (v tv : Value) (ts : List ByteArray), e = .returned (.tuple #[v, tv, .agg #[.int .i64 0, .int .i64 (-1)]]) ∧ KeysAt w' v [n, lo, hi, sum] ∧ TextsAt w' tv ts ∧ ts.map (·.data.toList) = pieces 10 b ∧ b.length ≤ 20000 ∧ readG k s = endG k n lo hi (rowsG k (pieces 10 b) 0 [])))

theorem sumOf_low (s : ByteArray) (w : World) (hs : s.size ≤ maxLen) : Calls Tryz.prog 16 #[.string s] w fun e w' => e = .returned (.int .i64 (sumL s.data.toList : Nat)) ∧ Below w.heap.size w w' :=
  (sumOf_any s w hs).mono fun e w' ⟨h1, h2⟩ => ⟨h1, by rw [h2]; exact Below.refl _ _⟩

theorem KeysAt.setLow {W : World} {v : Value} {zs : List Int} {F o : Nat} {x : Value} (h : KeysAt W v zs) (hF : ∀ b o' c n, v = .slice (some ⟨b, o', none⟩) n c → b ≠ F) : KeysAt (W.setCell ⟨F, o, none⟩ x) v zs := by
  rcases h with h | ⟨b, o', c, rfl, h⟩
  · exact .inl h
  · exact .inr ⟨b, o', c, rfl, fun j hj => by
      rw [World.cell?_setCell_other _ _ _ _ (by have := hF b o' c _ rfl; simp)]
      exact h j hj⟩

theorem TextsAt.setLow {W : World} {v : Value} {ts : List ByteArray} {F o : Nat} {x : Value} (h : TextsAt W v ts) (hF : ∀ b o' c n, v = .slice (some ⟨b, o', none⟩) n c → b ≠ F) : TextsAt (W.setCell ⟨F, o, none⟩ x) v ts := by
  obtain ⟨b, c, rfl, hc, h⟩ := h
  exact ⟨b, c, rfl, hc, fun j hj => by
    rw [World.cell?_setCell_other _ _ _ _ (by have := hF b 0 c _ rfl; simp)]
    exact h j hj⟩

theorem FC.ne_keys {W : World} {F : Nat} {x y : Int} {v : Value} {zs : List Int} (h : FC W F x y) (hk : KeysAt W v zs) (h4 : 4 ≤ zs.length) : ∀ b o' c n, v = .slice (some ⟨b, o', none⟩) n c → b ≠ F := by
  intro b o' c n hv e
  subst e
  rcases hk with ⟨_, _, e1, e2⟩ | ⟨b2, o2, c2, e1, h2⟩
  · rw [e2] at h4; simp at h4
  · rw [e1] at hv
    injection hv with e3
    injection e3 with e3
    injection e3 with e3 e4
    subst e3
    have := h2 3 (by omega)
    rw [cell_of_row _ _ _ _ _ _ h, Array.getElem?_eq_none (by simp)] at this
    cases this
theorem FC.ne_texts {W : World} {F : Nat} {x y : Int} {v : Value} {ts : List ByteArray} (h : FC W F x y) (ht : TextsAt W v ts) (hne : ts ≠ []) : ∀ b o' c n, v = .slice (some ⟨b, o', none⟩) n c → b ≠ F := by
  intro b o' c n hv e
  subst e
  obtain ⟨b2, c2, e1, _, h2⟩ := ht
  rw [e1] at hv
  injection hv with e3
  injection e3 with e3
  injection e3 with e3 e4
  subst e3
  have := h2 0 (List.length_pos_iff.2 hne)
  rw [cell_of_row _ _ _ _ _ _ h] at this
  simp at this

set_option maxRecDepth 100000 in
set_option maxHeartbeats 4000000 in
theorem splitText_any {β : Type} (k : FK β) (kw s : ByteArray) (hkw : kw.data.toList = k.word) (w : World) (hs : s.size ≤ maxLen) :
    Calls Tryz.prog 71 #[.string kw, .string s] w fun e w' => SplitT k w s.data.toList e w' := by
  unfold maxLen at hs
  have hszl := size_list s
  have hf0 := FC.new w
  have hal : Below w.heap.size w (w.alloc (.cells #[.int .i64 0, .int .i64 0] 31)) := (Below.refl _ _).alloc (Nat.le_refl _) _
  by_cases hbig : 20000 < s.size
  · have HD : Hid (readG k s.data.toList = ([], 2, none)) := by show _ = _; unfold readG; rw [if_pos (by omega)]
    have hb' : (20000 : Int) < (s.size : Int) := by omega
    go_enter Tryz.func71, Tryz.ntmps71
    have hbr := fun W => bare_of 2 W
    go_wp2_with fail
    refine (hbr _).mono ?_
    rintro e wz ⟨rfl, hbz⟩
    clear hbr
    have hfz := hf0.below hbz
    have hBz : Below w.heap.size w wz := hal.trans (hbz.mono hal.size)
    have j0 := hfz.c0
    have j1 := hfz.c1
    have jz := hfz.fz
    go_wp2
    refine bodyPost_ret (v := .tuple #[.slice none 0 0, .slice none 0 0, .agg #[.int .i64 2, .int .i64 (-1)]]) (by simp [results, Tryz.results71, go_sem, j0, j1]) rfl ⟨(hBz.setCell (by simp) _).setCell (by simp) _, Or.inl ⟨2, by decide, rfl, HD.out⟩⟩
  have hb' : ¬ (20000 : Int) < (s.size : Int) := by omega
  rcases cut_cases 10 s.data.toList with ⟨hno, hcut⟩ | ⟨a, b, hab, hna, hcut⟩
  · have HD : Hid (readG k s.data.toList = ([], 1, none)) := by
      show _ = _
      unfold readG
      rw [if_neg (by omega), hcut]
      rfl
    have HNO : Hid (∀ c ∈ s.data.toList, c ≠ 10) := hno
    clear hno hcut
    go_enter Tryz.func71, Tryz.ntmps71
    go_wp2
    go_loop [7] (fun k => ∃ n : Nat, n ≤ s.size ∧ k = .int .i64 n) (fun k => s.size - (intOf k).toNat)
    case atStart => exact ⟨0, Nat.zero_le _, rfl⟩
    case round =>
      obtain ⟨n, hn, rfl⟩ := hrel
      by_cases hlt : n < s.size
      · have hi : (n : Int) < (s.size : Int) := by omega
        have hi0 : (0 : Int) ≤ (n : Int) := by omega
        have hne : ¬ (s[n].toNat : Int) = 10 := fun e => HNO.out s[n] (List.mem_iff_getElem?.2 ⟨n, byte_list s n hlt⟩) (UInt8.toNat_inj.1 (by have e10 : (10 : UInt8).toNat = 10 := rfl; omega))
        go_wp2
        go_round
        case rel => exact ⟨n + 1, by omega, by go_num⟩
        case measure => simp [intOf]; omega
      · obtain rfl : n = s.size := by omega
        have hbr := fun W => bare_of 1 W
        go_wp2_with fail
        refine (hbr _).mono ?_
        rintro e wz ⟨rfl, hbz⟩
        clear hbr
        have hfz := hf0.below hbz
        have hBz : Below w.heap.size w wz := hal.trans (hbz.mono hal.size)
        have j0 := hfz.c0
        have j1 := hfz.c1
        have jz := hfz.fz
        go_wp2
        refine bodyPost_ret (v := .tuple #[.slice none 0 0, .slice none 0 0, .agg #[.int .i64 1, .int .i64 (-1)]]) (by simp [results, Tryz.results71, go_sem, j0, j1]) rfl ⟨(hBz.setCell (by simp) _).setCell (by simp) _, Or.inl ⟨1, by decide, rfl, HD.out⟩⟩
  have hlen : s.size = a.length + 1 + b.length := by rw [← hszl, hab]; simp; omega
  have hat : ∀ (h : a.length < s.size), s[a.length].toNat = 10 := fun h => by
    have h1 := byte_list s a.length h
    rw [hab, List.getElem?_append_right (Nat.le_refl _), Nat.sub_self] at h1
    have h2 : s[a.length] = 10 := (Option.some.inj h1).symm
    rw [h2]; rfl
  have HBE : Hid (∀ n (h : n < a.length) (h' : n < s.size), ¬ (s[n].toNat : Int) = 10) := fun n h h' e => by
    have h1 := byte_list s n h'
    rw [hab, List.getElem?_append_left h] at h1
    exact hna s[n] (List.mem_iff_getElem?.2 ⟨n, h1⟩) (UInt8.toNat_inj.1 (by have e10 : (10 : UInt8).toNat = 10 := rfl; omega))
  have hxa : (s.extract 0 a.length).data.toList = a := by
    rw [extract_data, hab]; simp
  have hxb : (s.extract (a.length + 1) s.size).data.toList = b := by
    rw [extract_to_end, hab, List.drop_append, List.drop_eq_nil_of_le (by omega)]
    simp
  have hDat : readG k s.data.toList = match headO k.word a with
      | none => ([], 1, none)
      | some (n, lo, hi, sum) => if sum ≠ sumL b then ([], 10, none) else endG k n lo hi (rowsG k (pieces 10 b) 0 []) := by
    unfold readG
    rw [if_neg (by omega), hcut]
    rfl
  have HDAT : Hid (readG k s.data.toList = match headO k.word a with
      | none => ([], 1, none)
      | some (n, lo, hi, sum) => if sum ≠ sumL b then ([], 10, none) else endG k n lo hi (rowsG k (pieces 10 b) 0 [])) := hDat
  have hcu := fun W => cutText_any (s.extract 0 a.length) W (by rw [← size_list, hxa]; omega)
  have hcb := fun W => cutBy_any 10 (s.extract (a.length + 1) s.size) W (by rw [← size_list, hxb]; omega)
  have hsu := fun W => sumOf_low (s.extract (a.length + 1) s.size) W (by rw [← size_list, hxb]; unfold maxLen; omega)
  rw [hxa] at hcu
  rw [hxb] at hcb hsu
  have e10 : ((10 : UInt8).toNat : Int) = 10 := rfl
  rw [e10] at hcb
  clear hDat hcut hab hna hxa hxb hszl e10
  obtain ⟨A, hA⟩ : ∃ A, a.length = A := ⟨_, rfl⟩
  have HA : Hid (a.length = A) := hA
  rw [hA] at hlen hat hcu hcb hsu HBE
  clear hA
  have hb20 : b.length ≤ 20000 := by omega
  have HB20 : Hid (b.length ≤ 20000) := hb20
  have hAs : A < s.size := by omega
  clear hb20 hlen
  go_enter Tryz.func71, Tryz.ntmps71
  go_wp2
  go_loop [7] (fun k => ∃ n : Nat, n ≤ A ∧ k = .int .i64 n) (fun k => s.size - (intOf k).toNat)
  case atStart => exact ⟨0, Nat.zero_le _, rfl⟩
  case round =>
    obtain ⟨n, hn, rfl⟩ := hrel
    have hlt : n < s.size := by omega
    have hi : (n : Int) < (s.size : Int) := by omega
    have hi0 : (0 : Int) ≤ (n : Int) := by omega
    by_cases hnA : n < A
    · have hne := HBE.out n hnA hlt
      clear hcu hcb hsu
      go_wp2
      go_round
      case rel => exact ⟨n + 1, by omega, by go_num⟩
      case measure => simp [intOf]; omega
    obtain rfl : n = A := by omega
    have heq : (s[n].toNat : Int) = 10 := by have := hat hlt; omega
    have hnl : ¬ (n : Int) = (s.size : Int) := by omega
    clear hat
    have hcu1 := hcu (w.alloc (.cells #[.int .i64 0, .int .i64 0] 31))
    clear hcu
    generalize w.alloc (.cells #[.int .i64 0, .int .i64 0] 31) = w1 at hf0 hal hcu1 ⊢
    go_wp2_with fail
    refine hcu1.mono ?_
    rintro e w2 ⟨v2, ts, rfl, hts, htm, hb2⟩
    clear hcu1
    have hB2 : Below w.heap.size w w2 := hal.trans (hb2.mono hal.size)
    have hf2 := hf0.below hb2
    clear hf0
    have hl5 : ts.length = (words a).length := by have := congrArg List.length htm; simpa using this
    obtain ⟨bt, capt, rfl, hcap, hcell⟩ := hts
    by_cases h5 : ts.length = 5
    case neg =>
      have HD : Hid (readG k s.data.toList = ([], 1, none)) := by
        show _ = _
        have hh : headO k.word a = none := by
          unfold headO
          split
          · rename_i e; rw [e] at hl5; exact absurd hl5 h5
          · rfl
        rw [HDAT.out, hh]
      have h5' : ¬ (ts.length : Int) = 5 := by omega
      clear hcell htm hl5 hcb hsu
      generalize ts.length = TL at h5 h5' hcap ⊢
      have hbr := fun W => bare_of 1 W
      go_wp2_with fail
      refine (hbr _).mono ?_
      rintro e wz ⟨rfl, hbz⟩
      clear hbr
      have hfz := hf2.below hbz
      have hBz : Below w.heap.size w wz := hB2.trans (hbz.mono hB2.size)
      have j0 := hfz.c0
      have j1 := hfz.c1
      have jz := hfz.fz
      go_wp2
      refine bodyPost_ret (v := .tuple #[.slice none 0 0, .slice none 0 0, .agg #[.int .i64 1, .int .i64 (-1)]]) (by simp [results, Tryz.results71, go_sem, j0, j1]) rfl ⟨(hBz.setCell (by simp) _).setCell (by simp) _, Or.inl ⟨1, by decide, rfl, HD.out⟩⟩
    obtain ⟨tk, ta, tb, tc, td, rfl⟩ : ∃ tk ta tb tc td, ts = [tk, ta, tb, tc, td] := by
      match ts, h5 with
      | [tk, ta, tb, tc, td], _ => exact ⟨tk, ta, tb, tc, td, rfl⟩
    have hc0 := hcell 0 (by simp)
    simp only [List.getElem_cons_zero] at hc0
    have hnl4 := numbersOf_list bt 1 (capt - 1) [ta, tb, tc, td] w2 (fun j hj => by
      have := hcell (1 + j) (by simp at hj ⊢; omega)
      rw [this]
      congr 1
      match j, hj with
      | 0, _ => rfl
      | 1, _ => rfl
      | 2, _ => rfl
      | 3, _ => rfl) (fun t ht => by
        have hwl := words_len a t.data.toList (by rw [← htm]; simp only [List.map_cons, List.map_nil, List.mem_cons, List.not_mem_nil, or_false] at ht ⊢; rcases ht with rfl | rfl | rfl | rfl <;> simp)
        rw [size_list] at hwl
        have := HA.out
        unfold maxLen
        omega) (by simp)
    simp only [List.length_cons, List.length_nil, Nat.zero_add, Nat.reduceAdd] at hnl4 hcap ⊢
    have hcap1 : 1 ≤ capt := by omega
    clear hcell h5 hl5
    simp only [List.map_cons, List.map_nil] at htm
    have HHD : Hid (headO k.word a = if tk.data.toList = k.word then (match numO ta.data.toList, numO tb.data.toList, numO tc.data.toList, numO td.data.toList with
      | some a, some b, some c, some d => some (a, b, c, d)
      | _, _, _, _ => none) else none) := by
      show _ = _
      unfold headO
      rw [← htm]
      rfl
    clear htm
    go_wp2_with fail
    refine hnl4.mono ?_
    rintro e w3 ⟨hnp, hb3⟩
    clear hnl4
    have hB3 : Below w.heap.size w w3 := hB2.trans (hb3.mono hB2.size)
    have hf3 := hf2.below hb3
    have hc3 := below_keep hb3 hc0
    clear hf2 hc0
    rcases hnp with ⟨zs, v3, hzl, hzs, rfl, hka⟩ | ⟨j, t, hj, hjn, rfl⟩
    case inr =>
      have HD : Hid (readG k s.data.toList = ([], 1, none)) := by
        show _ = _
        have hh : headO k.word a = none := by
          rw [HHD.out]
          split
          · match j, hj with
            | 0, hj => simp at hj; subst hj; rw [hjn]
            | 1, hj => simp at hj; subst hj; rw [hjn]; split <;> simp_all
            | 2, hj => simp at hj; subst hj; rw [hjn]; split <;> simp_all
            | 3, hj => simp at hj; subst hj; rw [hjn]; split <;> simp_all
            | j + 4, hj => simp at hj
          · rfl
        rw [HDAT.out, hh]
      clear hj hjn hcb hsu
      have hbr := fun W => bare_of 1 W
      go_wp2_with fail
      refine (hbr _).mono ?_
      rintro e wz ⟨rfl, hbz⟩
      clear hbr
      have hfz := hf3.below hbz
      have hBz : Below w.heap.size w wz := hB3.trans (hbz.mono hB3.size)
      have j0 := hfz.c0
      have j1 := hfz.c1
      have jz := hfz.fz
      go_wp2
      refine bodyPost_ret (v := .tuple #[.slice none 0 0, .slice none 0 0, .agg #[.int .i64 1, .int .i64 (-1)]]) (by simp [results, Tryz.results71, go_sem, j0, j1]) rfl ⟨(hBz.setCell (by simp) _).setCell (by simp) _, Or.inl ⟨1, by decide, rfl, HD.out⟩⟩
    obtain ⟨x, y, z, u, rfl⟩ : ∃ x y z u, zs = [x, y, z, u] := by
      simp only [List.length_cons, List.length_nil, Nat.zero_add, Nat.reduceAdd] at hzl
      match zs, hzl with
      | [x, y, z, u], _ => exact ⟨x, y, z, u, rfl⟩
    have g0 := hzs 0 ta rfl
    have g1 := hzs 1 tb rfl
    have g2 := hzs 2 tc rfl
    have g3 := hzs 3 td rfl
    simp only [List.getElem?_cons_zero, List.getElem?_cons_succ] at g0 g1 g2 g3
    rw [g0, g1, g2, g3] at HHD
    clear g0 g1 g2 g3 hzs hzl
    by_cases hk : tk.data.toList = k.word
    case neg =>
      have HD : Hid (readG k s.data.toList = ([], 1, none)) := by
        show _ = _
        rw [HDAT.out, HHD.out, if_neg hk]
      have hkb := neBB (s := tk) (t := kw) (by rw [hkw]; exact hk)
      clear hcb hsu hk HHD
      have hbr := fun W => bare_of 1 W
      go_wp2_with fail
      refine (hbr _).mono ?_
      rintro e wz ⟨rfl, hbz⟩
      clear hbr
      have hfz := hf3.below hbz
      have hBz : Below w.heap.size w wz := hB3.trans (hbz.mono hB3.size)
      have j0 := hfz.c0
      have j1 := hfz.c1
      have jz := hfz.fz
      go_wp2
      refine bodyPost_ret (v := .tuple #[.slice none 0 0, .slice none 0 0, .agg #[.int .i64 1, .int .i64 (-1)]]) (by simp [results, Tryz.results71, go_sem, j0, j1]) rfl ⟨(hBz.setCell (by simp) _).setCell (by simp) _, Or.inl ⟨1, by decide, rfl, HD.out⟩⟩
    have hkb := eqBB (s := tk) (t := kw) (by rw [hkw]; exact hk)
    rw [if_pos hk] at HHD
    obtain ⟨q3, c3, hv3⟩ := hka.form
    have hl4 : [x, y, z, u].length = 4 := rfl
    rw [hl4] at hv3
    subst hv3
    obtain ⟨gb, go, rfl, hg3⟩ : ∃ gb go, q3 = some ⟨gb, go, none⟩ ∧ w3.cell? ⟨gb, go + 3, none⟩ = some (.int .i64 u) := by
      rcases hka with ⟨_, _, e, e'⟩ | ⟨gb, go, cc, e, h⟩
      · cases e'
      · injection e with e1
        exact ⟨gb, go, e1, h 3 (by simp)⟩
    have HKA : Hid (KeysAt w3 (.slice (some ⟨gb, go, none⟩) 4 c3) [x, y, z, u]) := hka
    clear hka hl4 hk
    go_wp2_with fail
    have hmxo : Tryz.prog.follows .mixedOrders = true := by kernel_rfl
    have hsm := fun d os => Calls.regrown_of (w := w3) (d := d) (os := os) (hsu _)
    have f3 := cell_regrown hg3
    have hsub : (n : Int) + 1 ≤ (s.size : Int) := by omega
    have hsub0 : (0 : Int) ≤ (n : Int) + 1 := by omega
    clear hsu hg3
    refine wp_region_quiet_below hmxo (by kernel_rfl) ?_
    repeat (go_big_quiet_step (exact hsm _ _))
    refine wpQuiet_nil ?_
    intro _ hw'
    obtain ⟨⟨dq, osq⟩, hw''⟩ := hw'
    subst hw''
    clear hsm f3
    have hbW := below_regrown w3 dq osq
    generalize grow (redrawn w3 dq) osq = w4 at hbW ⊢
    have hB4 : Below w.heap.size w w4 := hB3.trans (hbW.mono hB3.size)
    have hf4 := hf3.below hbW
    have hka4 := HKA.out.below hbW
    by_cases hsum : u = (sumL b : Int)
    case neg =>
      have HD : Hid (readG k s.data.toList = ([], 10, none)) := by
        show _ = _
        rw [HDAT.out, HHD.out]
        dsimp only
        rw [if_pos hsum]
      clear hcb HHD hka4
      have hbr := fun W => bare_of 10 W
      go_wp2_with fail
      refine (hbr _).mono ?_
      rintro e wz ⟨rfl, hbz⟩
      clear hbr
      have hfz := hf4.below hbz
      have hBz : Below w.heap.size w wz := hB4.trans (hbz.mono hB4.size)
      have j0 := hfz.c0
      have j1 := hfz.c1
      have jz := hfz.fz
      go_wp2
      refine bodyPost_ret (v := .tuple #[.slice none 0 0, .slice none 0 0, .agg #[.int .i64 10, .int .i64 (-1)]]) (by simp [results, Tryz.results71, go_sem, j0, j1]) rfl ⟨(hBz.setCell (by simp) _).setCell (by simp) _, Or.inl ⟨10, by decide, rfl, HD.out⟩⟩
    have HD : Hid (readG k s.data.toList = endG k x y z (rowsG k (pieces 10 b) 0 [])) := by
      show _ = _
      rw [HDAT.out, HHD.out]
      dsimp only
      rw [if_neg (by omega)]
    have hcb4 := hcb w4
    clear hcb
    go_wp2_with fail
    refine hcb4.mono ?_
    rintro e w5 ⟨v5, ts5, rfl, hts5, htm5, hb5⟩
    clear hcb4
    have hfin := fine_of w5
    go_wp2_with fail
    refine hfin.mono ?_
    rintro e w6 ⟨rfl, hb6⟩
    clear hfin
    have hb56 : Below w4.heap.size w4 w6 := hb5.trans (hb6.mono hb5.size)
    have hB6 : Below w.heap.size w w6 := hB4.trans (hb56.mono hB4.size)
    have hf6 := hf4.below hb56
    have hka6 := hka4.below hb56
    have hts6 := hts5.below hb6
    have j0 := hf6.c0
    have j1 := hf6.c1
    have jz := hf6.fz
    have HFIN : Hid (SplitT k w s.data.toList (.returned (.tuple #[.slice (some ⟨gb, go, none⟩) 4 c3, v5, .agg #[.int .i64 0, .int .i64 (-1)]])) ((w6.setCell ⟨w.heap.size, 0, none⟩ (.int .i64 0)).setCell ⟨w.heap.size, 1, none⟩ (.int .i64 (-1)))) := by
      have n1 := hf6.ne_keys hka6 (by simp)
      have n2 := hf6.ne_texts hts6 (by intro e; rw [e] at htm5; exact pieces_ne 10 b htm5.symm)
      exact ⟨(hB6.setCell (by simp) _).setCell (by simp) _, Or.inr ⟨x, y, z, u, b, _, v5, ts5, rfl, (hka6.setLow n1).setLow n1, (hts6.setLow n2).setLow n2, htm5, HB20.out, HD.out⟩⟩
    clear hf4 hf6 hka4 hka6 hts5 hts6
    go_wp2
    exact bodyPost_ret (v := .tuple #[.slice (some ⟨gb, go, none⟩) 4 c3, v5, .agg #[.int .i64 0, .int .i64 (-1)]]) (by simp [results, Tryz.results71, go_sem, j0, j1]) rfl HFIN.out

/-- The number of a head's fault. -/
def headF (n lo hi : Int) (zs : List Int) : Nat := if 40 < zs.length then 8 else if n = zs.length ∧ lo = (endsZ zs).1 ∧ hi = (endsZ zs).2 then 0 else 3

set_option maxRecDepth 100000 in
set_option maxHeartbeats 4000000 in
theorem headFault_any (v kv : Value) (n lo hi sum : Int) (zs : List Int) (w : World) (hv : KeysAt w v [n, lo, hi, sum]) (hk : KeysAt w kv zs) (hl : zs.length ≤ 20000) :
    Calls Tryz.prog 74 #[v, kv] w fun e w' => e = .returned (.agg #[.int .i64 (headF n lo hi zs : Nat), .int .i64 (-1)]) ∧ Below w.heap.size w w' := by
  have hf0 := FC.new w
  have hal : Below w.heap.size w (w.alloc (.cells #[.int .i64 0, .int .i64 0] 31)) := (Below.refl _ _).alloc (Nat.le_refl _) _
  have hen := ends_any kv zs _ (hk.below hal) (by unfold maxLen; omega)
  obtain ⟨kq, kc, rfl⟩ := hk.form
  obtain ⟨gb, go, gc, rfl, g0, g1, g2⟩ : ∃ gb go gc, v = .slice (some ⟨gb, go, none⟩) 4 gc ∧ w.cell? ⟨gb, go, none⟩ = some (.int .i64 n) ∧ w.cell? ⟨gb, go + 1, none⟩ = some (.int .i64 lo) ∧ w.cell? ⟨gb, go + 2, none⟩ = some (.int .i64 hi) := by
    rcases hv with ⟨_, _, e, e'⟩ | ⟨gb, go, cc, e, h⟩
    · cases e'
    · exact ⟨gb, go, cc, e, h 0 (by simp), h 1 (by simp), h 2 (by simp)⟩
  have d0 := below_keep hal g0
  have d1 := below_keep hal g1
  have d2 := below_keep hal g2
  clear g0 g1 g2 hv hk
  have HH : Hid (headF n lo hi zs = if 40 < zs.length then 8 else if n = zs.length ∧ lo = (endsZ zs).1 ∧ hi = (endsZ zs).2 then 0 else 3) := rfl
  generalize headF n lo hi zs = H at HH ⊢
  generalize (endsZ zs).1 = zlo at hen HH
  generalize (endsZ zs).2 = zhi at hen HH
  generalize zs.length = L at hl hen HH ⊢
  by_cases h40 : 40 < L
  · have h40' : (40 : Int) < (L : Int) := by omega
    rw [if_pos h40] at HH
    clear hen
    go_enter Tryz.func74, Tryz.ntmps74
    have hbr := fun W => bare_of 8 W
    go_wp2_with fail
    refine (hbr _).mono ?_
    rintro e wz ⟨rfl, hbz⟩
    clear hbr
    have hfz := hf0.below hbz
    have hBz : Below w.heap.size w wz := hal.trans (hbz.mono hal.size)
    have j0 := hfz.c0
    have j1 := hfz.c1
    have jz := hfz.fz
    clear d0 d1 d2
    go_wp2
    refine bodyPost_ret (v := .agg #[.int .i64 8, .int .i64 (-1)]) (by simp [results, Tryz.results74, go_sem, j0, j1]) rfl ⟨by rw [HH.out]; rfl, (hBz.setCell (by simp) _).setCell (by simp) _⟩
  have h40' : ¬ (40 : Int) < (L : Int) := by omega
  rw [if_neg h40] at HH
  go_enter Tryz.func74, Tryz.ntmps74
  go_wp2_with fail
  generalize w.alloc (.cells #[.int .i64 0, .int .i64 0] 31) = w1 at hf0 hal hen d0 d1 d2 ⊢
  refine hen.mono ?_
  rintro e w2 ⟨rfl, rfl⟩
  clear hen
  by_cases h1 : n = (L : Int)
  case neg =>
    rw [if_neg (fun h => h1 h.1)] at HH
    have hbr := fun W => bare_of 3 W
    go_wp2_with fail
    refine (hbr _).mono ?_
    rintro e wz ⟨rfl, hbz⟩
    clear hbr
    have hfz := hf0.below hbz
    have hBz : Below w.heap.size w wz := hal.trans (hbz.mono hal.size)
    have j0 := hfz.c0
    have j1 := hfz.c1
    have jz := hfz.fz
    clear d0 d1 d2
    go_wp2
    refine bodyPost_ret (v := .agg #[.int .i64 3, .int .i64 (-1)]) (by simp [results, Tryz.results74, go_sem, j0, j1]) rfl ⟨by rw [HH.out]; rfl, (hBz.setCell (by simp) _).setCell (by simp) _⟩
  by_cases h2 : lo = zlo
  case neg =>
    rw [if_neg (fun h => h2 h.2.1)] at HH
    subst h1
    have hbr := fun W => bare_of 3 W
    go_wp2_with fail
    refine (hbr _).mono ?_
    rintro e wz ⟨rfl, hbz⟩
    clear hbr
    have hfz := hf0.below hbz
    have hBz : Below w.heap.size w wz := hal.trans (hbz.mono hal.size)
    have j0 := hfz.c0
    have j1 := hfz.c1
    have jz := hfz.fz
    clear d0 d1 d2
    go_wp2
    refine bodyPost_ret (v := .agg #[.int .i64 3, .int .i64 (-1)]) (by simp [results, Tryz.results74, go_sem, j0, j1]) rfl ⟨by rw [HH.out]; rfl, (hBz.setCell (by simp) _).setCell (by simp) _⟩
  by_cases h3 : hi = zhi
  case neg =>
    rw [if_neg (fun h => h3 h.2.2)] at HH
    subst h1 h2
    have hbr := fun W => bare_of 3 W
    go_wp2_with fail
    refine (hbr _).mono ?_
    rintro e wz ⟨rfl, hbz⟩
    clear hbr
    have hfz := hf0.below hbz
    have hBz : Below w.heap.size w wz := hal.trans (hbz.mono hal.size)
    have j0 := hfz.c0
    have j1 := hfz.c1
    have jz := hfz.fz
    clear d0 d1 d2
    go_wp2
    refine bodyPost_ret (v := .agg #[.int .i64 3, .int .i64 (-1)]) (by simp [results, Tryz.results74, go_sem, j0, j1]) rfl ⟨by rw [HH.out]; rfl, (hBz.setCell (by simp) _).setCell (by simp) _⟩
  rw [if_pos ⟨h1, h2, h3⟩] at HH
  subst h1 h2 h3
  have hbr := fun W => fine_of W
  go_wp2_with fail
  refine (hbr _).mono ?_
  rintro e wz ⟨rfl, hbz⟩
  clear hbr
  have hfz := hf0.below hbz
  have hBz : Below w.heap.size w wz := hal.trans (hbz.mono hal.size)
  have j0 := hfz.c0
  have j1 := hfz.c1
  have jz := hfz.fz
  clear d0 d1 d2
  go_wp2
  refine bodyPost_ret (v := .agg #[.int .i64 0, .int .i64 (-1)]) (by simp [results, Tryz.results74, go_sem, j0, j1]) rfl ⟨by rw [HH.out]; rfl, (hBz.setCell (by simp) _).setCell (by simp) _⟩
end Go.Proofs.YtgffkkijfmoooabGreatDoor
namespace Go.Proofs.YtgffkkijfmoooabGreatDoor
open Go.RowKit Go.Extern.Stop Go.Stop Go.Extern Go.Sort Go.Shelf Go.Lib

/-- What ReadData hands back. -/
def ReadPost (w : World) (D : List Rw × Nat × Option Nat) (e : Ending) (w' : World) : Prop :=
  Below w.heap.size w w' ∧ ((D.2.1 = 0 ∧ ∃ v, e = .returned (.tuple #[v, .agg #[.int .i64 0, .int .i64 (-1)]]) ∧ RowsAt w' v D.1) ∨
    (D.2.1 ≠ 0 ∧ ∃ j : Int, e = .returned (.tuple #[.slice none 0 0, .agg #[.int .i64 D.2.1, .int .i64 j]]) ∧ (D.2.2 = none → j = -1) ∧ ∀ k : Nat, D.2.2 = some k → j = k))

theorem own_slice {W : World} {base : Nat} {e : TypeId} {size : Nat} {v : Value} {n : Nat} {xs : List Value} (h : W.ownsRow base e size v n xs) : ∃ q c, v = .slice q n c := by
  rcases h.2 with ⟨rfl, rfl⟩ | ⟨g, cap, cur, rfl, _⟩
  · exact ⟨_, _, rfl⟩
  · exact ⟨_, _, rfl⟩

theorem pieces_len (d : UInt8) : ∀ (l : List UInt8), ∀ x ∈ pieces d l, x.length ≤ l.length
  | [], x, h => by simp [pieces] at h; simp [h]
  | c :: r, x, h => by
    have ih := pieces_len d r
    unfold pieces at h
    split at h
    · rw [List.mem_cons] at h
      rcases h with rfl | h
      · simp
      · have := ih x h; simp; omega
    · split at h
      · rw [List.mem_singleton] at h; subst h; simp
      · rename_i w ws e
        rw [e] at ih
        rw [List.mem_cons] at h
        rcases h with rfl | h
        · have := ih w List.mem_cons_self; simp; omega
        · have := ih x (List.mem_cons_of_mem _ h); simp; omega

theorem blk_other {W : World} {g b : Nat} {o : Nat} {v : Value} {x : Option Obj} (h : W.heap[g]? = x) (hne : g ≠ b) : (W.setCell ⟨b, o, none⟩ v).heap[g]? = x := by
  rw [heap_setCell_other _ _ _ _ hne]; exact h

theorem headF_end (n lo hi : Int) (acc : List Rw) : endO n lo hi (acc, 0, 0) = if headF n lo hi (keysR acc) = 0 then (acc, 0, none) else ([], headF n lo hi (keysR acc), none) := by
  have e : (keysR acc).length = acc.length := by simp [keysG]
  unfold endO endG headF
  rw [e]
  simp only [ne_eq, not_true_eq_false, if_false]
  split
  · simp
  · split <;> simp

set_option maxRecDepth 100000 in
set_option maxHeartbeats 8000000 in
theorem readData_any (s : ByteArray) (w : World) (hs : s.size ≤ maxLen) :
    Calls Tryz.prog 18 #[.string s] w fun e w' => ReadPost w (dataO s.data.toList) e w' := by
  obtain ⟨i0, hi0, hz0, hs0, hby0⟩ := Tryz.rowInfo
  have hf1 := FC.new w
  have hal : Below w.heap.size w (w.alloc (.cells #[.int .i64 0, .int .i64 0] 31)) := (Below.refl _ _).alloc (Nat.le_refl _) _
  have hst := splitText_any dataK ⟨#[100, 97, 116, 97]⟩ s rfl (w.alloc (.cells #[.int .i64 0, .int .i64 0] 31)) hs
  obtain ⟨D, hDD⟩ : ∃ D, dataO s.data.toList = D := ⟨_, rfl⟩
  have HD0 : Hid (dataO s.data.toList = D) := hDD
  rw [hDD]
  clear hDD hs
  go_enter Tryz.func18, Tryz.ntmps18
  go_wp2_with fail
  generalize w.alloc (.cells #[.int .i64 0, .int .i64 0] 31) = w1 at hf1 hal hst ⊢
  refine hst.mono ?_
  rintro e w2 ⟨hb2, hp⟩
  clear hst
  have hB2 : Below w.heap.size w w2 := hal.trans (hb2.mono hal.size)
  have hf2 := hf1.below hb2
  clear hf1 hal hb2
  rcases hp with ⟨c, hc0, rfl, hD⟩ | ⟨nn, nlo, nhi, sum, b, v, tv, ts, rfl, hka, hts, htm, hbl, hD⟩
  · have HD : Hid (D = ([], c, none)) := by show _ = _; rw [← HD0.out]; exact hD
    have hcp : (0 : Int) < (c : Int) := by omega
    have HC0 : Hid (c ≠ 0) := hc0
    have hal2 : Below w2.heap.size w2 (w2.alloc (.cells #[.int .i64 c, .int .i64 (-1)] 31)) := (Below.refl _ _).alloc (Nat.le_refl _) _
    have hg3 : FC (w2.alloc (.cells #[.int .i64 c, .int .i64 (-1)] 31)) w2.heap.size c (-1) := heap_alloc_new _ _
    have hf3 := hf2.below hal2
    have hB3 : Below w.heap.size w (w2.alloc (.cells #[.int .i64 c, .int .i64 (-1)] 31)) := hB2.trans (hal2.mono hB2.size)
    clear hD hc0 hal2 hf2
    go_wp2
    generalize w2.alloc (.cells #[.int .i64 c, .int .i64 (-1)] 31) = w3 at hg3 hf3 hB3 ⊢
    generalize w2.heap.size = F2 at hg3 ⊢
    have j0 := hf3.c0
    have j1 := hf3.c1
    have jz := hf3.fz
    have k0 := hg3.c0
    have k1 := hg3.c1
    have hBd := hB3.drew
    have hf3d : FC w3.drew w.heap.size 0 0 := hf3.below (Below.refl w3.heap.size w3).drew
    have hg3d : FC w3.drew F2 c (-1) := hg3.below (Below.refl w3.heap.size w3).drew
    have m0 := hf3d.c0
    have m1 := hf3d.c1
    have mz := hf3d.fz
    have n0 := hg3d.c0
    have n1 := hg3d.c1
    clear hf3d hg3d
    go_region
    all_goals go_wp2
    all_goals refine bodyPost_ret (v := .tuple #[.slice none 0 0, .agg #[.int .i64 c, .int .i64 (-1)]]) (by simp [results, Tryz.results18, go_sem, j0, j1]) rfl ⟨?_, Or.inr ⟨by rw [HD.out]; exact HC0.out, -1, by rw [HD.out], fun _ => rfl, by rw [HD.out]; intro k h; cases h⟩⟩
    all_goals first
      | exact (hB3.setCell (by simp) _).setCell (by simp) _
      | exact (hBd.setCell (by simp) _).setCell (by simp) _
      | exact ((hB3.setCell (by simp) _).setCell (by simp) _).drew
  obtain ⟨R, hR⟩ : ∃ R, rowsO (pieces 10 b) 0 [] = R := ⟨_, rfl⟩
  have HD : Hid (D = endO nn nlo nhi R) := by show _ = _; rw [← HD0.out]; exact hD.trans (congrArg (endG dataK nn nlo nhi) hR)
  have HTM : Hid (ts.map (·.data.toList) = pieces 10 b) := htm
  have hpl := pieces_count 10 b
  have hcl := List.count_le_length (a := (10 : UInt8)) (l := b)
  have htl : ts.length = (pieces 10 b).length := by have := congrArg List.length htm; simpa using this
  have hTL1 : 1 ≤ ts.length := by omega
  have HTL : Hid (ts.length ≤ 20001) := by show _ ≤ _; omega
  have HSZ : Hid (∀ t ∈ ts, t.size ≤ 20000) := fun t ht => by
    have h1 : t.data.toList ∈ pieces 10 b := by rw [← htm]; exact List.mem_map_of_mem ht
    have h2 := pieces_len 10 b _ h1
    rw [size_list] at h2
    omega
  have HR : Hid (rowsO (ts.map (·.data.toList)) 0 [] = R) := by show _ = _; rw [htm]; exact hR
  clear hR hD htm hpl hcl htl hbl HD0
  have hal2 : Below w2.heap.size w2 (w2.alloc (.cells #[.int .i64 0, .int .i64 (-1)] 31)) := (Below.refl _ _).alloc (Nat.le_refl _) _
  have hg3 : FC (w2.alloc (.cells #[.int .i64 0, .int .i64 (-1)] 31)) w2.heap.size 0 (-1) := heap_alloc_new _ _
  have hf3 := hf2.below hal2
  have hB3 : Below w.heap.size w (w2.alloc (.cells #[.int .i64 0, .int .i64 (-1)] 31)) := hB2.trans (hal2.mono hB2.size)
  have hka3 := hka.below hal2
  obtain ⟨tb, tcap, rfl, htcap, htc⟩ := hts.below hal2
  have hF12 := hf2.lt
  clear hal2 hf2 hka hts hB2
  obtain ⟨TL, hTLe⟩ : ∃ TL, ts.length = TL := ⟨_, rfl⟩
  have HX : Hid (ts.length = TL) := hTLe
  rw [hTLe] at hTL1 HTL ⊢
  obtain ⟨M, rfl⟩ : ∃ M, TL = M + 1 := ⟨TL - 1, by omega⟩
  have hMb : M ≤ 20000 := by have := HTL.out; omega
  have HTC : Hid (∀ j (h : j < ts.length), (w2.alloc (.cells #[.int .i64 0, .int .i64 (-1)] 31)).cell? ⟨tb, j, none⟩ = some (.string ts[j])) := htc
  clear hTLe htc htcap
  go_wp2
  generalize w2.alloc (.cells #[.int .i64 0, .int .i64 (-1)] 31) = w3 at hg3 hf3 hB3 hka3 HTC ⊢
  generalize w2.heap.size = F2 at hg3 hF12 ⊢
  have hF1 := hf3.lt
  have hF2 := hg3.lt
  go_loopw [7, 8] (fun out k wr => ∃ (n : Nat) (acc : List Rw), n < M + 1 ∧ k = .int .i64 n ∧ acc.length = n ∧ Below w3.heap.size w3 wr ∧ wr.ownsRow w3.heap.size 69 3 out n (flatR acc) ∧ rowsO ((ts.map (·.data.toList)).drop n) n acc = R) (fun _ k _ => M + 1 - (intOf k).toNat)
  case atStart => exact ⟨0, [], by omega, rfl, rfl, Below.refl _ _, by simp [flatR]; exact World.ownsRow_nil _ _ _ _, HR.out⟩
  case round =>
    obtain ⟨n, acc, hn, rfl, hacc, hb, hown, hrec⟩ := hrel
    have OW : Hid (wr.ownsRow w3.heap.size 69 3 u7 n (flatR acc)) := hown
    have HAL : Hid (acc.length = n) := hacc
    have hntx : n < ts.length := by rw [HX.out]; exact hn
    have hdr : (ts.map (·.data.toList)).drop n = ts[n].data.toList :: (ts.map (·.data.toList)).drop (n + 1) := by
      rw [List.drop_eq_getElem_cons (by rw [List.length_map]; exact hntx)]
      simp
    rw [hdr] at hrec
    have cl := below_keep hb (HTC.out n hntx)
    have hszl := HSZ.out ts[n] (List.getElem_mem _)
    have hi : (n : Int) < (M : Int) + 1 := by omega
    have hM5 : IntKind.i64.wrap (M : Int) = (M : Int) := IntWalk.i64_in _ (by have := HTL.out; omega)
    have hi0' : (0 : Int) ≤ (n : Int) := by omega
    have hBr : Below w.heap.size w wr := hB3.trans (hb.mono hB3.size)
    have hfr := hf3.below hb
    clear hown hacc hdr
    by_cases hlast : n = M
    · subst hlast
      have hnil : (ts.map (·.data.toList)).drop (n + 1) = [] := List.drop_eq_nil_of_le (by rw [List.length_map, HX.out]; exact Nat.le_refl _)
      rw [hnil, rowsO_one] at hrec
      clear hnil
      generalize ts[n] = t at cl hszl hrec
      by_cases hte : t.data.toList = []
      · have hbe : (t.toList == []) = true := eqB_of hte
        rw [if_pos hte] at hrec
        have HRE : Hid (D = if headF nn nlo nhi (keysR acc) = 0 then (acc, 0, none) else ([], headF nn nlo nhi (keysR acc), none)) := by
          show _ = _
          rw [HD.out, ← hrec, headF_end]
        clear hrec hte hszl
        have hra := (rowsAt_of_own OW.out).1
        obtain ⟨q7, c7, rfl⟩ := own_slice OW.out
        have hko := keysOf_any (.slice q7 n c7) acc wr hra (by have := HAL.out; have := HTL.out; omega)
        clear hra
        go_wp2_with fail
        refine hko.mono ?_
        rintro e w4 ⟨kv, rfl, hkv, hb4⟩
        clear hko
        have hb34 : Below w3.heap.size w3 w4 := hb.trans (hb4.mono hb.size)
        have hhf := headFault_any v kv nn nlo nhi sum (keysR acc) w4 (hka3.below hb34) hkv (by have := HAL.out; have := HTL.out; simp [keysG]; omega)
        generalize headF nn nlo nhi (keysR acc) = H at HRE hhf
        go_wp2_with fail
        refine hhf.mono ?_
        rintro e w5 ⟨rfl, hb5⟩
        clear hhf hkv
        have hb35 : Below w3.heap.size w3 w5 := hb34.trans (hb5.mono hb34.size)
        have hBw5 : Below w.heap.size w w5 := hB3.trans (hb35.mono hB3.size)
        have hg5 := hg3.below hb35
        have hf5 := hf3.below hb35
        have OW5 : w5.ownsRow w3.heap.size 69 3 (.slice q7 n c7) n (flatR acc) := own_below OW.out (hb4.trans (hb5.mono hb4.size))
        have hne12 : w.heap.size ≠ F2 := by omega
        have hg6 := hg5.set H (-1)
        have hf6 : FC ((w5.setCell ⟨F2, 0, none⟩ (.int .i64 H)).setCell ⟨F2, 1, none⟩ (.int .i64 (-1))) w.heap.size 0 0 := blk_other (blk_other hf5 hne12) hne12
        have hB6 : Below w.heap.size w ((w5.setCell ⟨F2, 0, none⟩ (.int .i64 H)).setCell ⟨F2, 1, none⟩ (.int .i64 (-1))) := (hBw5.setCell (by simp; omega) _).setCell (by simp; omega) _
        have OW6 : ((w5.setCell ⟨F2, 0, none⟩ (.int .i64 H)).setCell ⟨F2, 1, none⟩ (.int .i64 (-1))).ownsRow w3.heap.size 69 3 (.slice q7 n c7) n (flatR acc) := ownsRow_setCell_below (ownsRow_setCell_below OW5 (a := ⟨F2, 0, none⟩) hF2 _) (a := ⟨F2, 1, none⟩) hF2 _
        have k0 := hg5.c0
        have k1 := hg5.c1
        have kz := hg5.fz
        clear hfr hBr OW OW5 hb4 hb5 hb34 hb35 hf5 hg5 cl hBw5
        by_cases hH : H = 0
        · subst hH
          rw [if_pos rfl] at HRE
          have OW7 : Hid (((w5.setCell ⟨F2, 0, none⟩ (.int .i64 ((0 : Nat) : Int))).setCell ⟨F2, 1, none⟩ (.int .i64 (-1))).ownsRow w3.heap.size 69 3 (.slice q7 n c7) n (flatR acc)) := OW6
          clear OW6 hg6
          have hz0' : ((0 : Nat) : Int) = 0 := rfl
          rw [hz0'] at hf6 hB6 OW7 ⊢
          clear hz0'
          have hfin := fun W => fine_of W
          go_wp2_with fail
          generalize (w5.setCell ⟨F2, 0, none⟩ (.int .i64 0)).setCell ⟨F2, 1, none⟩ (.int .i64 (-1)) = W6 at hf6 hB6 OW7 ⊢
          refine (hfin _).mono ?_
          rintro e w7 ⟨rfl, hb7⟩
          clear hfin k0 k1 kz
          have hf7 := hf6.below hb7
          have hB7 : Below w.heap.size w w7 := hB6.trans (hb7.mono hB6.size)
          have j0 := hf7.c0
          have j1 := hf7.c1
          have jz := hf7.fz
          have OW8 := own_below OW7.out hb7
          have OW9 := ownsRow_setCell_below (ownsRow_setCell_below OW8 (a := ⟨w.heap.size, 0, none⟩) hF1 (.int .i64 0)) (a := ⟨w.heap.size, 1, none⟩) hF1 (.int .i64 (-1))
          have HRO : Hid (RowsAt ((w7.setCell ⟨w.heap.size, 0, none⟩ (.int .i64 0)).setCell ⟨w.heap.size, 1, none⟩ (.int .i64 (-1))) (.slice q7 n c7) acc) := (rowsAt_of_own OW9).1
          clear OW8 OW9 hf7
          go_wp2
          exact bodyPost_ret (v := .tuple #[.slice q7 n c7, .agg #[.int .i64 0, .int .i64 (-1)]]) (by simp [results, Tryz.results18, go_sem, j0, j1]) rfl ⟨(hB7.setCell (by simp) _).setCell (by simp) _, Or.inl ⟨by rw [HRE.out], _, rfl, by rw [HRE.out]; exact HRO.out⟩⟩
        · rw [if_neg hH] at HRE
          have hHp : (0 : Int) < (H : Int) := by omega
          have HH0 : Hid (H ≠ 0) := hH
          clear OW6 hH
          go_wp2
          generalize (w5.setCell ⟨F2, 0, none⟩ (.int .i64 H)).setCell ⟨F2, 1, none⟩ (.int .i64 (-1)) = W6 at hf6 hg6 hB6 ⊢
          have j0 := hf6.c0
          have j1 := hf6.c1
          have jz := hf6.fz
          have l0 := hg6.c0
          have l1 := hg6.c1
          have hBd := hB6.drew
          have hf3d : FC W6.drew w.heap.size 0 0 := hf6.below (Below.refl W6.heap.size W6).drew
          have hg3d : FC W6.drew F2 H (-1) := hg6.below (Below.refl W6.heap.size W6).drew
          have m0 := hf3d.c0
          have m1 := hf3d.c1
          have mz := hf3d.fz
          have n0 := hg3d.c0
          have n1 := hg3d.c1
          clear hf3d hg3d k0 k1 kz
          go_region
          all_goals go_wp2
          all_goals refine bodyPost_ret (v := .tuple #[.slice none 0 0, .agg #[.int .i64 H, .int .i64 (-1)]]) (by simp [results, Tryz.results18, go_sem, j0, j1]) rfl ⟨?_, Or.inr ⟨by rw [HRE.out]; exact HH0.out, -1, by rw [HRE.out], fun _ => rfl, by rw [HRE.out]; intro k h; cases h⟩⟩
          all_goals first
            | exact (hB6.setCell (by simp) _).setCell (by simp) _
            | exact (hBd.setCell (by simp) _).setCell (by simp) _
            | exact ((hB6.setCell (by simp) _).setCell (by simp) _).drew
      · have hbe : (t.toList == []) = false := neB_of hte
        rw [if_neg hte] at hrec
        have HRE : Hid (R = ([], 1, n)) := hrec.symm
        clear hrec hte hszl
        have hfz := hfr
        have hBz := hBr
        have j0 := hfz.c0
        have j1 := hfz.c1
        have jz := hfz.fz
        go_wp2
        refine bodyPost_ret (v := .tuple #[.slice none 0 0, .agg #[.int .i64 1, .int .i64 n]]) (by simp [results, Tryz.results18, go_sem, j0, j1]) rfl ⟨(hBz.setCell (by simp) _).setCell (by simp) _, Or.inr ⟨?_, n, ?_, ?_, ?_⟩⟩
        · rw [HD.out, HRE.out, endO, endG, if_pos (by simp)]; simp
        · rw [HD.out, HRE.out, endO, endG, if_pos (by simp)]; rfl
        · rw [HD.out, HRE.out, endO, endG, if_pos (by simp)]; intro h; cases h
        · rw [HD.out, HRE.out, endO, endG, if_pos (by simp)]; intro k h; injection h with h; rw [← h]
    · have hn1 : n < M := by omega
      obtain ⟨l2, r, hpb⟩ : ∃ l2 r, (ts.map (·.data.toList)).drop (n + 1) = l2 :: r := List.exists_cons_of_ne_nil (fun e => by
        have := congrArg List.length e
        rw [List.length_drop, List.length_map, HX.out, List.length_nil] at this
        omega)
      rw [hpb, rowsO_cons, ← hpb] at hrec
      have hnl : ¬ (n : Int) = (M : Int) := by omega
      have hrr := readRow_any ts[n] wr (by omega)
      clear hpb
      generalize ts[n].data.toList = tl at hrec hrr
      generalize ts[n] = t at cl hszl hrr
      by_cases hro : (readO tl).2 ≠ 0
      · rw [if_pos hro] at hrec
        obtain ⟨E, hEE⟩ : ∃ E, (readO tl).2 = E := ⟨_, rfl⟩
        rw [hEE] at hrr hrec hro
        have hEp : (0 : Int) < (E : Int) := by omega
        have HE0 : Hid (E ≠ 0) := hro
        have HRE : Hid (R = ([], E, n)) := hrec.symm
        generalize (readO tl).1 = x at hrr
        obtain ⟨xp, xk, xv⟩ := x
        simp only [rowV] at hrr
        clear hrec hEE hro
        go_wp2_with fail
        refine hrr.mono ?_
        rintro e w4 ⟨rfl, hb4⟩
        clear hrr
        have hal4 : Below w4.heap.size w4 (w4.alloc (.cells #[.string xp, .int .i64 xk, .int .i64 xv] 69)) := (Below.refl _ _).alloc (Nat.le_refl _) _
        have hb45 := hb4.trans (hal4.mono hb4.size)
        have hfz := hfr.below hb45
        have hBz : Below w.heap.size w (w4.alloc (.cells #[.string xp, .int .i64 xk, .int .i64 xv] 69)) := hBr.trans (hb45.mono hBr.size)
        have hF14 : w.heap.size < w4.heap.size := (hfr.below hb4).lt
        have hne4 : ¬ w.heap.size = w4.heap.size := by omega
        have hne4' : ¬ w4.heap.size = w.heap.size := by omega
        have hf4 := hfr.below hb4
        have a0 := hf4.c0
        have a1 := hf4.c1
        have az := hf4.fz
        have hf5 := (hf4.set E n).below ((Below.refl _ _).alloc (Nat.le_refl _) (.cells #[.string xp, .int .i64 xk, .int .i64 xv] 69))
        have j0 := hf5.c0
        have j1 := hf5.c1
        have hB4 : Below w.heap.size w w4 := hBr.trans (hb4.mono hBr.size)
        have hBE := (hB4.setCell (p := ⟨w.heap.size, 0, none⟩) (Nat.le_refl _) (.int .i64 E)).setCell (p := ⟨w.heap.size, 1, none⟩) (Nat.le_refl _) (.int .i64 n)
        have hBE2 := hBE.alloc hBE.size (.cells #[.string xp, .int .i64 xk, .int .i64 xv] 69)
        clear hf4 hf5 hb45 hal4 hb4 cl hszl hBE hfz hBz
        go_wp2
        refine bodyPost_ret (v := .tuple #[.slice none 0 0, .agg #[.int .i64 E, .int .i64 n]]) (by simp [results, Tryz.results18, go_sem, j0, j1]) rfl ⟨hBE2, Or.inr ⟨?_, n, ?_, ?_, ?_⟩⟩
        · rw [HD.out, HRE.out, endO, endG, if_pos (by simp [HE0.out])]; exact HE0.out
        · rw [HD.out, HRE.out, endO, endG, if_pos (by simp [HE0.out])]
        · rw [HD.out, HRE.out, endO, endG, if_pos (by simp [HE0.out])]; intro h; cases h
        · rw [HD.out, HRE.out, endO, endG, if_pos (by simp [HE0.out])]; intro k h; injection h with h; rw [← h]
      have hro0 : (readO tl).2 = 0 := by omega
      rw [if_neg hro] at hrec
      rw [hro0] at hrr
      obtain ⟨x, hxe⟩ : ∃ x, (readO tl).1 = x := ⟨_, rfl⟩
      rw [hxe] at hrr hrec
      clear hro hro0 hxe
      cases n with
      | zero =>
        have hae : acc = [] := List.length_eq_zero_iff.1 HAL.out
        rw [if_neg (by rw [hae]; simp)] at hrec
        obtain ⟨xp, xk, xv⟩ := x
        have HRN : Hid (rowsO ((ts.map (·.data.toList)).drop (0 + 1)) (0 + 1) (acc ++ [(xp, xk, xv)]) = R) := hrec
        simp only [rowV] at hrr
        clear hrec hae
        have e0 : ((0 : Nat) : Int) = 0 := rfl
        rw [e0] at hnl hi hi0' ⊢
        clear e0
        go_wp2_with fail
        refine hrr.mono ?_
        rintro e w4 ⟨rfl, hb4⟩
        clear hrr
        have hal4 : Below w4.heap.size w4 (w4.alloc (.cells #[.string xp, .int .i64 xk, .int .i64 xv] 69)) := (Below.refl _ _).alloc (Nat.le_refl _) _
        have hb45 := hb4.trans (hal4.mono hb4.size)
        have hbW : Below w3.heap.size w3 (w4.alloc (.cells #[.string xp, .int .i64 xk, .int .i64 xv] 69)) := hb.trans (hb45.mono hb.size)
        have OW' : Hid ((w4.alloc (.cells #[.string xp, .int .i64 xk, .int .i64 xv] 69)).ownsRow w3.heap.size 69 3 u7 0 (flatR acc)) := own_below OW.out hb45
        clear OW
        have OW := OW'
        have y0 : (w4.alloc (.cells #[.string xp, .int .i64 xk, .int .i64 xv] 69)).cell? ⟨w4.heap.size, 0, none⟩ = some (.string xp) := by simp
        have y1 : (w4.alloc (.cells #[.string xp, .int .i64 xk, .int .i64 xv] 69)).cell? ⟨w4.heap.size, 1, none⟩ = some (.int .i64 xk) := by simp
        have y2 : (w4.alloc (.cells #[.string xp, .int .i64 xk, .int .i64 xv] 69)).cell? ⟨w4.heap.size, 2, none⟩ = some (.int .i64 xv) := by simp
        clear OW' hb4 hal4 hb45 cl hszl y0 y1 y2
        have hal5 : Below (w4.alloc (.cells #[.string xp, .int .i64 xk, .int .i64 xv] 69)).heap.size (w4.alloc (.cells #[.string xp, .int .i64 xk, .int .i64 xv] 69)) ((w4.alloc (.cells #[.string xp, .int .i64 xk, .int .i64 xv] 69)).alloc (.cells #[.string xp, .int .i64 xk, .int .i64 xv] 69)) := (Below.refl _ _).alloc (Nat.le_refl _) _
        have hb5 : Below w3.heap.size w3 ((w4.alloc (.cells #[.string xp, .int .i64 xk, .int .i64 xv] 69)).alloc (.cells #[.string xp, .int .i64 xk, .int .i64 xv] 69)) := hbW.alloc hbW.size _
        go_wp2_with (at_builtin; refine wpList_append_own _ rfl _ _ 22 rfl w3.heap.size 69 i0 (.agg #[.string ⟨#[]⟩, .int .i64 0, .int .i64 0]) 3 32 Tryz.underlying22 hi0 hz0 hs0 hby0 rfl (by decide) _ 0 (flatR acc) rfl ?qd0 ⟨w4.heap.size + 1, 0, none⟩ 1 1 (encR (xp, xk, xv)) rfl ?qd1 ?qd2 ?qd3 ?qd4 ?qd5 ?qd6 ?_)
        case qd0 => exact own_below OW.out hal5
        case qd1 => rfl
        case qd2 =>
          intro j u hj
          rw [Addr.add_lit, Nat.zero_add]
          have := cells_three (w4.alloc (.cells #[.string xp, .int .i64 xk, .int .i64 xv] 69)) xp xk xv j u hj; simpa using this
        case qd3 => exact encR_one _
        case qd4 => have := HTL.out; unfold maxLen; omega
        case qd5 => have := HTL.out; omega
        case qd6 => first | exact hb5.size | (have := hbW.size; omega)
        intro v6 w6 hown6 hgrow6 hnil6
        have hb6 : Below w3.heap.size w3 w6 := hb5.grown hgrow6 hb5.size (fun k hk => by
          rcases OW.out.2 with ⟨e, _⟩ | ⟨g', cap', cur, e, hg', _⟩
          · rw [e] at hk; simp [Value.ownBlock] at hk
          · rw [e] at hk; simp [Value.ownBlock] at hk; omega)
        have OW6 : Hid (w6.ownsRow w3.heap.size 69 3 v6 (0 + 1) (flatR acc ++ encR (xp, xk, xv))) := hown6
        clear hown6 hnil6 hgrow6
        go_wp2
        go_roundw
        case rel => exact ⟨0 + 1, acc ++ [(xp, xk, xv)], by omega, by go_num, by rw [List.length_append, HAL.out]; rfl, hb6, by rw [flat_append, flat_single]; exact OW6.out, HRN.out⟩
        case measure => simp [intOf] <;> omega
      | succ k =>
        have hkk : k < acc.length := by rw [HAL.out]; omega
        have hacn : acc ≠ [] := fun e => by rw [e] at hkk; simp at hkk
        have hlastE := last_is acc k (bytesOf [], 0, 0) HAL.out hkk
        rw [hlastE] at hrec
        obtain ⟨g, cp, rfl⟩ := own_next OW.out
        obtain ⟨p0, p1, p2⟩ : wr.cell? ⟨g, k * 3, none⟩ = some (.string acc[k].1) ∧ wr.cell? ⟨g, k * 3 + 1, none⟩ = some (.int .i64 acc[k].2.1) ∧ wr.cell? ⟨g, k * 3 + 2, none⟩ = some (.int .i64 acc[k].2.2) := by
          rcases (own_cases OW.out).2 with ⟨e, _⟩ | ⟨g', cap', e, hc⟩
          · cases e
          · injection e with e1
            injection e1 with e1
            injection e1 with e1
            subst e1
            have := hc k hkk
            simpa only [Nat.zero_add] using this
        have hless := fun W => isLess_any x acc[k] W
        generalize acc[k] = y at p0 p1 p2 hless hrec
        obtain ⟨yp, yk, yv⟩ := y
        obtain ⟨xp, xk, xv⟩ := x
        dsimp only at p0 p1 p2 hless
        simp only [rowV] at hrr
        have hk1 : (0 : Int) < (k : Int) + 1 := by omega
        have hk3 : (k : Int) < (k : Int) + 1 := by omega
        have hk4 : (0 : Int) ≤ (k : Int) := by omega
        have hk5 : IntKind.i64.wrap (k : Int) = (k : Int) := IntWalk.i64_in _ (by have := HTL.out; omega)
        have hmxo : Tryz.prog.follows .mixedOrders = true := by kernel_rfl
        clear hlastE hkk
        go_wp2_with fail
        refine hrr.mono ?_
        rintro e w4 ⟨rfl, hb4⟩
        clear hrr
        have hal4 : Below w4.heap.size w4 (w4.alloc (.cells #[.string xp, .int .i64 xk, .int .i64 xv] 69)) := (Below.refl _ _).alloc (Nat.le_refl _) _
        have hb45 := hb4.trans (hal4.mono hb4.size)
        have hb3 : Below w3.heap.size w3 (w4.alloc (.cells #[.string xp, .int .i64 xk, .int .i64 xv] 69)) := hb.trans (hb45.mono hb.size)
        have OW4 : Hid ((w4.alloc (.cells #[.string xp, .int .i64 xk, .int .i64 xv] 69)).ownsRow w3.heap.size 69 3 (.slice (some ⟨g, 0, none⟩) (k + 1) cp) (k + 1) (flatR acc)) := own_below OW.out hb45
        have x0 : (w4.alloc (.cells #[.string xp, .int .i64 xk, .int .i64 xv] 69)).cell? ⟨w4.heap.size, 0, none⟩ = some (.string xp) := by simp
        have x1 : (w4.alloc (.cells #[.string xp, .int .i64 xk, .int .i64 xv] 69)).cell? ⟨w4.heap.size, 1, none⟩ = some (.int .i64 xk) := by simp
        have x2 : (w4.alloc (.cells #[.string xp, .int .i64 xk, .int .i64 xv] 69)).cell? ⟨w4.heap.size, 2, none⟩ = some (.int .i64 xv) := by simp
        have z0 := below_keep hb45 p0
        have z1 := below_keep hb45 p1
        have z2 := below_keep hb45 p2
        have hfr4 := hfr.below hb45
        have hF14 : w.heap.size < w4.heap.size := (hfr.below hb4).lt
        clear OW p0 p1 p2 hal4 hb4 cl hszl hfr
        go_wp2_with fail
        generalize w4.alloc (.cells #[.string xp, .int .i64 xk, .int .i64 xv] 69) = W2 at hb3 OW4 x0 x1 x2 z0 z1 z2 hfr4 hb45 ⊢
        generalize w4.heap.size = bx at x0 x1 x2 hF14 ⊢
        have hless2 := fun d os => Calls.regrown_of (w := W2) (d := d) (os := os) (hless _)
        have f0 := cell_regrown x0
        have f1 := cell_regrown x1
        have f2 := cell_regrown x2
        have f4 := cell_regrown z0
        have f5 := cell_regrown z1
        have f6 := cell_regrown z2
        obtain ⟨lb, hlb⟩ : ∃ lb, ltOf cfR (xp, xk, xv) (yp, yk, yv) = lb := ⟨_, rfl⟩
        rw [hlb] at hrec
        rw [hlb] at hless2
        clear hlb hless
        refine wp_region_quiet_below hmxo (by kernel_rfl) ?_
        repeat (go_big_quiet_step (exact hless2 _ _))
        refine wpQuiet_nil ?_
        intro _ hw'
        obtain ⟨⟨dq, osq⟩, hw''⟩ := hw'
        subst hw''
        clear hless2 f0 f1 f2 f4 f5 f6
        have hbq := below_regrown W2 dq osq
        have hbW : Below w3.heap.size w3 (grow (redrawn W2 dq) osq) := hb3.trans (hbq.mono hb3.size)
        have OW : Hid ((grow (redrawn W2 dq) osq).ownsRow w3.heap.size 69 3 (.slice (some ⟨g, 0, none⟩) (k + 1) cp) (k + 1) (flatR acc)) := own_below OW4.out hbq
        have y0 := below_keep hbq x0
        have y1 := below_keep hbq x1
        have y2 := below_keep hbq x2
        have hfz := hfr4.below hbq
        have hBz : Below w.heap.size w (grow (redrawn W2 dq) osq) := hB3.trans (hbW.mono hB3.size)
        clear hbq x0 x1 x2 z0 z1 z2 OW4 hfr4 hb45
        generalize grow (redrawn W2 dq) osq = W4 at hbW OW y0 y1 y2 hfz hBz ⊢
        cases lb with
        | true =>
          rw [if_pos ⟨hacn, rfl⟩] at hrec
          have HRE : Hid (R = ([], 9, k + 1)) := hrec.symm
          clear hrec
          have j0 := hfz.c0
          have j1 := hfz.c1
          have jz := hfz.fz
          go_wp2
          refine bodyPost_ret (v := .tuple #[.slice none 0 0, .agg #[.int .i64 9, .int .i64 ((k + 1 : Nat) : Int)]]) (by simp [results, Tryz.results18, go_sem, j0, j1]) rfl ⟨(hBz.setCell (by simp) _).setCell (by simp) _, Or.inr ⟨?_, ((k + 1 : Nat) : Int), ?_, ?_, ?_⟩⟩
          · rw [HD.out, HRE.out, endO, endG, if_pos (by simp)]; simp
          · rw [HD.out, HRE.out, endO, endG, if_pos (by simp)]; rfl
          · rw [HD.out, HRE.out, endO, endG, if_pos (by simp)]; intro h; cases h
          · rw [HD.out, HRE.out, endO, endG, if_pos (by simp)]; intro k h; injection h with h; rw [← h]
        | false =>
          rw [if_neg (fun e => by cases e.2)] at hrec
          have HRN : Hid (rowsO ((ts.map (·.data.toList)).drop (k + 1 + 1)) (k + 1 + 1) (acc ++ [(xp, xk, xv)]) = R) := hrec
          clear hrec
          have hal5 : Below W4.heap.size W4 (W4.alloc (.cells #[.string xp, .int .i64 xk, .int .i64 xv] 69)) := (Below.refl _ _).alloc (Nat.le_refl _) _
          have hb5 : Below w3.heap.size w3 (W4.alloc (.cells #[.string xp, .int .i64 xk, .int .i64 xv] 69)) := hbW.alloc hbW.size _
          go_wp2_with (at_builtin; refine wpList_append_own _ rfl _ _ 22 rfl w3.heap.size 69 i0 (.agg #[.string ⟨#[]⟩, .int .i64 0, .int .i64 0]) 3 32 Tryz.underlying22 hi0 hz0 hs0 hby0 rfl (by decide) _ (k + 1) (flatR acc) rfl ?qd0 ⟨W4.heap.size, 0, none⟩ 1 1 (encR (xp, xk, xv)) rfl ?qd1 ?qd2 ?qd3 ?qd4 ?qd5 ?qd6 ?_)
          case qd0 => exact own_below OW.out hal5
          case qd1 => rfl
          case qd2 =>
            intro j u hj
            rw [Addr.add_lit, Nat.zero_add]
            exact cells_three W4 xp xk xv j u hj
          case qd3 => exact encR_one _
          case qd4 => have := HTL.out; unfold maxLen; omega
          case qd5 => have := HTL.out; omega
          case qd6 => first | exact hb5.size | (have := hbW.size; omega)
          intro v6 w6 hown6 hgrow6 hnil6
          have hb6 : Below w3.heap.size w3 w6 := hb5.grown hgrow6 hb5.size (fun k hk => by
            rcases OW.out.2 with ⟨e, _⟩ | ⟨g', cap', cur, e, hg', _⟩
            · rw [e] at hk; simp [Value.ownBlock] at hk
            · rw [e] at hk; simp [Value.ownBlock] at hk; omega)
          have OW6 : Hid (w6.ownsRow w3.heap.size 69 3 v6 ((k + 1) + 1) (flatR acc ++ encR (xp, xk, xv))) := hown6
          clear hown6 hnil6 hgrow6
          go_wp2
          go_roundw
          case rel => exact ⟨(k + 1) + 1, acc ++ [(xp, xk, xv)], by omega, by go_num, by rw [List.length_append, HAL.out]; rfl, hb6, by rw [flat_append, flat_single]; exact OW6.out, HRN.out⟩
          case measure => simp [intOf] <;> omega
end Go.Proofs.YtgffkkijfmoooabGreatDoor
