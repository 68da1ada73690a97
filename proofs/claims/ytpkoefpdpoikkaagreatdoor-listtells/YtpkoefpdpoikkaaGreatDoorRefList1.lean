/-
  The contracts of the document's own IsBehind, FindOf, SameFiles, Without, PruneOf and ListText.
-/
import Derived.Test.YtpkoefpdpoikkaaGreatDoorRefFile
namespace Go.Proofs.YtpkoefpdpoikkaaGreatDoor
open Go.RowKit Go.Extern.Stop Go.Stop Go.Extern Go.Sort Go.Shelf Go.Lib

theorem cells6 (w : World) (f : Fl) : ∀ j u, (encF f)[j]? = some u → (w.alloc (.cells #[.string f.1, .string f.2.1, .int .i64 f.2.2.1, .int .i64 f.2.2.2.1, .int .i64 f.2.2.2.2.1, .int .i64 f.2.2.2.2.2] 23)).cell? ((⟨w.heap.size, 0, none⟩ : Addr).add j) = some u := by
  intro j u hu
  rw [Addr.add_lit, Nat.zero_add, cell_of_row _ _ _ _ _ _ (heap_alloc_new _ _)]
  rw [← hu]
  simp [encF]

set_option maxRecDepth 100000 in
set_option maxHeartbeats 2000000 in
theorem isBehind_any (p q : ByteArray) (w : World) (h1 : p.size ≤ 100000) (h2 : q.size ≤ 100000) :
    Calls Tryz.prog 100 #[.string p, .string q] w fun e w' => e = .returned (.bool (decide (pk q.data.toList < pk p.data.toList))) ∧ w' = w := by
  have ha := pathOf_any p w h1
  have hb := pathOf_any q w h2
  have hpp := @pk_some p.data.toList
  have hpq := @pk_some q.data.toList
  have key : ∀ s : List UInt8, (pathR s = ([], 0, 5) ∧ pk s = 0) ∨ (∃ n : Int, pathR s = (kData, n, 0) ∧ pk s = n ∧ 1 ≤ n ∧ n ≤ 1073741824) ∨ ∃ n : Int, pathR s = (kGone, n, 0) ∧ pk s = 1073741824 + n ∧ 1 ≤ n ∧ n ≤ 1073741824 := fun s => by
    cases hs : pathO s with
    | none => exact Or.inl ⟨pathR_none hs, by unfold pk; rw [hs]⟩
    | some gn =>
      obtain ⟨g, n⟩ := gn
      obtain ⟨e, b1, b2⟩ := pk_some hs
      cases g
      · exact Or.inr (Or.inl ⟨n, pathR_some hs, by simpa using e, b1, b2⟩)
      · exact Or.inr (Or.inr ⟨n, pathR_some hs, by simpa using e, b1, b2⟩)
  have ka := key p.data.toList
  have kb := key q.data.toList
  generalize pk p.data.toList = A at ka
  generalize pk q.data.toList = B at kb
  generalize pathR p.data.toList = RA at ha ka
  generalize pathR q.data.toList = RB at hb kb
  clear key hpp hpq h1 h2
  have eD : bytesOf kData = ⟨#[100, 97, 116, 97]⟩ := rfl
  have eG : bytesOf kGone = ⟨#[103, 111, 110, 101]⟩ := rfl
  have eE : bytesOf [] = ⟨#[]⟩ := rfl
  rcases ka with ⟨rfl, rfl⟩ | ⟨n, rfl, rfl, n1, n2⟩ | ⟨n, rfl, rfl, n1, n2⟩ <;> rcases kb with ⟨rfl, rfl⟩ | ⟨m, rfl, rfl, m1, m2⟩ | ⟨m, rfl, rfl, m1, m2⟩
  · dsimp only at ha hb
    rw [eE] at ha
    rw [eE] at hb
    go_enter Tryz.func100, Tryz.ntmps100
    go_wp2_with fail
    refine ha.mono ?_
    rintro e w1 ⟨rfl, hw1⟩
    rw [hw1]
    clear ha hw1
    go_wp2_with fail
    refine hb.mono ?_
    rintro e w2 ⟨rfl, hw2⟩
    rw [hw2]
    clear hb hw2
    go_wp2
    go_ret
    exact ⟨rfl, rfl⟩
  · dsimp only at ha hb
    rw [eE] at ha
    rw [eD] at hb
    have hd : decide ((B : Int) < 0) = false := decide_eq_false (by omega)
    rw [hd]
    clear hd
    have hg : ∀ W : World, (binOp .gtr 9 (.string ⟨#[]⟩) (.string ⟨#[100, 97, 116, 97]⟩)).run Tryz.prog W = .ok (.bool false) W := fun W => by first | rfl | kernel_rfl | simp [binOp, Op.stringOp]
    go_enter Tryz.func100, Tryz.ntmps100
    go_wp2_with fail
    refine ha.mono ?_
    rintro e w1 ⟨rfl, hw1⟩
    rw [hw1]
    clear ha hw1
    go_wp2_with fail
    refine hb.mono ?_
    rintro e w2 ⟨rfl, hw2⟩
    rw [hw2]
    clear hb hw2
    go_wp2
    go_ret
    exact ⟨rfl, rfl⟩
  · dsimp only at ha hb
    rw [eE] at ha
    rw [eG] at hb
    have hd : decide ((1073741824 + m : Int) < 0) = false := decide_eq_false (by omega)
    rw [hd]
    clear hd
    have hg : ∀ W : World, (binOp .gtr 9 (.string ⟨#[]⟩) (.string ⟨#[103, 111, 110, 101]⟩)).run Tryz.prog W = .ok (.bool false) W := fun W => by first | rfl | kernel_rfl | simp [binOp, Op.stringOp]
    go_enter Tryz.func100, Tryz.ntmps100
    go_wp2_with fail
    refine ha.mono ?_
    rintro e w1 ⟨rfl, hw1⟩
    rw [hw1]
    clear ha hw1
    go_wp2_with fail
    refine hb.mono ?_
    rintro e w2 ⟨rfl, hw2⟩
    rw [hw2]
    clear hb hw2
    go_wp2
    go_ret
    exact ⟨rfl, rfl⟩
  · dsimp only at ha hb
    rw [eD] at ha
    rw [eE] at hb
    have hd : decide ((0 : Int) < A) = true := decide_eq_true (by omega)
    rw [hd]
    clear hd
    have hg : ∀ W : World, (binOp .gtr 9 (.string ⟨#[100, 97, 116, 97]⟩) (.string ⟨#[]⟩)).run Tryz.prog W = .ok (.bool true) W := fun W => by first | rfl | kernel_rfl | simp [binOp, Op.stringOp]
    go_enter Tryz.func100, Tryz.ntmps100
    go_wp2_with fail
    refine ha.mono ?_
    rintro e w1 ⟨rfl, hw1⟩
    rw [hw1]
    clear ha hw1
    go_wp2_with fail
    refine hb.mono ?_
    rintro e w2 ⟨rfl, hw2⟩
    rw [hw2]
    clear hb hw2
    go_wp2
    go_ret
    exact ⟨rfl, rfl⟩
  · dsimp only at ha hb
    rw [eD] at ha
    rw [eD] at hb
    go_enter Tryz.func100, Tryz.ntmps100
    go_wp2_with fail
    refine ha.mono ?_
    rintro e w1 ⟨rfl, hw1⟩
    rw [hw1]
    clear ha hw1
    go_wp2_with fail
    refine hb.mono ?_
    rintro e w2 ⟨rfl, hw2⟩
    rw [hw2]
    clear hb hw2
    go_wp2
    go_ret
    exact ⟨rfl, rfl⟩
  · dsimp only at ha hb
    rw [eD] at ha
    rw [eG] at hb
    have hd : decide ((1073741824 + m : Int) < A) = false := decide_eq_false (by omega)
    rw [hd]
    clear hd
    have hg : ∀ W : World, (binOp .gtr 9 (.string ⟨#[100, 97, 116, 97]⟩) (.string ⟨#[103, 111, 110, 101]⟩)).run Tryz.prog W = .ok (.bool false) W := fun W => by first | rfl | kernel_rfl | simp [binOp, Op.stringOp]
    go_enter Tryz.func100, Tryz.ntmps100
    go_wp2_with fail
    refine ha.mono ?_
    rintro e w1 ⟨rfl, hw1⟩
    rw [hw1]
    clear ha hw1
    go_wp2_with fail
    refine hb.mono ?_
    rintro e w2 ⟨rfl, hw2⟩
    rw [hw2]
    clear hb hw2
    go_wp2
    go_ret
    exact ⟨rfl, rfl⟩
  · dsimp only at ha hb
    rw [eG] at ha
    rw [eE] at hb
    have hd : decide ((0 : Int) < 1073741824 + n) = true := decide_eq_true (by omega)
    rw [hd]
    clear hd
    have hg : ∀ W : World, (binOp .gtr 9 (.string ⟨#[103, 111, 110, 101]⟩) (.string ⟨#[]⟩)).run Tryz.prog W = .ok (.bool true) W := fun W => by first | rfl | kernel_rfl | simp [binOp, Op.stringOp]
    go_enter Tryz.func100, Tryz.ntmps100
    go_wp2_with fail
    refine ha.mono ?_
    rintro e w1 ⟨rfl, hw1⟩
    rw [hw1]
    clear ha hw1
    go_wp2_with fail
    refine hb.mono ?_
    rintro e w2 ⟨rfl, hw2⟩
    rw [hw2]
    clear hb hw2
    go_wp2
    go_ret
    exact ⟨rfl, rfl⟩
  · dsimp only at ha hb
    rw [eG] at ha
    rw [eD] at hb
    have hd : decide ((B : Int) < 1073741824 + n) = true := decide_eq_true (by omega)
    rw [hd]
    clear hd
    have hg : ∀ W : World, (binOp .gtr 9 (.string ⟨#[103, 111, 110, 101]⟩) (.string ⟨#[100, 97, 116, 97]⟩)).run Tryz.prog W = .ok (.bool true) W := fun W => by first | rfl | kernel_rfl | simp [binOp, Op.stringOp]
    go_enter Tryz.func100, Tryz.ntmps100
    go_wp2_with fail
    refine ha.mono ?_
    rintro e w1 ⟨rfl, hw1⟩
    rw [hw1]
    clear ha hw1
    go_wp2_with fail
    refine hb.mono ?_
    rintro e w2 ⟨rfl, hw2⟩
    rw [hw2]
    clear hb hw2
    go_wp2
    go_ret
    exact ⟨rfl, rfl⟩
  · dsimp only at ha hb
    rw [eG] at ha
    rw [eG] at hb
    go_enter Tryz.func100, Tryz.ntmps100
    go_wp2_with fail
    refine ha.mono ?_
    rintro e w1 ⟨rfl, hw1⟩
    rw [hw1]
    clear ha hw1
    go_wp2_with fail
    refine hb.mono ?_
    rintro e w2 ⟨rfl, hw2⟩
    rw [hw2]
    clear hb hw2
    go_wp2
    go_ret
    exact ⟨congrArg (fun b => Ending.returned (Value.bool b)) (by first | rfl | (simp <;> omega)), rfl⟩

def findF (fs : List Fl) (p : ByteArray) : Int := match fs.findIdx? (fun f => decide (f.1 = p)) with
  | some i => i
  | none => -1

theorem findF_at {fs : List Fl} {p : ByteArray} {n : Nat} (hn : n < fs.length) (h : ∀ j (h : j < fs.length), j < n → fs[j].1 ≠ p) (e : fs[n].1 = p) : findF fs p = n := by
  unfold findF
  have : fs.findIdx? (fun f => decide (f.1 = p)) = some n := by
    rw [List.findIdx?_eq_some_iff_getElem]
    exact ⟨hn, by simpa using e, fun j hj => by simpa using h j (by omega) hj⟩
  rw [this]
theorem findF_no {fs : List Fl} {p : ByteArray} (h : ∀ j (h : j < fs.length), fs[j].1 ≠ p) : findF fs p = -1 := by
  unfold findF
  have : fs.findIdx? (fun f => decide (f.1 = p)) = none := by
    rw [List.findIdx?_eq_none_iff]
    intro f hf
    obtain ⟨j, hj, rfl⟩ := List.mem_iff_getElem.1 hf
    simpa using h j hj
  rw [this]

theorem nopath_succ {fs : List Fl} {n : Nat} {p : ByteArray} (h : ∀ j (h : j < fs.length), j < n → fs[j].1 ≠ p) (hn : n < fs.length) (e : fs[n].1 ≠ p) : ∀ j (h : j < fs.length), j < n + 1 → fs[j].1 ≠ p := fun j hj hjn => by
  rcases Nat.lt_or_ge j n with h' | h'
  · exact h j hj h'
  · obtain rfl : j = n := by omega
    exact e

set_option maxRecDepth 100000 in
set_option maxHeartbeats 2000000 in
theorem findOf_any (v : Value) (fs : List Fl) (p : ByteArray) (w : World) (hx : FlsAt w v fs) (hl : fs.length ≤ 20000) :
    Calls Tryz.prog 42 #[v, .string p] w fun e w' => e = .returned (.int .i64 (findF fs p)) ∧ w' = w := by
  obtain ⟨q, cap, rfl⟩ := hx.form
  have HFX : Hid (FlsAt w (.slice q fs.length cap) fs) := hx
  obtain ⟨L, hL⟩ : ∃ L, fs.length = L := ⟨_, rfl⟩
  have HX : Hid (fs.length = L) := hL
  rw [hL] at hl ⊢
  generalize hR : findF fs p = R
  have HR : Hid (findF fs p = R) := hR
  clear hL hx hR
  go_enter Tryz.func42, Tryz.ntmps42
  go_wp2
  go_loop [5] (fun k => ∃ n : Nat, n ≤ L ∧ k = .int .i64 n ∧ ∀ j (h : j < fs.length), j < n → fs[j].1 ≠ p) (fun k => L - (intOf k).toNat)
  case atStart => exact ⟨0, by omega, rfl, fun j h h' => absurd h' (Nat.not_lt_zero _)⟩
  case round =>
    obtain ⟨n, hn, rfl, hno⟩ := hrel
    have HNO : Hid (∀ j (h : j < fs.length), j < n → fs[j].1 ≠ p) := hno
    clear hno
    by_cases hlt : n < L
    · have hltx : n < fs.length := by rw [HX.out]; exact hlt
      obtain ⟨b, o, hq, hc⟩ := HFX.out.cells (fun e => by rw [e] at hltx; simp at hltx)
      subst hq
      have c0 := (hc n hltx).1
      have hi : (n : Int) < (L : Int) := by omega
      have hi0' : (0 : Int) ≤ (n : Int) := by omega
      by_cases he : fs[n].1 = p
      · have hRR : R = n := by rw [← HR.out]; exact findF_at hltx HNO.out he
        subst hRR
        rw [he] at c0
        have d1 : (p.toList == p.toList) = true := by simp
        clear hc he hltx
        go_wp2
        go_ret
        exact ⟨rfl, rfl⟩
      · have HN1 : Hid (∀ j (h : j < fs.length), j < n + 1 → fs[j].1 ≠ p) := nopath_succ HNO.out hltx he
        have d1 : (fs[n].1.toList == p.toList) = false := neBB (fun e => he (part_ext e))
        generalize fs[n].1 = fp at c0 d1
        clear hc he hltx
        go_wp2
        go_round
        case rel => exact ⟨n + 1, by omega, by go_num, HN1.out⟩
        case measure => simp [intOf]; omega
    · obtain rfl : n = L := by omega
      have hRR : R = -1 := by rw [← HR.out]; exact findF_no (fun j hj => HNO.out j hj (by rw [← HX.out]; exact hj))
      subst hRR
      go_wp2
      go_ret
      exact ⟨rfl, rfl⟩

def kept (P : Fl → Bool) (fs : List Fl) (n : Nat) : List Fl := (fs.take n).filter P
theorem kept_zero (P : Fl → Bool) (fs : List Fl) : kept P fs 0 = [] := by simp [kept]
theorem kept_len (P : Fl → Bool) (fs : List Fl) (n : Nat) : (kept P fs n).length ≤ n := by
  have := List.length_filter_le P (fs.take n)
  rw [List.length_take] at this
  unfold kept
  omega
theorem kept_succ (P : Fl → Bool) (fs : List Fl) (n : Nat) (h : n < fs.length) : kept P fs (n + 1) = if P fs[n] = true then kept P fs n ++ [fs[n]] else kept P fs n := by
  unfold kept
  rw [← List.take_append_getElem h, List.filter_append]
  split
  · rename_i hp; rw [List.filter_cons_of_pos hp]; rfl
  · rename_i hp; rw [List.filter_cons_of_neg hp]; simp
theorem kept_all (P : Fl → Bool) (fs : List Fl) : kept P fs fs.length = fs.filter P := by unfold kept; rw [List.take_length]

def offP (p : ByteArray) (f : Fl) : Bool := decide (f.1 ≠ p)
def inP (lo hi : Int) (f : Fl) : Bool := decide ((if f.2.2.2.1 < lo then lo else f.2.2.2.1) ≤ (if hi < f.2.2.2.2.1 then hi else f.2.2.2.2.1))

set_option maxRecDepth 100000 in
set_option maxHeartbeats 4000000 in
theorem without_any (v : Value) (fs : List Fl) (p : ByteArray) (w : World) (hx : FlsAt w v fs) (hl : fs.length ≤ 20000) :
    Calls Tryz.prog 103 #[v, .string p] w fun e w' => ∃ v', e = .returned v' ∧ FlsAt w' v' (fs.filter (offP p)) ∧ Below w.heap.size w w' := by
  obtain ⟨i0, hi0, hz0, hs0, hby0⟩ := Tryz.fileInfo
  obtain ⟨q, cap, rfl⟩ := hx.form
  have HFX : Hid (FlsAt w (.slice q fs.length cap) fs) := hx
  obtain ⟨L, hL⟩ : ∃ L, fs.length = L := ⟨_, rfl⟩
  have HX : Hid (fs.length = L) := hL
  rw [hL] at hl ⊢
  clear hL hx
  go_enter Tryz.func103, Tryz.ntmps103
  go_wp2
  go_loopw [5, 6] (fun out k wr => ∃ n : Nat, n ≤ L ∧ k = .int .i64 n ∧ Below w.heap.size w wr ∧ wr.ownsRow w.heap.size 23 6 out (kept (offP p) fs n).length (flatF (kept (offP p) fs n))) (fun _ k _ => L - (intOf k).toNat)
  case atStart => exact ⟨0, by omega, rfl, Below.refl _ _, by rw [kept_zero]; exact World.ownsRow_nil _ _ _ _⟩
  case round =>
    obtain ⟨n, hn, rfl, hb, hown⟩ := hrel
    have OW : Hid (wr.ownsRow w.heap.size 23 6 u5 (kept (offP p) fs n).length (flatF (kept (offP p) fs n))) := hown
    clear hown
    by_cases hlt : n < L
    · have hltx : n < fs.length := by rw [HX.out]; exact hlt
      obtain ⟨b, o, hq, hc⟩ := (HFX.out.below hb).cells (fun e => by rw [e] at hltx; simp at hltx)
      subst hq
      obtain ⟨c0, c1, c2, c3, c4, c5⟩ := hc n hltx
      have HKL : Hid ((kept (offP p) fs n).length ≤ L) := by
        show _ ≤ _
        have := kept_len (offP p) fs n
        omega
      have hke : (kept (offP p) fs (n + 1)) = if (offP p) fs[n] = true then (kept (offP p) fs n) ++ [fs[n]] else (kept (offP p) fs n) := kept_succ (offP p) fs n hltx
      generalize fs[n] = f at c0 c1 c2 c3 c4 c5 hke
      obtain ⟨fp, fq, fn, flo, fhi, fseq⟩ := f
      dsimp only at c0 c1 c2 c3 c4 c5
      have hiL : (n : Int) < (L : Int) := by omega
      have hi0' : (0 : Int) ≤ (n : Int) := by omega
      have hal : Below wr.heap.size wr (wr.alloc (.cells #[.string fp, .string fq, .int .i64 fn, .int .i64 flo, .int .i64 fhi, .int .i64 fseq] 23)) := (Below.refl _ _).alloc (Nat.le_refl _) _
      have hbA : Below w.heap.size w (wr.alloc (.cells #[.string fp, .string fq, .int .i64 fn, .int .i64 flo, .int .i64 fhi, .int .i64 fseq] 23)) := hb.alloc hb.size _
      clear hc hltx
      by_cases he : fp = p
      · have d1 : (fp.toList == p.toList) = true := eqBB (by rw [he])
        have HKE : Hid ((kept (offP p) fs (n + 1)) = (kept (offP p) fs n)) := by
          show _ = _
          rw [hke, if_neg (by simp [offP, he])]
        clear hke hal hbA
        go_wp2
        go_roundw
        case rel => exact ⟨n + 1, by omega, by go_num, hb, by rw [HKE.out]; exact OW.out⟩
        case measure => simp [intOf]; omega
      · have d1 : (fp.toList == p.toList) = false := neBB (fun e => he (part_ext e))
        have HKE : Hid ((kept (offP p) fs (n + 1)) = (kept (offP p) fs n) ++ [(fp, fq, fn, flo, fhi, fseq)]) := by
          show _ = _
          rw [hke, if_pos (by simp [offP, he])]
        clear hke
        go_wp2_with (at_builtin; refine wpList_append_own _ rfl _ _ 50 rfl w.heap.size 23 i0 (.agg #[.string ⟨#[]⟩, .string ⟨#[]⟩, .int .i64 0, .int .i64 0, .int .i64 0, .int .i64 0]) 6 64 Tryz.underlying50 hi0 hz0 hs0 hby0 rfl (by decide) u5 (kept (offP p) fs n).length (flatF (kept (offP p) fs n)) rfl ?qc0 ⟨wr.heap.size, 0, none⟩ 1 1 (encF (fp, fq, fn, flo, fhi, fseq)) rfl ?qc1 ?qc2 ?qc3 ?qc4 ?qc5 ?qc6 ?_)
        case qc0 => exact own_below OW.out hal
        case qc1 => rfl
        case qc2 => first | exact cells6 _ _ | exact fun j u hu => hu
        case qc3 => exact encF_one _
        case qc4 => have := HKL.out; unfold maxLen; omega
        case qc5 => have := HKL.out; omega
        case qc6 => first | exact hbA.size | (have := hb.size; omega)
        intro v' w4 hown4 hgrow hnil
        have hbC : Below w.heap.size w w4 := hbA.grown hgrow hbA.size (fun k hk => by
          rcases OW.out.2 with ⟨e, _⟩ | ⟨g', cap', cur, e, hg', _⟩
          · rw [e] at hk; simp [Value.ownBlock] at hk
          · rw [e] at hk; simp [Value.ownBlock] at hk; omega)
        have OW4 : Hid (w4.ownsRow w.heap.size 23 6 v' ((kept (offP p) fs n).length + 1) (flatF (kept (offP p) fs n) ++ encF (fp, fq, fn, flo, fhi, fseq))) := hown4
        clear hown4 hnil hgrow
        go_wp2
        go_roundw
        case rel => exact ⟨n + 1, by omega, by go_num, hbC, by rw [HKE.out, List.length_append, flatF_append]; simpa [flatF] using OW4.out⟩
        case measure => simp [intOf]; omega
    · obtain rfl : n = L := by omega
      have HKA : Hid (FlsAt wr u5 (fs.filter (offP p))) := by
        have h' := (flsAt_of_own OW.out).1
        rw [← HX.out, kept_all] at h'
        exact h'
      go_wp2
      go_ret
      exact ⟨_, rfl, HKA.out, hb⟩

set_option maxRecDepth 100000 in
set_option maxHeartbeats 4000000 in
theorem pruneOf_any (v : Value) (fs : List Fl) (lo hi : Int) (w : World) (hx : FlsAt w v fs) (hl : fs.length ≤ 20000) :
    Calls Tryz.prog 43 #[v, .int .i64 lo, .int .i64 hi] w fun e w' => ∃ v', e = .returned v' ∧ FlsAt w' v' (fs.filter (inP lo hi)) ∧ Below w.heap.size w w' := by
  obtain ⟨i0, hi0, hz0, hs0, hby0⟩ := Tryz.fileInfo
  obtain ⟨q, cap, rfl⟩ := hx.form
  have HFX : Hid (FlsAt w (.slice q fs.length cap) fs) := hx
  obtain ⟨L, hL⟩ : ∃ L, fs.length = L := ⟨_, rfl⟩
  have HX : Hid (fs.length = L) := hL
  rw [hL] at hl ⊢
  clear hL hx
  go_enter Tryz.func43, Tryz.ntmps43
  go_wp2
  go_loopw [7, 8] (fun out k wr => ∃ n : Nat, n ≤ L ∧ k = .int .i64 n ∧ Below w.heap.size w wr ∧ wr.ownsRow w.heap.size 23 6 out (kept (inP lo hi) fs n).length (flatF (kept (inP lo hi) fs n))) (fun _ k _ => L - (intOf k).toNat)
  case atStart => exact ⟨0, by omega, rfl, Below.refl _ _, by rw [kept_zero]; exact World.ownsRow_nil _ _ _ _⟩
  case round =>
    obtain ⟨n, hn, rfl, hb, hown⟩ := hrel
    have OW : Hid (wr.ownsRow w.heap.size 23 6 u7 (kept (inP lo hi) fs n).length (flatF (kept (inP lo hi) fs n))) := hown
    clear hown
    by_cases hlt : n < L
    · have hltx : n < fs.length := by rw [HX.out]; exact hlt
      obtain ⟨b, o, hq, hc⟩ := (HFX.out.below hb).cells (fun e => by rw [e] at hltx; simp at hltx)
      subst hq
      obtain ⟨c0, c1, c2, c3, c4, c5⟩ := hc n hltx
      have HKL : Hid ((kept (inP lo hi) fs n).length ≤ L) := by
        show _ ≤ _
        have := kept_len (inP lo hi) fs n
        omega
      have hke : (kept (inP lo hi) fs (n + 1)) = if (inP lo hi) fs[n] = true then (kept (inP lo hi) fs n) ++ [fs[n]] else (kept (inP lo hi) fs n) := kept_succ (inP lo hi) fs n hltx
      generalize fs[n] = f at c0 c1 c2 c3 c4 c5 hke
      obtain ⟨fp, fq, fn, flo, fhi, fseq⟩ := f
      dsimp only at c0 c1 c2 c3 c4 c5
      have hiL : (n : Int) < (L : Int) := by omega
      have hi0' : (0 : Int) ≤ (n : Int) := by omega
      have hal : Below wr.heap.size wr (wr.alloc (.cells #[.string fp, .string fq, .int .i64 fn, .int .i64 flo, .int .i64 fhi, .int .i64 fseq] 23)) := (Below.refl _ _).alloc (Nat.le_refl _) _
      have hbA : Below w.heap.size w (wr.alloc (.cells #[.string fp, .string fq, .int .i64 fn, .int .i64 flo, .int .i64 fhi, .int .i64 fseq] 23)) := hb.alloc hb.size _
      clear hc hltx
      have split8 : ((flo < lo ∧ hi < fhi ∧ lo ≤ hi) ∨ (flo < lo ∧ hi < fhi ∧ ¬ lo ≤ hi)) ∨ ((flo < lo ∧ ¬ hi < fhi ∧ lo ≤ fhi) ∨ (flo < lo ∧ ¬ hi < fhi ∧ ¬ lo ≤ fhi)) ∨ ((¬ flo < lo ∧ hi < fhi ∧ flo ≤ hi) ∨ (¬ flo < lo ∧ hi < fhi ∧ ¬ flo ≤ hi)) ∨ ((¬ flo < lo ∧ ¬ hi < fhi ∧ flo ≤ fhi) ∨ (¬ flo < lo ∧ ¬ hi < fhi ∧ ¬ flo ≤ fhi)) := by omega
      rcases split8 with (hs8 | hs8) | (hs8 | hs8) | (hs8 | hs8) | (hs8 | hs8) <;> obtain ⟨z1, z2, z3⟩ := hs8
      · have q1 : flo < lo := by omega
        have q2 : hi < fhi := by omega
        have q3 : lo ≤ hi := by omega
        have HKE : Hid ((kept (inP lo hi) fs (n + 1)) = (kept (inP lo hi) fs n) ++ [(fp, fq, fn, flo, fhi, fseq)]) := by
          show _ = _
          rw [hke, if_pos (by simp [inP, q1, q2, q3])]
        clear hke
        go_wp2_with (at_builtin; refine wpList_append_own _ rfl _ _ 50 rfl w.heap.size 23 i0 (.agg #[.string ⟨#[]⟩, .string ⟨#[]⟩, .int .i64 0, .int .i64 0, .int .i64 0, .int .i64 0]) 6 64 Tryz.underlying50 hi0 hz0 hs0 hby0 rfl (by decide) u7 (kept (inP lo hi) fs n).length (flatF (kept (inP lo hi) fs n)) rfl ?qc0 ⟨wr.heap.size, 0, none⟩ 1 1 (encF (fp, fq, fn, flo, fhi, fseq)) rfl ?qc1 ?qc2 ?qc3 ?qc4 ?qc5 ?qc6 ?_)
        case qc0 => exact own_below OW.out hal
        case qc1 => rfl
        case qc2 => first | exact cells6 _ _ | exact fun j u hu => hu
        case qc3 => exact encF_one _
        case qc4 => have := HKL.out; unfold maxLen; omega
        case qc5 => have := HKL.out; omega
        case qc6 => first | exact hbA.size | (have := hb.size; omega)
        intro v' w4 hown4 hgrow hnil
        have hbC : Below w.heap.size w w4 := hbA.grown hgrow hbA.size (fun k hk => by
          rcases OW.out.2 with ⟨e, _⟩ | ⟨g', cap', cur, e, hg', _⟩
          · rw [e] at hk; simp [Value.ownBlock] at hk
          · rw [e] at hk; simp [Value.ownBlock] at hk; omega)
        have OW4 : Hid (w4.ownsRow w.heap.size 23 6 v' ((kept (inP lo hi) fs n).length + 1) (flatF (kept (inP lo hi) fs n) ++ encF (fp, fq, fn, flo, fhi, fseq))) := hown4
        clear hown4 hnil hgrow
        go_wp2
        go_roundw
        case rel => exact ⟨n + 1, by omega, by go_num, hbC, by rw [HKE.out, List.length_append, flatF_append]; simpa [flatF] using OW4.out⟩
        case measure => simp [intOf]; omega
      · have q1 : flo < lo := by omega
        have q2 : hi < fhi := by omega
        have q3 : ¬ lo ≤ hi := by omega
        have HKE : Hid ((kept (inP lo hi) fs (n + 1)) = (kept (inP lo hi) fs n)) := by
          show _ = _
          rw [hke, if_neg (by simp [inP, q1, q2, q3])]
        clear hke hal hbA
        go_wp2
        go_roundw
        case rel => exact ⟨n + 1, by omega, by go_num, hb, by rw [HKE.out]; exact OW.out⟩
        case measure => simp [intOf]; omega
      · have q1 : flo < lo := by omega
        have q2 : ¬ hi < fhi := by omega
        have q3 : lo ≤ fhi := by omega
        have HKE : Hid ((kept (inP lo hi) fs (n + 1)) = (kept (inP lo hi) fs n) ++ [(fp, fq, fn, flo, fhi, fseq)]) := by
          show _ = _
          rw [hke, if_pos (by simp [inP, q1, q2, q3])]
        clear hke
        go_wp2_with (at_builtin; refine wpList_append_own _ rfl _ _ 50 rfl w.heap.size 23 i0 (.agg #[.string ⟨#[]⟩, .string ⟨#[]⟩, .int .i64 0, .int .i64 0, .int .i64 0, .int .i64 0]) 6 64 Tryz.underlying50 hi0 hz0 hs0 hby0 rfl (by decide) u7 (kept (inP lo hi) fs n).length (flatF (kept (inP lo hi) fs n)) rfl ?qc0 ⟨wr.heap.size, 0, none⟩ 1 1 (encF (fp, fq, fn, flo, fhi, fseq)) rfl ?qc1 ?qc2 ?qc3 ?qc4 ?qc5 ?qc6 ?_)
        case qc0 => exact own_below OW.out hal
        case qc1 => rfl
        case qc2 => first | exact cells6 _ _ | exact fun j u hu => hu
        case qc3 => exact encF_one _
        case qc4 => have := HKL.out; unfold maxLen; omega
        case qc5 => have := HKL.out; omega
        case qc6 => first | exact hbA.size | (have := hb.size; omega)
        intro v' w4 hown4 hgrow hnil
        have hbC : Below w.heap.size w w4 := hbA.grown hgrow hbA.size (fun k hk => by
          rcases OW.out.2 with ⟨e, _⟩ | ⟨g', cap', cur, e, hg', _⟩
          · rw [e] at hk; simp [Value.ownBlock] at hk
          · rw [e] at hk; simp [Value.ownBlock] at hk; omega)
        have OW4 : Hid (w4.ownsRow w.heap.size 23 6 v' ((kept (inP lo hi) fs n).length + 1) (flatF (kept (inP lo hi) fs n) ++ encF (fp, fq, fn, flo, fhi, fseq))) := hown4
        clear hown4 hnil hgrow
        go_wp2
        go_roundw
        case rel => exact ⟨n + 1, by omega, by go_num, hbC, by rw [HKE.out, List.length_append, flatF_append]; simpa [flatF] using OW4.out⟩
        case measure => simp [intOf]; omega
      · have q1 : flo < lo := by omega
        have q2 : ¬ hi < fhi := by omega
        have q3 : ¬ lo ≤ fhi := by omega
        have HKE : Hid ((kept (inP lo hi) fs (n + 1)) = (kept (inP lo hi) fs n)) := by
          show _ = _
          rw [hke, if_neg (by simp [inP, q1, q2, q3])]
        clear hke hal hbA
        go_wp2
        go_roundw
        case rel => exact ⟨n + 1, by omega, by go_num, hb, by rw [HKE.out]; exact OW.out⟩
        case measure => simp [intOf]; omega
      · have q1 : ¬ flo < lo := by omega
        have q2 : hi < fhi := by omega
        have q3 : flo ≤ hi := by omega
        have HKE : Hid ((kept (inP lo hi) fs (n + 1)) = (kept (inP lo hi) fs n) ++ [(fp, fq, fn, flo, fhi, fseq)]) := by
          show _ = _
          rw [hke, if_pos (by simp [inP, q1, q2, q3])]
        clear hke
        go_wp2_with (at_builtin; refine wpList_append_own _ rfl _ _ 50 rfl w.heap.size 23 i0 (.agg #[.string ⟨#[]⟩, .string ⟨#[]⟩, .int .i64 0, .int .i64 0, .int .i64 0, .int .i64 0]) 6 64 Tryz.underlying50 hi0 hz0 hs0 hby0 rfl (by decide) u7 (kept (inP lo hi) fs n).length (flatF (kept (inP lo hi) fs n)) rfl ?qc0 ⟨wr.heap.size, 0, none⟩ 1 1 (encF (fp, fq, fn, flo, fhi, fseq)) rfl ?qc1 ?qc2 ?qc3 ?qc4 ?qc5 ?qc6 ?_)
        case qc0 => exact own_below OW.out hal
        case qc1 => rfl
        case qc2 => first | exact cells6 _ _ | exact fun j u hu => hu
        case qc3 => exact encF_one _
        case qc4 => have := HKL.out; unfold maxLen; omega
        case qc5 => have := HKL.out; omega
        case qc6 => first | exact hbA.size | (have := hb.size; omega)
        intro v' w4 hown4 hgrow hnil
        have hbC : Below w.heap.size w w4 := hbA.grown hgrow hbA.size (fun k hk => by
          rcases OW.out.2 with ⟨e, _⟩ | ⟨g', cap', cur, e, hg', _⟩
          · rw [e] at hk; simp [Value.ownBlock] at hk
          · rw [e] at hk; simp [Value.ownBlock] at hk; omega)
        have OW4 : Hid (w4.ownsRow w.heap.size 23 6 v' ((kept (inP lo hi) fs n).length + 1) (flatF (kept (inP lo hi) fs n) ++ encF (fp, fq, fn, flo, fhi, fseq))) := hown4
        clear hown4 hnil hgrow
        go_wp2
        go_roundw
        case rel => exact ⟨n + 1, by omega, by go_num, hbC, by rw [HKE.out, List.length_append, flatF_append]; simpa [flatF] using OW4.out⟩
        case measure => simp [intOf]; omega
      · have q1 : ¬ flo < lo := by omega
        have q2 : hi < fhi := by omega
        have q3 : ¬ flo ≤ hi := by omega
        have HKE : Hid ((kept (inP lo hi) fs (n + 1)) = (kept (inP lo hi) fs n)) := by
          show _ = _
          rw [hke, if_neg (by simp [inP, q1, q2, q3])]
        clear hke hal hbA
        go_wp2
        go_roundw
        case rel => exact ⟨n + 1, by omega, by go_num, hb, by rw [HKE.out]; exact OW.out⟩
        case measure => simp [intOf]; omega
      · have q1 : ¬ flo < lo := by omega
        have q2 : ¬ hi < fhi := by omega
        have q3 : flo ≤ fhi := by omega
        have HKE : Hid ((kept (inP lo hi) fs (n + 1)) = (kept (inP lo hi) fs n) ++ [(fp, fq, fn, flo, fhi, fseq)]) := by
          show _ = _
          rw [hke, if_pos (by simp [inP, q1, q2, q3])]
        clear hke
        go_wp2_with (at_builtin; refine wpList_append_own _ rfl _ _ 50 rfl w.heap.size 23 i0 (.agg #[.string ⟨#[]⟩, .string ⟨#[]⟩, .int .i64 0, .int .i64 0, .int .i64 0, .int .i64 0]) 6 64 Tryz.underlying50 hi0 hz0 hs0 hby0 rfl (by decide) u7 (kept (inP lo hi) fs n).length (flatF (kept (inP lo hi) fs n)) rfl ?qc0 ⟨wr.heap.size, 0, none⟩ 1 1 (encF (fp, fq, fn, flo, fhi, fseq)) rfl ?qc1 ?qc2 ?qc3 ?qc4 ?qc5 ?qc6 ?_)
        case qc0 => exact own_below OW.out hal
        case qc1 => rfl
        case qc2 => first | exact cells6 _ _ | exact fun j u hu => hu
        case qc3 => exact encF_one _
        case qc4 => have := HKL.out; unfold maxLen; omega
        case qc5 => have := HKL.out; omega
        case qc6 => first | exact hbA.size | (have := hb.size; omega)
        intro v' w4 hown4 hgrow hnil
        have hbC : Below w.heap.size w w4 := hbA.grown hgrow hbA.size (fun k hk => by
          rcases OW.out.2 with ⟨e, _⟩ | ⟨g', cap', cur, e, hg', _⟩
          · rw [e] at hk; simp [Value.ownBlock] at hk
          · rw [e] at hk; simp [Value.ownBlock] at hk; omega)
        have OW4 : Hid (w4.ownsRow w.heap.size 23 6 v' ((kept (inP lo hi) fs n).length + 1) (flatF (kept (inP lo hi) fs n) ++ encF (fp, fq, fn, flo, fhi, fseq))) := hown4
        clear hown4 hnil hgrow
        go_wp2
        go_roundw
        case rel => exact ⟨n + 1, by omega, by go_num, hbC, by rw [HKE.out, List.length_append, flatF_append]; simpa [flatF] using OW4.out⟩
        case measure => simp [intOf]; omega
      · have q1 : ¬ flo < lo := by omega
        have q2 : ¬ hi < fhi := by omega
        have q3 : ¬ flo ≤ fhi := by omega
        have HKE : Hid ((kept (inP lo hi) fs (n + 1)) = (kept (inP lo hi) fs n)) := by
          show _ = _
          rw [hke, if_neg (by simp [inP, q1, q2, q3])]
        clear hke hal hbA
        go_wp2
        go_roundw
        case rel => exact ⟨n + 1, by omega, by go_num, hb, by rw [HKE.out]; exact OW.out⟩
        case measure => simp [intOf]; omega
    · obtain rfl : n = L := by omega
      have HKA : Hid (FlsAt wr u7 (fs.filter (inP lo hi))) := by
        have h' := (flsAt_of_own OW.out).1
        rw [← HX.out, kept_all] at h'
        exact h'
      go_wp2
      go_ret
      exact ⟨_, rfl, HKA.out, hb⟩
end Go.Proofs.YtpkoefpdpoikkaaGreatDoor
