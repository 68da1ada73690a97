/-
  The contracts of the document's own IsBehind, FindOf, SameFiles, Without, PruneOf and ListText.
  The contracts of the document's own SameFiles, ListText and ListFault.
  The contract of the document's own ListFault.
  The contracts of the document's own Placed, and of the statements' own OwnFiles.
  The contract of the document's own Placed.
  The contracts of the document's own AddOf and RemoveOf.
  Errors that tell a fault, and where; short files; a file in a block of its own.
-/
import Derived.Test.YtpiagofhgalklacGreatDoorListMem
import Derived.Test.YtpiagofhgalklacGreatDoorRefFile
import Derived.Test.YtpiagofhgalklacGreatDoorFileKnown
import Derived.BigQuiet
import Derived.Test.YtpiagofhgalklacGreatDoorRefReadData
import Derived.Deep.RegionHeld3
import Derived.Test.YtpiagofhgalklacGreatDoorGoneWalk
import Derived.Deep.CutBlock
import Derived.Test.YtpiagofhgalklacGreatDoorFileText
namespace Go.Proofs.YtpiagofhgalklacGreatDoor
open Go.RowKit Go.Extern.Stop Go.Stop Go.Extern Go.Sort Go.Shelf Go.Lib

theorem cells6 (w : World) (f : Fl) : ∀ j u, (encF f)[j]? = some u → (w.alloc (.cells #[.string f.1, .string f.2.1, .int .i64 f.2.2.1, .int .i64 f.2.2.2.1, .int .i64 f.2.2.2.2.1, .int .i64 f.2.2.2.2.2] 24)).cell? ((⟨w.heap.size, 0, none⟩ : Addr).add j) = some u := by
  intro j u hu
  rw [Addr.add_lit, Nat.zero_add, cell_of_row _ _ _ _ _ _ (heap_alloc_new _ _)]
  rw [← hu]
  simp [encF]

set_option maxRecDepth 100000 in
set_option maxHeartbeats 2000000 in
theorem isBehind_any (p q : ByteArray) (w : World) (h1 : p.size ≤ 100000) (h2 : q.size ≤ 100000) :
    Calls Tryz.prog 42 #[.string p, .string q] w fun e w' => e = .returned (.bool (decide (pk q.data.toList < pk p.data.toList))) ∧ w' = w := by
  have ha := pathOf_any p w h1
  have hb := pathOf_any q w h2
  have hpp := @pk_some p.data.toList
  have hpq := @pk_some q.data.toList
  have key : ∀ s : List UInt8, (pathR s = ([], 0, 5) ∧ pk s = 0) ∨ (∃ n : Int, pathR s = (kData, n, 0) ∧ pk s = n ∧ 1 ≤ n ∧ n ≤ 1073741824) ∨ ∃ n : Int, pathR s = (kGone, n, 0) ∧ pk s = 1073741824 + n ∧ 1 ≤ n ∧ n ≤ 1073741824 := fun s => by
    cases hs : pathO s with
    | none => exact Or.inl ⟨pathR_none hs, by unfold pk; rw [hs]⟩
    | some gn =>
      obtain ⟨g, n⟩ := gn
      obtain ⟨e, b1, b2⟩ := pk_some hs
      cases g
      · exact Or.inr (Or.inl ⟨n, pathR_some hs, by simpa using e, b1, b2⟩)
      · exact Or.inr (Or.inr ⟨n, pathR_some hs, by simpa using e, b1, b2⟩)
  have ka := key p.data.toList
  have kb := key q.data.toList
  generalize pk p.data.toList = A at ka
  generalize pk q.data.toList = B at kb
  generalize pathR p.data.toList = RA at ha ka
  generalize pathR q.data.toList = RB at hb kb
  clear key hpp hpq h1 h2
  have eD : bytesOf kData = ⟨#[100, 97, 116, 97]⟩ := rfl
  have eG : bytesOf kGone = ⟨#[103, 111, 110, 101]⟩ := rfl
  have eE : bytesOf [] = ⟨#[]⟩ := rfl
  rcases ka with ⟨rfl, rfl⟩ | ⟨n, rfl, rfl, n1, n2⟩ | ⟨n, rfl, rfl, n1, n2⟩ <;> rcases kb with ⟨rfl, rfl⟩ | ⟨m, rfl, rfl, m1, m2⟩ | ⟨m, rfl, rfl, m1, m2⟩
  · dsimp only at ha hb
    rw [eE] at ha
    rw [eE] at hb
    go_enter Tryz.func42, Tryz.ntmps42
    go_wp2_with fail
    refine ha.mono ?_
    rintro e w1 ⟨rfl, hw1⟩
    rw [hw1]
    clear ha hw1
    go_wp2_with fail
    refine hb.mono ?_
    rintro e w2 ⟨rfl, hw2⟩
    rw [hw2]
    clear hb hw2
    go_wp2
    go_ret
    exact ⟨rfl, rfl⟩
  · dsimp only at ha hb
    rw [eE] at ha
    rw [eD] at hb
    have hd : decide ((B : Int) < 0) = false := decide_eq_false (by omega)
    rw [hd]
    clear hd
    have hg : ∀ W : World, (binOp .gtr 9 (.string ⟨#[]⟩) (.string ⟨#[100, 97, 116, 97]⟩)).run Tryz.prog W = .ok (.bool false) W := fun W => by first | rfl | kernel_rfl | simp [binOp, Op.stringOp]
    go_enter Tryz.func42, Tryz.ntmps42
    go_wp2_with fail
    refine ha.mono ?_
    rintro e w1 ⟨rfl, hw1⟩
    rw [hw1]
    clear ha hw1
    go_wp2_with fail
    refine hb.mono ?_
    rintro e w2 ⟨rfl, hw2⟩
    rw [hw2]
    clear hb hw2
    go_wp2
    go_ret
    exact ⟨rfl, rfl⟩
  · dsimp only at ha hb
    rw [eE] at ha
    rw [eG] at hb
    have hd : decide ((1073741824 + m : Int) < 0) = false := decide_eq_false (by omega)
    rw [hd]
    clear hd
    have hg : ∀ W : World, (binOp .gtr 9 (.string ⟨#[]⟩) (.string ⟨#[103, 111, 110, 101]⟩)).run Tryz.prog W = .ok (.bool false) W := fun W => by first | rfl | kernel_rfl | simp [binOp, Op.stringOp]
    go_enter Tryz.func42, Tryz.ntmps42
    go_wp2_with fail
    refine ha.mono ?_
    rintro e w1 ⟨rfl, hw1⟩
    rw [hw1]
    clear ha hw1
    go_wp2_with fail
    refine hb.mono ?_
    rintro e w2 ⟨rfl, hw2⟩
    rw [hw2]
    clear hb hw2
    go_wp2
    go_ret
    exact ⟨rfl, rfl⟩
  · dsimp only at ha hb
    rw [eD] at ha
    rw [eE] at hb
    have hd : decide ((0 : Int) < A) = true := decide_eq_true (by omega)
    rw [hd]
    clear hd
    have hg : ∀ W : World, (binOp .gtr 9 (.string ⟨#[100, 97, 116, 97]⟩) (.string ⟨#[]⟩)).run Tryz.prog W = .ok (.bool true) W := fun W => by first | rfl | kernel_rfl | simp [binOp, Op.stringOp]
    go_enter Tryz.func42, Tryz.ntmps42
    go_wp2_with fail
    refine ha.mono ?_
    rintro e w1 ⟨rfl, hw1⟩
    rw [hw1]
    clear ha hw1
    go_wp2_with fail
    refine hb.mono ?_
    rintro e w2 ⟨rfl, hw2⟩
    rw [hw2]
    clear hb hw2
    go_wp2
    go_ret
    exact ⟨rfl, rfl⟩
  · dsimp only at ha hb
    rw [eD] at ha
    rw [eD] at hb
    go_enter Tryz.func42, Tryz.ntmps42
    go_wp2_with fail
    refine ha.mono ?_
    rintro e w1 ⟨rfl, hw1⟩
    rw [hw1]
    clear ha hw1
    go_wp2_with fail
    refine hb.mono ?_
    rintro e w2 ⟨rfl, hw2⟩
    rw [hw2]
    clear hb hw2
    go_wp2
    go_ret
    exact ⟨rfl, rfl⟩
  · dsimp only at ha hb
    rw [eD] at ha
    rw [eG] at hb
    have hd : decide ((1073741824 + m : Int) < A) = false := decide_eq_false (by omega)
    rw [hd]
    clear hd
    have hg : ∀ W : World, (binOp .gtr 9 (.string ⟨#[100, 97, 116, 97]⟩) (.string ⟨#[103, 111, 110, 101]⟩)).run Tryz.prog W = .ok (.bool false) W := fun W => by first | rfl | kernel_rfl | simp [binOp, Op.stringOp]
    go_enter Tryz.func42, Tryz.ntmps42
    go_wp2_with fail
    refine ha.mono ?_
    rintro e w1 ⟨rfl, hw1⟩
    rw [hw1]
    clear ha hw1
    go_wp2_with fail
    refine hb.mono ?_
    rintro e w2 ⟨rfl, hw2⟩
    rw [hw2]
    clear hb hw2
    go_wp2
    go_ret
    exact ⟨rfl, rfl⟩
  · dsimp only at ha hb
    rw [eG] at ha
    rw [eE] at hb
    have hd : decide ((0 : Int) < 1073741824 + n) = true := decide_eq_true (by omega)
    rw [hd]
    clear hd
    have hg : ∀ W : World, (binOp .gtr 9 (.string ⟨#[103, 111, 110, 101]⟩) (.string ⟨#[]⟩)).run Tryz.prog W = .ok (.bool true) W := fun W => by first | rfl | kernel_rfl | simp [binOp, Op.stringOp]
    go_enter Tryz.func42, Tryz.ntmps42
    go_wp2_with fail
    refine ha.mono ?_
    rintro e w1 ⟨rfl, hw1⟩
    rw [hw1]
    clear ha hw1
    go_wp2_with fail
    refine hb.mono ?_
    rintro e w2 ⟨rfl, hw2⟩
    rw [hw2]
    clear hb hw2
    go_wp2
    go_ret
    exact ⟨rfl, rfl⟩
  · dsimp only at ha hb
    rw [eG] at ha
    rw [eD] at hb
    have hd : decide ((B : Int) < 1073741824 + n) = true := decide_eq_true (by omega)
    rw [hd]
    clear hd
    have hg : ∀ W : World, (binOp .gtr 9 (.string ⟨#[103, 111, 110, 101]⟩) (.string ⟨#[100, 97, 116, 97]⟩)).run Tryz.prog W = .ok (.bool true) W := fun W => by first | rfl | kernel_rfl | simp [binOp, Op.stringOp]
    go_enter Tryz.func42, Tryz.ntmps42
    go_wp2_with fail
    refine ha.mono ?_
    rintro e w1 ⟨rfl, hw1⟩
    rw [hw1]
    clear ha hw1
    go_wp2_with fail
    refine hb.mono ?_
    rintro e w2 ⟨rfl, hw2⟩
    rw [hw2]
    clear hb hw2
    go_wp2
    go_ret
    exact ⟨rfl, rfl⟩
  · dsimp only at ha hb
    rw [eG] at ha
    rw [eG] at hb
    go_enter Tryz.func42, Tryz.ntmps42
    go_wp2_with fail
    refine ha.mono ?_
    rintro e w1 ⟨rfl, hw1⟩
    rw [hw1]
    clear ha hw1
    go_wp2_with fail
    refine hb.mono ?_
    rintro e w2 ⟨rfl, hw2⟩
    rw [hw2]
    clear hb hw2
    go_wp2
    go_ret
    exact ⟨congrArg (fun b => Ending.returned (Value.bool b)) (by first | rfl | (simp <;> omega)), rfl⟩

/-- Where a path is among files (-1: nowhere). -/
def findF (fs : List Fl) (p : ByteArray) : Int := match fs.findIdx? (fun f => decide (f.1 = p)) with
  | some i => i
  | none => -1

theorem findF_at {fs : List Fl} {p : ByteArray} {n : Nat} (hn : n < fs.length) (h : ∀ j (h : j < fs.length), j < n → fs[j].1 ≠ p) (e : fs[n].1 = p) : findF fs p = n := by
  unfold findF
  have : fs.findIdx? (fun f => decide (f.1 = p)) = some n := by
    rw [List.findIdx?_eq_some_iff_getElem]
    exact ⟨hn, by simpa using e, fun j hj => by simpa using h j (by omega) hj⟩
  rw [this]
theorem findF_no {fs : List Fl} {p : ByteArray} (h : ∀ j (h : j < fs.length), fs[j].1 ≠ p) : findF fs p = -1 := by
  unfold findF
  have : fs.findIdx? (fun f => decide (f.1 = p)) = none := by
    rw [List.findIdx?_eq_none_iff]
    intro f hf
    obtain ⟨j, hj, rfl⟩ := List.mem_iff_getElem.1 hf
    simpa using h j hj
  rw [this]

theorem nopath_succ {fs : List Fl} {n : Nat} {p : ByteArray} (h : ∀ j (h : j < fs.length), j < n → fs[j].1 ≠ p) (hn : n < fs.length) (e : fs[n].1 ≠ p) : ∀ j (h : j < fs.length), j < n + 1 → fs[j].1 ≠ p := fun j hj hjn => by
  rcases Nat.lt_or_ge j n with h' | h'
  · exact h j hj h'
  · obtain rfl : j = n := by omega
    exact e

set_option maxRecDepth 100000 in
set_option maxHeartbeats 2000000 in
theorem findOf_any (v : Value) (fs : List Fl) (p : ByteArray) (w : World) (hx : FlsAt w v fs) (hl : fs.length ≤ 20000) :
    Calls Tryz.prog 23 #[v, .string p] w fun e w' => e = .returned (.int .i64 (findF fs p)) ∧ w' = w := by
  obtain ⟨q, cap, rfl⟩ := hx.form
  have HFX : Hid (FlsAt w (.slice q fs.length cap) fs) := hx
  obtain ⟨L, hL⟩ : ∃ L, fs.length = L := ⟨_, rfl⟩
  have HX : Hid (fs.length = L) := hL
  rw [hL] at hl ⊢
  generalize hR : findF fs p = R
  have HR : Hid (findF fs p = R) := hR
  clear hL hx hR
  go_enter Tryz.func23, Tryz.ntmps23
  go_wp2
  go_loop [5] (fun k => ∃ n : Nat, n ≤ L ∧ k = .int .i64 n ∧ ∀ j (h : j < fs.length), j < n → fs[j].1 ≠ p) (fun k => L - (intOf k).toNat)
  case atStart => exact ⟨0, by omega, rfl, fun j h h' => absurd h' (Nat.not_lt_zero _)⟩
  case round =>
    obtain ⟨n, hn, rfl, hno⟩ := hrel
    have HNO : Hid (∀ j (h : j < fs.length), j < n → fs[j].1 ≠ p) := hno
    clear hno
    by_cases hlt : n < L
    · have hltx : n < fs.length := by rw [HX.out]; exact hlt
      obtain ⟨b, o, hq, hc⟩ := HFX.out.cells (fun e => by rw [e] at hltx; simp at hltx)
      subst hq
      have c0 := (hc n hltx).1
      have hi : (n : Int) < (L : Int) := by omega
      have hi0' : (0 : Int) ≤ (n : Int) := by omega
      by_cases he : fs[n].1 = p
      · have hRR : R = n := by rw [← HR.out]; exact findF_at hltx HNO.out he
        subst hRR
        rw [he] at c0
        have d1 : (p.toList == p.toList) = true := by simp
        clear hc he hltx
        go_wp2
        go_ret
        exact ⟨rfl, rfl⟩
      · have HN1 : Hid (∀ j (h : j < fs.length), j < n + 1 → fs[j].1 ≠ p) := nopath_succ HNO.out hltx he
        have d1 : (fs[n].1.toList == p.toList) = false := neBB (fun e => he (part_ext e))
        generalize fs[n].1 = fp at c0 d1
        clear hc he hltx
        go_wp2
        go_round
        case rel => exact ⟨n + 1, by omega, by go_num, HN1.out⟩
        case measure => simp [intOf]; omega
    · obtain rfl : n = L := by omega
      have hRR : R = -1 := by rw [← HR.out]; exact findF_no (fun j hj => HNO.out j hj (by rw [← HX.out]; exact hj))
      subst hRR
      go_wp2
      go_ret
      exact ⟨rfl, rfl⟩

/-- Those of the first n files that are kept. -/
def kept (P : Fl → Bool) (fs : List Fl) (n : Nat) : List Fl := (fs.take n).filter P
theorem kept_zero (P : Fl → Bool) (fs : List Fl) : kept P fs 0 = [] := by simp [kept]
theorem kept_len (P : Fl → Bool) (fs : List Fl) (n : Nat) : (kept P fs n).length ≤ n := by
  have := List.length_filter_le P (fs.take n)
  rw [List.length_take] at this
  unfold kept
  omega
theorem kept_succ (P : Fl → Bool) (fs : List Fl) (n : Nat) (h : n < fs.length) : kept P fs (n + 1) = if P fs[n] = true then kept P fs n ++ [fs[n]] else kept P fs n := by
  unfold kept
  rw [← List.take_append_getElem h, List.filter_append]
  split
  · rename_i hp; rw [List.filter_cons_of_pos hp]; rfl
  · rename_i hp; rw [List.filter_cons_of_neg hp]; simp
theorem kept_all (P : Fl → Bool) (fs : List Fl) : kept P fs fs.length = fs.filter P := by unfold kept; rw [List.take_length]

/-- Not that path. -/
def offP (p : ByteArray) (f : Fl) : Bool := decide (f.1 ≠ p)
/-- May it have a key from lo to hi? -/
def inP (lo hi : Int) (f : Fl) : Bool := decide ((if f.2.2.2.1 < lo then lo else f.2.2.2.1) ≤ (if hi < f.2.2.2.2.1 then hi else f.2.2.2.2.1))

set_option maxRecDepth 100000 in
set_option maxHeartbeats 4000000 in
/-- Files without a path. -/
theorem without_any (v : Value) (fs : List Fl) (p : ByteArray) (w : World) (hx : FlsAt w v fs) (hl : fs.length ≤ 20000) :
    Calls Tryz.prog 60 #[v, .string p] w fun e w' => ∃ v', e = .returned v' ∧ FlsAt w' v' (fs.filter (offP p)) ∧ Below w.heap.size w w' := by
  obtain ⟨i0, hi0, hz0, hs0, hby0⟩ := Tryz.fileInfo
  obtain ⟨q, cap, rfl⟩ := hx.form
  have HFX : Hid (FlsAt w (.slice q fs.length cap) fs) := hx
  obtain ⟨L, hL⟩ : ∃ L, fs.length = L := ⟨_, rfl⟩
  have HX : Hid (fs.length = L) := hL
  rw [hL] at hl ⊢
  clear hL hx
  go_enter Tryz.func60, Tryz.ntmps60
  go_wp2
  go_loopw [5, 6] (fun out k wr => ∃ n : Nat, n ≤ L ∧ k = .int .i64 n ∧ Below w.heap.size w wr ∧ wr.ownsRow w.heap.size 24 6 out (kept (offP p) fs n).length (flatF (kept (offP p) fs n))) (fun _ k _ => L - (intOf k).toNat)
  case atStart => exact ⟨0, by omega, rfl, Below.refl _ _, by rw [kept_zero]; exact World.ownsRow_nil _ _ _ _⟩
  case round =>
    obtain ⟨n, hn, rfl, hb, hown⟩ := hrel
    have OW : Hid (wr.ownsRow w.heap.size 24 6 u5 (kept (offP p) fs n).length (flatF (kept (offP p) fs n))) := hown
    clear hown
    by_cases hlt : n < L
    · have hltx : n < fs.length := by rw [HX.out]; exact hlt
      obtain ⟨b, o, hq, hc⟩ := (HFX.out.below hb).cells (fun e => by rw [e] at hltx; simp at hltx)
      subst hq
      obtain ⟨c0, c1, c2, c3, c4, c5⟩ := hc n hltx
      have HKL : Hid ((kept (offP p) fs n).length ≤ L) := by
        show _ ≤ _
        have := kept_len (offP p) fs n
        omega
      have hke : (kept (offP p) fs (n + 1)) = if (offP p) fs[n] = true then (kept (offP p) fs n) ++ [fs[n]] else (kept (offP p) fs n) := kept_succ (offP p) fs n hltx
      generalize fs[n] = f at c0 c1 c2 c3 c4 c5 hke
      obtain ⟨fp, fq, fn, flo, fhi, fseq⟩ := f
      dsimp only at c0 c1 c2 c3 c4 c5
      have hiL : (n : Int) < (L : Int) := by omega
      have hi0' : (0 : Int) ≤ (n : Int) := by omega
      have hal : Below wr.heap.size wr (wr.alloc (.cells #[.string fp, .string fq, .int .i64 fn, .int .i64 flo, .int .i64 fhi, .int .i64 fseq] 24)) := (Below.refl _ _).alloc (Nat.le_refl _) _
      have hbA : Below w.heap.size w (wr.alloc (.cells #[.string fp, .string fq, .int .i64 fn, .int .i64 flo, .int .i64 fhi, .int .i64 fseq] 24)) := hb.alloc hb.size _
      clear hc hltx
      by_cases he : fp = p
      · have d1 : (fp.toList == p.toList) = true := eqBB (by rw [he])
        have HKE : Hid ((kept (offP p) fs (n + 1)) = (kept (offP p) fs n)) := by
          show _ = _
          rw [hke, if_neg (by simp [offP, he])]
        clear hke hal hbA
        go_wp2
        go_roundw
        case rel => exact ⟨n + 1, by omega, by go_num, hb, by rw [HKE.out]; exact OW.out⟩
        case measure => simp [intOf]; omega
      · have d1 : (fp.toList == p.toList) = false := neBB (fun e => he (part_ext e))
        have HKE : Hid ((kept (offP p) fs (n + 1)) = (kept (offP p) fs n) ++ [(fp, fq, fn, flo, fhi, fseq)]) := by
          show _ = _
          rw [hke, if_pos (by simp [offP, he])]
        clear hke
        go_wp2_with (at_builtin; refine wpList_append_own _ rfl _ _ 22 rfl w.heap.size 24 i0 (.agg #[.string ⟨#[]⟩, .string ⟨#[]⟩, .int .i64 0, .int .i64 0, .int .i64 0, .int .i64 0]) 6 64 Tryz.underlying22 hi0 hz0 hs0 hby0 rfl (by decide) u5 (kept (offP p) fs n).length (flatF (kept (offP p) fs n)) rfl ?qc0 ⟨wr.heap.size, 0, none⟩ 1 1 (encF (fp, fq, fn, flo, fhi, fseq)) rfl ?qc1 ?qc2 ?qc3 ?qc4 ?qc5 ?qc6 ?_)
        case qc0 => exact own_below OW.out hal
        case qc1 => rfl
        case qc2 => first | exact cells6 _ _ | exact fun j u hu => hu
        case qc3 => exact encF_one _
        case qc4 => have := HKL.out; unfold maxLen; omega
        case qc5 => have := HKL.out; omega
        case qc6 => first | exact hbA.size | (have := hb.size; omega)
        intro v' w4 hown4 hgrow hnil
        have hbC : Below w.heap.size w w4 := hbA.grown hgrow hbA.size (fun k hk => by
          rcases OW.out.2 with ⟨e, _⟩ | ⟨g', cap', cur, e, hg', _⟩
          · rw [e] at hk; simp [Value.ownBlock] at hk
          · rw [e] at hk; simp [Value.ownBlock] at hk; omega)
        have OW4 : Hid (w4.ownsRow w.heap.size 24 6 v' ((kept (offP p) fs n).length + 1) (flatF (kept (offP p) fs n) ++ encF (fp, fq, fn, flo, fhi, fseq))) := hown4
        clear hown4 hnil hgrow
        go_wp2
        go_roundw
        case rel => exact ⟨n + 1, by omega, by go_num, hbC, by rw [HKE.out, List.length_append, flatF_append]; simpa [flatF] using OW4.out⟩
        case measure => simp [intOf]; omega
    · obtain rfl : n = L := by omega
      have HKA : Hid (FlsAt wr u5 (fs.filter (offP p))) := by
        have h' := (flsAt_of_own OW.out).1
        rw [← HX.out, kept_all] at h'
        exact h'
      go_wp2
      go_ret
      exact ⟨_, rfl, HKA.out, hb⟩

set_option maxRecDepth 100000 in
set_option maxHeartbeats 4000000 in
/-- Files that may have some keys. -/
theorem pruneOf_any (v : Value) (fs : List Fl) (lo hi : Int) (w : World) (hx : FlsAt w v fs) (hl : fs.length ≤ 20000) :
    Calls Tryz.prog 25 #[v, .int .i64 lo, .int .i64 hi] w fun e w' => ∃ v', e = .returned v' ∧ FlsAt w' v' (fs.filter (inP lo hi)) ∧ Below w.heap.size w w' := by
  obtain ⟨i0, hi0, hz0, hs0, hby0⟩ := Tryz.fileInfo
  obtain ⟨q, cap, rfl⟩ := hx.form
  have HFX : Hid (FlsAt w (.slice q fs.length cap) fs) := hx
  obtain ⟨L, hL⟩ : ∃ L, fs.length = L := ⟨_, rfl⟩
  have HX : Hid (fs.length = L) := hL
  rw [hL] at hl ⊢
  clear hL hx
  go_enter Tryz.func25, Tryz.ntmps25
  go_wp2
  go_loopw [7, 8] (fun out k wr => ∃ n : Nat, n ≤ L ∧ k = .int .i64 n ∧ Below w.heap.size w wr ∧ wr.ownsRow w.heap.size 24 6 out (kept (inP lo hi) fs n).length (flatF (kept (inP lo hi) fs n))) (fun _ k _ => L - (intOf k).toNat)
  case atStart => exact ⟨0, by omega, rfl, Below.refl _ _, by rw [kept_zero]; exact World.ownsRow_nil _ _ _ _⟩
  case round =>
    obtain ⟨n, hn, rfl, hb, hown⟩ := hrel
    have OW : Hid (wr.ownsRow w.heap.size 24 6 u7 (kept (inP lo hi) fs n).length (flatF (kept (inP lo hi) fs n))) := hown
    clear hown
    by_cases hlt : n < L
    · have hltx : n < fs.length := by rw [HX.out]; exact hlt
      obtain ⟨b, o, hq, hc⟩ := (HFX.out.below hb).cells (fun e => by rw [e] at hltx; simp at hltx)
      subst hq
      obtain ⟨c0, c1, c2, c3, c4, c5⟩ := hc n hltx
      have HKL : Hid ((kept (inP lo hi) fs n).length ≤ L) := by
        show _ ≤ _
        have := kept_len (inP lo hi) fs n
        omega
      have hke : (kept (inP lo hi) fs (n + 1)) = if (inP lo hi) fs[n] = true then (kept (inP lo hi) fs n) ++ [fs[n]] else (kept (inP lo hi) fs n) := kept_succ (inP lo hi) fs n hltx
      generalize fs[n] = f at c0 c1 c2 c3 c4 c5 hke
      obtain ⟨fp, fq, fn, flo, fhi, fseq⟩ := f
      dsimp only at c0 c1 c2 c3 c4 c5
      have hiL : (n : Int) < (L : Int) := by omega
      have hi0' : (0 : Int) ≤ (n : Int) := by omega
      have hal : Below wr.heap.size wr (wr.alloc (.cells #[.string fp, .string fq, .int .i64 fn, .int .i64 flo, .int .i64 fhi, .int .i64 fseq] 24)) := (Below.refl _ _).alloc (Nat.le_refl _) _
      have hbA : Below w.heap.size w (wr.alloc (.cells #[.string fp, .string fq, .int .i64 fn, .int .i64 flo, .int .i64 fhi, .int .i64 fseq] 24)) := hb.alloc hb.size _
      clear hc hltx
      have split8 : ((flo < lo ∧ hi < fhi ∧ lo ≤ hi) ∨ (flo < lo ∧ hi < fhi ∧ ¬ lo ≤ hi)) ∨ ((flo < lo ∧ ¬ hi < fhi ∧ lo ≤ fhi) ∨ (flo < lo ∧ ¬ hi < fhi ∧ ¬ lo ≤ fhi)) ∨ ((¬ flo < lo ∧ hi < fhi ∧ flo ≤ hi) ∨ (¬ flo < lo ∧ hi < fhi ∧ ¬ flo ≤ hi)) ∨ ((¬ flo < lo ∧ ¬ hi < fhi ∧ flo ≤ fhi) ∨ (¬ flo < lo ∧ ¬ hi < fhi ∧ ¬ flo ≤ fhi)) := by omega
      rcases split8 with (hs8 | hs8) | (hs8 | hs8) | (hs8 | hs8) | (hs8 | hs8) <;> obtain ⟨z1, z2, z3⟩ := hs8
      · have q1 : flo < lo := by omega
        have q2 : hi < fhi := by omega
        have q3 : lo ≤ hi := by omega
        have HKE : Hid ((kept (inP lo hi) fs (n + 1)) = (kept (inP lo hi) fs n) ++ [(fp, fq, fn, flo, fhi, fseq)]) := by
          show _ = _
          rw [hke, if_pos (by simp [inP, q1, q2, q3])]
        clear hke
        go_wp2_with (at_builtin; refine wpList_append_own _ rfl _ _ 22 rfl w.heap.size 24 i0 (.agg #[.string ⟨#[]⟩, .string ⟨#[]⟩, .int .i64 0, .int .i64 0, .int .i64 0, .int .i64 0]) 6 64 Tryz.underlying22 hi0 hz0 hs0 hby0 rfl (by decide) u7 (kept (inP lo hi) fs n).length (flatF (kept (inP lo hi) fs n)) rfl ?qc0 ⟨wr.heap.size, 0, none⟩ 1 1 (encF (fp, fq, fn, flo, fhi, fseq)) rfl ?qc1 ?qc2 ?qc3 ?qc4 ?qc5 ?qc6 ?_)
        case qc0 => exact own_below OW.out hal
        case qc1 => rfl
        case qc2 => first | exact cells6 _ _ | exact fun j u hu => hu
        case qc3 => exact encF_one _
        case qc4 => have := HKL.out; unfold maxLen; omega
        case qc5 => have := HKL.out; omega
        case qc6 => first | exact hbA.size | (have := hb.size; omega)
        intro v' w4 hown4 hgrow hnil
        have hbC : Below w.heap.size w w4 := hbA.grown hgrow hbA.size (fun k hk => by
          rcases OW.out.2 with ⟨e, _⟩ | ⟨g', cap', cur, e, hg', _⟩
          · rw [e] at hk; simp [Value.ownBlock] at hk
          · rw [e] at hk; simp [Value.ownBlock] at hk; omega)
        have OW4 : Hid (w4.ownsRow w.heap.size 24 6 v' ((kept (inP lo hi) fs n).length + 1) (flatF (kept (inP lo hi) fs n) ++ encF (fp, fq, fn, flo, fhi, fseq))) := hown4
        clear hown4 hnil hgrow
        go_wp2
        go_roundw
        case rel => exact ⟨n + 1, by omega, by go_num, hbC, by rw [HKE.out, List.length_append, flatF_append]; simpa [flatF] using OW4.out⟩
        case measure => simp [intOf]; omega
      · have q1 : flo < lo := by omega
        have q2 : hi < fhi := by omega
        have q3 : ¬ lo ≤ hi := by omega
        have HKE : Hid ((kept (inP lo hi) fs (n + 1)) = (kept (inP lo hi) fs n)) := by
          show _ = _
          rw [hke, if_neg (by simp [inP, q1, q2, q3])]
        clear hke hal hbA
        go_wp2
        go_roundw
        case rel => exact ⟨n + 1, by omega, by go_num, hb, by rw [HKE.out]; exact OW.out⟩
        case measure => simp [intOf]; omega
      · have q1 : flo < lo := by omega
        have q2 : ¬ hi < fhi := by omega
        have q3 : lo ≤ fhi := by omega
        have HKE : Hid ((kept (inP lo hi) fs (n + 1)) = (kept (inP lo hi) fs n) ++ [(fp, fq, fn, flo, fhi, fseq)]) := by
          show _ = _
          rw [hke, if_pos (by simp [inP, q1, q2, q3])]
        clear hke
        go_wp2_with (at_builtin; refine wpList_append_own _ rfl _ _ 22 rfl w.heap.size 24 i0 (.agg #[.string ⟨#[]⟩, .string ⟨#[]⟩, .int .i64 0, .int .i64 0, .int .i64 0, .int .i64 0]) 6 64 Tryz.underlying22 hi0 hz0 hs0 hby0 rfl (by decide) u7 (kept (inP lo hi) fs n).length (flatF (kept (inP lo hi) fs n)) rfl ?qc0 ⟨wr.heap.size, 0, none⟩ 1 1 (encF (fp, fq, fn, flo, fhi, fseq)) rfl ?qc1 ?qc2 ?qc3 ?qc4 ?qc5 ?qc6 ?_)
        case qc0 => exact own_below OW.out hal
        case qc1 => rfl
        case qc2 => first | exact cells6 _ _ | exact fun j u hu => hu
        case qc3 => exact encF_one _
        case qc4 => have := HKL.out; unfold maxLen; omega
        case qc5 => have := HKL.out; omega
        case qc6 => first | exact hbA.size | (have := hb.size; omega)
        intro v' w4 hown4 hgrow hnil
        have hbC : Below w.heap.size w w4 := hbA.grown hgrow hbA.size (fun k hk => by
          rcases OW.out.2 with ⟨e, _⟩ | ⟨g', cap', cur, e, hg', _⟩
          · rw [e] at hk; simp [Value.ownBlock] at hk
          · rw [e] at hk; simp [Value.ownBlock] at hk; omega)
        have OW4 : Hid (w4.ownsRow w.heap.size 24 6 v' ((kept (inP lo hi) fs n).length + 1) (flatF (kept (inP lo hi) fs n) ++ encF (fp, fq, fn, flo, fhi, fseq))) := hown4
        clear hown4 hnil hgrow
        go_wp2
        go_roundw
        case rel => exact ⟨n + 1, by omega, by go_num, hbC, by rw [HKE.out, List.length_append, flatF_append]; simpa [flatF] using OW4.out⟩
        case measure => simp [intOf]; omega
      · have q1 : flo < lo := by omega
        have q2 : ¬ hi < fhi := by omega
        have q3 : ¬ lo ≤ fhi := by omega
        have HKE : Hid ((kept (inP lo hi) fs (n + 1)) = (kept (inP lo hi) fs n)) := by
          show _ = _
          rw [hke, if_neg (by simp [inP, q1, q2, q3])]
        clear hke hal hbA
        go_wp2
        go_roundw
        case rel => exact ⟨n + 1, by omega, by go_num, hb, by rw [HKE.out]; exact OW.out⟩
        case measure => simp [intOf]; omega
      · have q1 : ¬ flo < lo := by omega
        have q2 : hi < fhi := by omega
        have q3 : flo ≤ hi := by omega
        have HKE : Hid ((kept (inP lo hi) fs (n + 1)) = (kept (inP lo hi) fs n) ++ [(fp, fq, fn, flo, fhi, fseq)]) := by
          show _ = _
          rw [hke, if_pos (by simp [inP, q1, q2, q3])]
        clear hke
        go_wp2_with (at_builtin; refine wpList_append_own _ rfl _ _ 22 rfl w.heap.size 24 i0 (.agg #[.string ⟨#[]⟩, .string ⟨#[]⟩, .int .i64 0, .int .i64 0, .int .i64 0, .int .i64 0]) 6 64 Tryz.underlying22 hi0 hz0 hs0 hby0 rfl (by decide) u7 (kept (inP lo hi) fs n).length (flatF (kept (inP lo hi) fs n)) rfl ?qc0 ⟨wr.heap.size, 0, none⟩ 1 1 (encF (fp, fq, fn, flo, fhi, fseq)) rfl ?qc1 ?qc2 ?qc3 ?qc4 ?qc5 ?qc6 ?_)
        case qc0 => exact own_below OW.out hal
        case qc1 => rfl
        case qc2 => first | exact cells6 _ _ | exact fun j u hu => hu
        case qc3 => exact encF_one _
        case qc4 => have := HKL.out; unfold maxLen; omega
        case qc5 => have := HKL.out; omega
        case qc6 => first | exact hbA.size | (have := hb.size; omega)
        intro v' w4 hown4 hgrow hnil
        have hbC : Below w.heap.size w w4 := hbA.grown hgrow hbA.size (fun k hk => by
          rcases OW.out.2 with ⟨e, _⟩ | ⟨g', cap', cur, e, hg', _⟩
          · rw [e] at hk; simp [Value.ownBlock] at hk
          · rw [e] at hk; simp [Value.ownBlock] at hk; omega)
        have OW4 : Hid (w4.ownsRow w.heap.size 24 6 v' ((kept (inP lo hi) fs n).length + 1) (flatF (kept (inP lo hi) fs n) ++ encF (fp, fq, fn, flo, fhi, fseq))) := hown4
        clear hown4 hnil hgrow
        go_wp2
        go_roundw
        case rel => exact ⟨n + 1, by omega, by go_num, hbC, by rw [HKE.out, List.length_append, flatF_append]; simpa [flatF] using OW4.out⟩
        case measure => simp [intOf]; omega
      · have q1 : ¬ flo < lo := by omega
        have q2 : hi < fhi := by omega
        have q3 : ¬ flo ≤ hi := by omega
        have HKE : Hid ((kept (inP lo hi) fs (n + 1)) = (kept (inP lo hi) fs n)) := by
          show _ = _
          rw [hke, if_neg (by simp [inP, q1, q2, q3])]
        clear hke hal hbA
        go_wp2
        go_roundw
        case rel => exact ⟨n + 1, by omega, by go_num, hb, by rw [HKE.out]; exact OW.out⟩
        case measure => simp [intOf]; omega
      · have q1 : ¬ flo < lo := by omega
        have q2 : ¬ hi < fhi := by omega
        have q3 : flo ≤ fhi := by omega
        have HKE : Hid ((kept (inP lo hi) fs (n + 1)) = (kept (inP lo hi) fs n) ++ [(fp, fq, fn, flo, fhi, fseq)]) := by
          show _ = _
          rw [hke, if_pos (by simp [inP, q1, q2, q3])]
        clear hke
        go_wp2_with (at_builtin; refine wpList_append_own _ rfl _ _ 22 rfl w.heap.size 24 i0 (.agg #[.string ⟨#[]⟩, .string ⟨#[]⟩, .int .i64 0, .int .i64 0, .int .i64 0, .int .i64 0]) 6 64 Tryz.underlying22 hi0 hz0 hs0 hby0 rfl (by decide) u7 (kept (inP lo hi) fs n).length (flatF (kept (inP lo hi) fs n)) rfl ?qc0 ⟨wr.heap.size, 0, none⟩ 1 1 (encF (fp, fq, fn, flo, fhi, fseq)) rfl ?qc1 ?qc2 ?qc3 ?qc4 ?qc5 ?qc6 ?_)
        case qc0 => exact own_below OW.out hal
        case qc1 => rfl
        case qc2 => first | exact cells6 _ _ | exact fun j u hu => hu
        case qc3 => exact encF_one _
        case qc4 => have := HKL.out; unfold maxLen; omega
        case qc5 => have := HKL.out; omega
        case qc6 => first | exact hbA.size | (have := hb.size; omega)
        intro v' w4 hown4 hgrow hnil
        have hbC : Below w.heap.size w w4 := hbA.grown hgrow hbA.size (fun k hk => by
          rcases OW.out.2 with ⟨e, _⟩ | ⟨g', cap', cur, e, hg', _⟩
          · rw [e] at hk; simp [Value.ownBlock] at hk
          · rw [e] at hk; simp [Value.ownBlock] at hk; omega)
        have OW4 : Hid (w4.ownsRow w.heap.size 24 6 v' ((kept (inP lo hi) fs n).length + 1) (flatF (kept (inP lo hi) fs n) ++ encF (fp, fq, fn, flo, fhi, fseq))) := hown4
        clear hown4 hnil hgrow
        go_wp2
        go_roundw
        case rel => exact ⟨n + 1, by omega, by go_num, hbC, by rw [HKE.out, List.length_append, flatF_append]; simpa [flatF] using OW4.out⟩
        case measure => simp [intOf]; omega
      · have q1 : ¬ flo < lo := by omega
        have q2 : ¬ hi < fhi := by omega
        have q3 : ¬ flo ≤ fhi := by omega
        have HKE : Hid ((kept (inP lo hi) fs (n + 1)) = (kept (inP lo hi) fs n)) := by
          show _ = _
          rw [hke, if_neg (by simp [inP, q1, q2, q3])]
        clear hke hal hbA
        go_wp2
        go_roundw
        case rel => exact ⟨n + 1, by omega, by go_num, hb, by rw [HKE.out]; exact OW.out⟩
        case measure => simp [intOf]; omega
    · obtain rfl : n = L := by omega
      have HKA : Hid (FlsAt wr u7 (fs.filter (inP lo hi))) := by
        have h' := (flsAt_of_own OW.out).1
        rw [← HX.out, kept_all] at h'
        exact h'
      go_wp2
      go_ret
      exact ⟨_, rfl, HKA.out, hb⟩
end Go.Proofs.YtpiagofhgalklacGreatDoor
namespace Go.Proofs.YtpiagofhgalklacGreatDoor
open Go.RowKit Go.Extern.Stop Go.Stop Go.Extern Go.Sort Go.Shelf Go.Lib

set_option maxRecDepth 100000 in
set_option maxHeartbeats 4000000 in
theorem sameFiles_yes (v v' : Value) (fs : List Fl) (w : World) (hx : FlsAt w v fs) (hy : FlsAt w v' fs) (hl : fs.length ≤ 20000) :
    Calls Tryz.prog 17 #[v, v'] w fun e w' => e = .returned (.bool true) ∧ Below w.heap.size w w' := by
  obtain ⟨q, cap, rfl⟩ := hx.form
  obtain ⟨q', cap', rfl⟩ := hy.form
  have HFX : Hid (FlsAt w (.slice q fs.length cap) fs) := hx
  have HFY : Hid (FlsAt w (.slice q' fs.length cap') fs) := hy
  obtain ⟨L, hL⟩ : ∃ L, fs.length = L := ⟨_, rfl⟩
  have HX : Hid (fs.length = L) := hL
  rw [hL] at hl ⊢
  clear hL hx hy
  go_enter Tryz.func17, Tryz.ntmps17
  go_wp2
  go_loopw [5] (fun k wr => ∃ n : Nat, n ≤ L ∧ k = .int .i64 n ∧ Below w.heap.size w wr) (fun k _ => L - (intOf k).toNat)
  case atStart => exact ⟨0, by omega, rfl, Below.refl _ _⟩
  case round =>
    obtain ⟨n, hn, rfl, hb⟩ := hrel
    by_cases hlt : n < L
    · have hltx : n < fs.length := by rw [HX.out]; exact hlt
      obtain ⟨b, o, hq, hc⟩ := (HFX.out.below hb).cells (fun e => by rw [e] at hltx; simp at hltx)
      obtain ⟨b', o', hq', hc'⟩ := (HFY.out.below hb).cells (fun e => by rw [e] at hltx; simp at hltx)
      subst hq hq'
      obtain ⟨c0, c1, c2, c3, c4, c5⟩ := hc n hltx
      obtain ⟨d0, d1, d2, d3, d4, d5⟩ := hc' n hltx
      generalize fs[n] = f at c0 c1 c2 c3 c4 c5 d0 d1 d2 d3 d4 d5
      have hnq := fun W => neqF f W
      have hgd : ∀ (bo : BinOp) (a b : Operand) (w : World), Sem.run Tryz.prog (eqGuard bo 24 a b (flV f) (flV f)) w = .ok () w := fun bo a b w => guardF bo a b f f w
      unfold flV at hnq hgd
      obtain ⟨fp, fq, fn, flo, fhi, fseq⟩ := f
      dsimp only at c0 c1 c2 c3 c4 c5 d0 d1 d2 d3 d4 d5 hnq hgd
      have hi : (n : Int) < (L : Int) := by omega
      have hi0' : (0 : Int) ≤ (n : Int) := by omega
      clear hc hc' hltx
      go_wp2
      go_quiet (fail)
      have hb2 : Below w.heap.size w (wr.drewN nq) := below_drewN hb nq
      generalize wr.drewN nq = wr2 at hb2 ⊢
      go_wp2
      go_roundw
      case rel => exact ⟨n + 1, by omega, by go_num, hb2⟩
      case measure => simp [intOf]; omega
    · obtain rfl : n = L := by omega
      go_wp2
      go_ret
      exact ⟨rfl, hb⟩

theorem listL_take (fs : List Fl) (n : Nat) (h : n < fs.length) : listL (fs.take (n + 1)) = listL (fs.take n) ++ (fileL fs[n] ++ [10]) := by
  have e := (List.take_append_getElem h).symm
  unfold listL
  rw [e, List.flatMap_append]
  simp only [List.flatMap_cons, List.flatMap_nil, List.append_nil]

theorem listL_len : ∀ fs : List Fl, (∀ f ∈ fs, fileE f = 0 ∧ f.1.size ≤ 100 ∧ f.2.1.size ≤ 100) → (listL fs).length ≤ 300 * fs.length
  | [], _ => by simp [listL]
  | f :: r, h => by
    have ih := listL_len r (fun g hg => h g (List.mem_cons_of_mem _ hg))
    obtain ⟨h0, h1, h2⟩ := h f List.mem_cons_self
    have := fl_len h0
    have e : listL (f :: r) = fileL f ++ 10 :: listL r := by simp [listL]
    rw [e, List.length_append, List.length_cons, List.length_cons]
    omega

set_option maxRecDepth 100000 in
set_option maxHeartbeats 4000000 in
theorem listText_any (v : Value) (fs : List Fl) (w : World) (hx : FlsAt w v fs) (hl : fs.length ≤ 1000) (hok : ∀ f ∈ fs, fileE f = 0 ∧ f.1.size ≤ 100 ∧ f.2.1.size ≤ 100) :
    Calls Tryz.prog 14 #[v] w fun e w' => e = .returned (.string (bytesOf (listL fs))) ∧ Below w.heap.size w w' := by
  obtain ⟨q, cap, rfl⟩ := hx.form
  have HFX : Hid (FlsAt w (.slice q fs.length cap) fs) := hx
  have HOK : Hid (∀ f ∈ fs, fileE f = 0 ∧ f.1.size ≤ 100 ∧ f.2.1.size ≤ 100) := hok
  obtain ⟨L, hL⟩ : ∃ L, fs.length = L := ⟨_, rfl⟩
  have HX : Hid (fs.length = L) := hL
  rw [hL] at hl ⊢
  clear hL hx hok
  go_enter Tryz.func14, Tryz.ntmps14
  go_wp2
  go_loopw [3, 4] (fun s k wr => ∃ n : Nat, n ≤ L ∧ s = .string (bytesOf (listL (fs.take n))) ∧ k = .int .i64 n ∧ Below w.heap.size w wr) (fun _ k _ => L - (intOf k).toNat)
  case atStart => exact ⟨0, by omega, rfl, rfl, Below.refl _ _⟩
  case round =>
    obtain ⟨n, hn, rfl, rfl, hb⟩ := hrel
    by_cases hlt : n < L
    · have hltx : n < fs.length := by rw [HX.out]; exact hlt
      obtain ⟨b, o, hq, hc⟩ := (HFX.out.below hb).cells (fun e => by rw [e] at hltx; simp at hltx)
      subst hq
      obtain ⟨c0, c1, c2, c3, c4, c5⟩ := hc n hltx
      obtain ⟨k0, k1, k2⟩ := HOK.out fs[n] (List.getElem_mem _)
      have htx := fileText_any fs[n] wr (by omega) (by omega)
      have hfb : fileB fs[n] = bytesOf (fileL fs[n]) := by unfold fileB; rw [if_pos k0]
      have hfl := fl_len k0
      have hln := listL_len (fs.take n) (fun f hf => HOK.out f (List.mem_of_mem_take hf))
      rw [List.length_take] at hln
      have hsn : (bytesOf (listL (fs.take n))).size ≤ 300000 := by rw [bytes_len]; omega
      have hsf : (bytesOf (fileL fs[n])).size ≤ 300 := by rw [bytes_len]; omega
      have HT : Hid (bytesOf (listL (fs.take n)) ++ bytesOf (fileL fs[n]) ++ ⟨#[10]⟩ = bytesOf (listL (fs.take (n + 1)))) := by
        show _ = _
        rw [listL_take fs n hltx]
        apply part_ext
        simp [bytesOf, ByteArray.data_append]
      rw [hfb] at htx
      generalize bytesOf (fileL fs[n]) = tx at htx HT hsf
      generalize bytesOf (listL (fs.take n)) = ts at HT hsn ⊢
      unfold flV at htx
      generalize fs[n] = f at c0 c1 c2 c3 c4 c5 htx
      obtain ⟨fp, fq, fn, flo, fhi, fseq⟩ := f
      dsimp only at c0 c1 c2 c3 c4 c5 htx
      have hi : (n : Int) < (L : Int) := by omega
      have hi0' : (0 : Int) ≤ (n : Int) := by omega
      have n1 : ¬ 9223372036854775807 < ts.size + tx.size := by omega
      have n2 : ¬ 9223372036854775807 < ts.size + tx.size + 1 := by omega
      have m1 : ¬ 9223372036854775806 < ts.size + tx.size := by omega
      clear hc hltx hln hfl hfb k0 k1 k2
      go_wp2_with fail
      refine htx.mono ?_
      rintro e w3 ⟨rfl, hb3⟩
      clear htx
      have hb4 : Below w.heap.size w w3 := hb.trans (hb3.mono hb.size)
      go_wp2
      go_roundw
      case rel => exact ⟨n + 1, by omega, congrArg Value.string HT.out, by go_num, hb4⟩
      case measure => simp [intOf]; omega
    · obtain rfl : n = L := by omega
      have hta : fs.take n = fs := List.take_of_length_le (by rw [HX.out]; exact Nat.le_refl _)
      rw [hta]
      clear hta
      go_wp2
      go_ret
      exact ⟨rfl, hb⟩
end Go.Proofs.YtpiagofhgalklacGreatDoor
namespace Go.Proofs.YtpiagofhgalklacGreatDoor
open Go.RowKit Go.Extern.Stop Go.Stop Go.Extern Go.Sort Go.Shelf Go.Lib

/-- A place as a number (-1: nowhere). -/
def atZ : Option Nat → Int
  | some i => i
  | none => -1

/-- The place of the file ahead. -/
def ahead (fs : List Fl) : Nat → Int
  | 0 => 0
  | n + 1 => match fs[n]? with
    | some f => fk f
    | none => 0

theorem ahead_succ {fs : List Fl} {n : Nat} (h : n < fs.length) : ahead fs (n + 1) = fk fs[n] := by
  show (match fs[n]? with
    | some f => fk f
    | none => 0) = _
  rw [List.getElem?_eq_getElem h]

/-- The files from the n-th on are as good as all. -/
def LeftG (fs : List Fl) (n : Nat) : Prop := lstG 0 fs 0 = lstG (ahead fs n) (fs.drop n) n

theorem left_zero (fs : List Fl) : LeftG fs 0 := rfl
theorem left_bad {fs : List Fl} {n : Nat} (h : LeftG fs n) (hn : n < fs.length) (he : fileE fs[n] ≠ 0) : lstG 0 fs 0 = (fileE fs[n], some n) := by
  unfold LeftG at h
  rw [h, List.drop_eq_getElem_cons hn]
  unfold lstG
  rw [if_pos he]
theorem left_order {fs : List Fl} {n : Nat} (h : LeftG fs n) (hn : n < fs.length) (he : fileE fs[n] = 0) (ho : fk fs[n] ≤ ahead fs n) : lstG 0 fs 0 = (9, some n) := by
  unfold LeftG at h
  rw [h, List.drop_eq_getElem_cons hn]
  unfold lstG
  rw [if_neg (by simp [he]), if_pos ho]
theorem left_succ {fs : List Fl} {n : Nat} (h : LeftG fs n) (hn : n < fs.length) (he : fileE fs[n] = 0) (ho : ahead fs n < fk fs[n]) : LeftG fs (n + 1) := by
  unfold LeftG at h ⊢
  rw [h, ahead_succ hn]
  conv => lhs; rw [List.drop_eq_getElem_cons hn]
  conv => lhs; unfold lstG
  rw [if_neg (by simp [he]), if_neg (by omega)]
theorem left_all {fs : List Fl} (h : LeftG fs fs.length) : lstG 0 fs 0 = (0, none) := by
  unfold LeftG at h
  rw [h, List.drop_length]
  rfl

set_option maxRecDepth 100000 in
set_option maxHeartbeats 8000000 in
theorem listFault_any (v : Value) (fs : List Fl) (w : World) (hx : FlsAt w v fs) (hl : fs.length ≤ 20000) (hsz : ∀ f ∈ fs, f.1.size ≤ 100000 ∧ f.2.1.size ≤ 100000) :
    Calls Tryz.prog 10 #[v] w fun e w' => e = .returned (.agg #[.int .i64 (listE fs).1, .int .i64 (atZ (listE fs).2)]) ∧ Below w.heap.size w w' := by
  obtain ⟨q, cap, rfl⟩ := hx.form
  have HFX : Hid (FlsAt w (.slice q fs.length cap) fs) := hx
  have HSZ : Hid (∀ f ∈ fs, f.1.size ≤ 100000 ∧ f.2.1.size ≤ 100000) := hsz
  obtain ⟨L, hL⟩ : ∃ L, fs.length = L := ⟨_, rfl⟩
  have HX : Hid (fs.length = L) := hL
  rw [hL] at hl ⊢
  have hf0 := FC.new w
  have hal : Below w.heap.size w (w.alloc (.cells #[.int .i64 0, .int .i64 0] 30)) := (Below.refl _ _).alloc (Nat.le_refl _) _
  generalize hR : listE fs = R
  have HR : Hid (listE fs = R) := hR
  clear hL hx hsz hR
  by_cases hbig : 60 < L
  · have hRR : R = (8, none) := by rw [← HR.out]; unfold listE; rw [if_pos (by rw [HX.out]; exact hbig)]
    subst hRR
    have hi : (60 : Int) < (L : Int) := by omega
    have hbr := bare_of 8 (w.alloc (.cells #[.int .i64 0, .int .i64 0] 30))
    go_enter Tryz.func10, Tryz.ntmps10
    go_wp2_with fail
    generalize w.alloc (.cells #[.int .i64 0, .int .i64 0] 30) = WA at hbr hf0 hal ⊢
    refine hbr.mono ?_
    rintro e w1 ⟨rfl, hb1⟩
    clear hbr
    have hf1 := hf0.below hb1
    have hB1 : Below w.heap.size w w1 := hal.trans (hb1.mono hal.size)
    have j0 := hf1.c0
    have j1 := hf1.c1
    have jz := hf1.fz
    clear hf0 hal hb1
    go_wp2
    refine bodyPost_ret (v := .agg #[.int .i64 8, .int .i64 (-1)]) (by simp [results, Tryz.results10, go_sem, j0, j1]) rfl ⟨rfl, ?_⟩
    exact (hB1.setCell (Nat.le_refl _) _).setCell (Nat.le_refl _) _
  · have HRR : Hid (R = lstG 0 fs 0) := by
      show _ = _
      rw [← HR.out]; unfold listE; rw [if_neg (by rw [HX.out]; exact hbig)]
    have hi : ¬ (60 : Int) < (L : Int) := by omega
    clear HR
    go_enter Tryz.func10, Tryz.ntmps10
    go_wp2
    generalize w.alloc (.cells #[.int .i64 0, .int .i64 0] 30) = WA at hf0 hal ⊢
    go_loopw [3] (fun k wr => ∃ n : Nat, n ≤ L ∧ k = .int .i64 n ∧ LeftG fs n ∧ Below w.heap.size w wr ∧ FC wr w.heap.size 0 0) (fun k _ => L - (intOf k).toNat)
    case atStart => exact ⟨0, by omega, rfl, left_zero fs, hal, hf0⟩
    case round =>
      clear hf0 hal
      obtain ⟨n, hn, rfl, hlg, hb, hfc⟩ := hrel
      have HLG : Hid (LeftG fs n) := hlg
      have HFC : Hid (FC wr w.heap.size 0 0) := hfc
      clear hlg hfc
      by_cases hlt : n < L
      · have hltx : n < fs.length := by rw [HX.out]; exact hlt
        obtain ⟨b, o, hq, hc⟩ := (HFX.out.below hb).cells (fun e => by rw [e] at hltx; simp at hltx)
        subst hq
        have HC : Hid (FlCells wr b o fs) := hc
        obtain ⟨c0, c1, c2, c3, c4, c5⟩ := hc n hltx
        obtain ⟨k1, k2⟩ := HSZ.out fs[n] (List.getElem_mem _)
        have hfe := fileError_any fs[n] wr k1 k2
        have hbad := fun e => left_bad HLG.out hltx e
        have hord := fun e o => left_order HLG.out hltx e o
        have hnxt := fun e o => left_succ HLG.out hltx e o
        have hkp : fileE fs[n] = 0 → 0 < fk fs[n] := fun e => fk_pos e
        unfold flV at hfe
        have HFN : Hid (fk fs[n] = pk fs[n].1.data.toList) := rfl
        generalize fileE fs[n] = E at hfe hbad hord hnxt hkp
        generalize fk fs[n] = Z at hord hnxt hkp HFN
        generalize fs[n] = f at c0 c1 c2 c3 c4 c5 hfe HFN k1
        obtain ⟨fp, fq, fn, flo, fhi, fseq⟩ := f
        dsimp only at c0 c1 c2 c3 c4 c5 hfe HFN k1
        have hiL : (n : Int) < (L : Int) := by omega
        have hi0' : (0 : Int) ≤ (n : Int) := by omega
        clear hc
        go_wp2_with fail
        refine hfe.mono ?_
        rintro e w3 ⟨rfl, hb3⟩
        have c0' := below_keep hb3 c0
        clear hfe c0 c1 c2 c3 c4 c5
        have hb4 : Below w.heap.size w w3 := hb.trans (hb3.mono hb.size)
        have hfc3 := HFC.out.below hb3
        have j0 := hfc3.c0
        have j1 := hfc3.c1
        have jz := hfc3.fz
        by_cases hE : E = 0
        · subst hE
          have hk0 := hkp rfl
          replace hord := hord rfl
          replace hnxt := hnxt rfl
          clear hkp hbad
          cases n with
          | zero =>
            have hno : ahead fs 0 < Z := hk0
            have HNX : Hid (LeftG fs (0 + 1)) := hnxt hno
            have HF3 : Hid (FC w3 w.heap.size 0 0) := hfc3
            clear hord hnxt hno hfc3 j0 j1 jz c0'
            go_wp2
            go_roundw
            case rel => exact ⟨0 + 1, by omega, by go_num, HNX.out, hb4, HF3.out⟩
            case measure => simp [intOf]; omega
          | succ m =>
            have hmx : m < fs.length := by omega
            have hah := ahead_succ hmx
            have g0 := ((HC.out.below hb3) m hmx).1
            have hks := (HSZ.out fs[m] (List.getElem_mem _)).1
            have hib := fun W => isBehind_any fp fs[m].1 W k1 hks
            have HAZ : Hid (ahead fs (m + 1) = pk fs[m].1.data.toList) := hah
            rw [← HAZ.out, ← HFN.out] at hib
            generalize fs[m].1 = gp at g0 hib
            generalize ahead fs (m + 1) = Y at hord hnxt hib
            have r1 : (0 : Int) < (m : Int) + 1 := by omega
            have r2 : (m : Int) < (L : Int) := by omega
            have r3 : (m : Int) + 1 < (L : Int) := by omega
            have r4 : (0 : Int) ≤ (m : Int) := by omega
            have r5 : (0 : Int) ≤ (m : Int) + 1 := by omega
            have r6 : IntKind.i64.wrap (m : Int) = (m : Int) := IntWalk.i64_in _ (by omega)
            clear hiL hi0'
            have hbs : Below w3.heap.size w3 w3 := Below.refl _ _
            have hbd : Below w3.heap.size w3 w3.drew := hbs.drew
            have hfd := hfc3.below hbd
            have HFD : Hid (FC w3.drew w.heap.size 0 0) := hfd
            have hBd : Below w.heap.size w w3.drew := hb4.drew
            clear HAZ HFN hah hmx k2 hltx hks hfc3
            go_wp2_with fail
            go_region_held3 (fun w' => w'.cell? ⟨b, o + (m + 1) * 6, none⟩ = some (.string fp) ∧ w'.cell? ⟨b, o + m * 6, none⟩ = some (.string gp) ∧ Below w3.heap.size w3 w')
              (first
                | (go_split_ands; with_reducible exact ⟨below_keep hbd c0', below_keep hbd g0, hbd⟩)
                | (go_split_ands; exact ⟨by assumption, by assumption, by assumption⟩))
              (first
                | (go_at_call 42; with_reducible refine (hib _).mono ?_; rintro e wX ⟨rfl, rfl⟩))
            go_split_ands
            by_cases ho : Z ≤ Y
            · have hd : decide (Y < Z) = false := decide_eq_false (by omega)
              rw [hd]
              have hRR : R = (9, some (m + 1)) := HRR.out.trans (hord ho)
              subst hRR
              clear hord hnxt hib ho hd
              go_wp2
              refine bodyPost_ret (v := .agg #[.int .i64 9, .int .i64 ((m + 1 : Nat) : Int)]) (by simp [results, Tryz.results10, go_sem, j0, j1]) rfl ⟨rfl, ?_⟩
              exact (hBd.setCell (Nat.le_refl _) _).setCell (Nat.le_refl _) _
            · have hd : decide (Y < Z) = true := decide_eq_true (by omega)
              rw [hd]
              have HNX : Hid (LeftG fs (m + 1 + 1)) := hnxt (by omega)
              clear hord hnxt hib ho hd j0 j1 jz
              go_wp2
              go_roundw
              case rel => exact ⟨m + 1 + 1, by omega, by go_num, HNX.out, hBd, HFD.out⟩
              case measure => simp [intOf]; omega
        · have hEp : (0 : Int) < (E : Int) := by omega
          have hE0 : ¬ (E : Int) = 0 := by omega
          have hRR : R = (E, some n) := HRR.out.trans (hbad hE)
          subst hRR
          clear hbad hord hnxt hkp hE hfc3
          go_wp2
          refine bodyPost_ret (v := .agg #[.int .i64 E, .int .i64 n]) (by simp [results, Tryz.results10, go_sem, j0, j1]) rfl ⟨rfl, ?_⟩
          exact (hb4.setCell (Nat.le_refl _) _).setCell (Nat.le_refl _) _
      · obtain rfl : n = L := by omega
        have hRR : R = (0, none) := HRR.out.trans (left_all (by rw [HX.out]; exact HLG.out))
        subst hRR
        have hfi := fine_of wr
        go_wp2_with fail
        refine hfi.mono ?_
        rintro e w3 ⟨rfl, hb3⟩
        clear hfi
        have hb4 : Below w.heap.size w w3 := hb.trans (hb3.mono hb.size)
        have hfc3 := HFC.out.below hb3
        have j0 := hfc3.c0
        have j1 := hfc3.c1
        have jz := hfc3.fz
        go_wp2
        refine bodyPost_ret (v := .agg #[.int .i64 0, .int .i64 (-1)]) (by simp [results, Tryz.results10, go_sem, j0, j1]) rfl ⟨rfl, ?_⟩
        exact (hb4.setCell (Nat.le_refl _) _).setCell (Nat.le_refl _) _
end Go.Proofs.YtpiagofhgalklacGreatDoor
namespace Go.Proofs.YtpiagofhgalklacGreatDoor
open Go.RowKit Go.Extern.Stop Go.Stop Go.Extern Go.Sort Go.Shelf Go.Lib

theorem src_fls {w : World} {q : Option Addr} {n c : Nat} {fs : List Fl} (h : FlsAt w (.slice q n c) fs) : Src w q n c (flatF fs) := by
  rcases h with ⟨p, c', e, hp, rfl⟩ | ⟨b, o, cap, e, hl, hc⟩
  · simp only [Value.slice.injEq] at e
    obtain ⟨rfl, rfl, rfl⟩ := e
    exact Or.inl ⟨rfl, hp⟩
  · simp only [Value.slice.injEq] at e
    obtain ⟨rfl, rfl, rfl⟩ := e
    exact Or.inr ⟨b, o, rfl, cellsF_flat hc⟩

theorem flCells_take {w : World} {b o : Nat} {fs : List Fl} (h : FlCells w b o fs) (n : Nat) : FlCells w b o (fs.take n) := fun j hj => by
  rw [List.length_take] at hj
  have := h j (by omega)
  rw [List.getElem_take]
  exact this
theorem flCells_drop {w : World} {b o : Nat} {fs : List Fl} (h : FlCells w b o fs) (n : Nat) : FlCells w b (o + n * 6) (fs.drop n) := fun j hj => by
  rw [List.length_drop] at hj
  have := h (n + j) (by omega)
  rw [List.getElem_drop]
  have e : o + n * 6 + j * 6 = o + (n + j) * 6 := by omega
  rw [e]
  exact this

theorem place_at {fs : List Fl} {f : Fl} {n : Nat} (hn : n ≤ fs.length) (h1 : ∀ j (h : j < fs.length), j < n → fk fs[j] < fk f) (h2 : ∀ h : n < fs.length, ¬ fk fs[n] < fk f) : placeL fs f = fs.take n ++ f :: fs.drop n := by
  have hx : ∀ g ∈ fs.take n, fk g < fk f := fun g hg => by
    obtain ⟨a, ha, rfl⟩ := List.mem_iff_getElem.1 hg
    rw [List.length_take] at ha
    rw [List.getElem_take]
    exact h1 a (by omega) (by omega)
  have hs : fs = fs.take n ++ fs.drop n := (List.take_append_drop n fs).symm
  have ht : fs.takeWhile (fun g => decide (fk g < fk f)) = fs.take n := by
    conv => lhs; rw [hs]
    rw [List.takeWhile_append_of_pos (fun g hg => by simpa using hx g hg)]
    rcases Nat.lt_or_ge n fs.length with h | h
    · rw [List.drop_eq_getElem_cons h, List.takeWhile_cons_of_neg (by simpa using h2 h), List.append_nil]
    · rw [List.drop_of_length_le h]; simp
  have hd : fs.dropWhile (fun g => decide (fk g < fk f)) = fs.drop n := by
    conv => lhs; rw [hs]
    rw [List.dropWhile_append_of_pos (fun g hg => by simpa using hx g hg)]
    rcases Nat.lt_or_ge n fs.length with h | h
    · rw [List.drop_eq_getElem_cons h, List.dropWhile_cons_of_neg (by simpa using h2 h)]
    · rw [List.drop_of_length_le h]; simp
  unfold placeL
  rw [ht, hd]

set_option maxRecDepth 100000 in
set_option maxHeartbeats 2000000 in
theorem ownFiles_any (v : Value) (fs : List Fl) (w : World) (hx : FlsAt w v fs) (hl : fs.length ≤ 1000) :
    Calls Tryz.prog 9 #[v] w fun e w' => ∃ v', e = .returned v' ∧ w'.ownsRow w.heap.size 24 6 v' fs.length (flatF fs) ∧ Below w.heap.size w w' := by
  obtain ⟨i0, hi0, hz0, hs0, hby0⟩ := Tryz.fileInfo
  obtain ⟨q, cap, rfl⟩ := hx.form
  have HSR : Hid (Src w q fs.length cap (flatF fs)) := src_fls hx
  obtain ⟨L, hL⟩ : ∃ L, fs.length = L := ⟨_, rfl⟩
  have HX : Hid (fs.length = L) := hL
  rw [hL] at hl ⊢
  clear hL hx
  go_enter Tryz.func9, Tryz.ntmps9
  go_wp2_with (at_builtin; (refine wpList_append_src rfl _ _ 22 rfl w.heap.size 24 i0 (.agg #[.string ⟨#[]⟩, .string ⟨#[]⟩, .int .i64 0, .int .i64 0, .int .i64 0, .int .i64 0]) 6 64 Tryz.underlying22 hi0 hz0 hs0 hby0 rfl (by decide) (.slice none 0 0) 0 [] rfl (World.ownsRow_nil _ _ _ _) q L cap (flatF fs) rfl ?qf1 ?qf2 ?qf3 ?qf4 ?qf5 ?qf6 ?_))
  any_goals first
    | exact flatF_one fs
    | (rw [flatF_len, HX.out])
    | (have h' := HSR.out; rw [HX.out] at h'; exact h')
    | (unfold maxLen; omega)
    | omega
    | exact Nat.le_refl _
  intro v3 w3 ho3 hg3 _
  have hb3 : Below w.heap.size w w3 := (Below.refl _ _).grown hg3 (Nat.le_refl _) (fun k hk => by simp [Value.ownBlock] at hk)
  have OW : Hid (w3.ownsRow w.heap.size 24 6 v3 L (flatF fs)) := by
    show w3.ownsRow _ _ _ _ _ _
    simpa using ho3
  clear ho3 hg3
  go_wp2
  go_ret
  exact ⟨v3, rfl, OW.out, hb3⟩
end Go.Proofs.YtpiagofhgalklacGreatDoor
namespace Go.Proofs.YtpiagofhgalklacGreatDoor
open Go.RowKit Go.Extern.Stop Go.Stop Go.Extern Go.Sort Go.Shelf Go.Lib

theorem low_succ {fs : List Fl} {z : Int} {n : Nat} (h : ∀ j (h : j < fs.length), j < n → fk fs[j] < z) (hn : n < fs.length) (e : fk fs[n] < z) : ∀ j (h : j < fs.length), j < n + 1 → fk fs[j] < z := fun j hj hjn => by
  rcases Nat.lt_or_ge j n with h' | h'
  · exact h j hj h'
  · obtain rfl : j = n := by omega
    exact e

set_option maxRecDepth 100000 in
set_option maxHeartbeats 8000000 in
theorem placed_any (v : Value) (fs : List Fl) (f : Fl) (w : World) (hx : FlsAt w v fs) (hl : fs.length ≤ 1000) (hsz : ∀ g ∈ fs, g.1.size ≤ 100000) (hf : f.1.size ≤ 100000) :
    Calls Tryz.prog 59 #[v, flV f] w fun e w' => ∃ v', e = .returned v' ∧ FlsAt w' v' (placeL fs f) ∧ Below w.heap.size w w' := by
  obtain ⟨i0, hi0, hz0, hs0, hby0⟩ := Tryz.fileInfo
  obtain ⟨q, cap, rfl⟩ := hx.form
  have HFX : Hid (FlsAt w (.slice q fs.length cap) fs) := hx
  have HSZ : Hid (∀ g ∈ fs, g.1.size ≤ 100000) := hsz
  obtain ⟨L, hL⟩ : ∃ L, fs.length = L := ⟨_, rfl⟩
  have HX : Hid (fs.length = L) := hL
  rw [hL] at hl ⊢
  obtain ⟨FK, hFK⟩ : ∃ z, fk f = z := ⟨_, rfl⟩
  have HFK : Hid (fk f = FK) := hFK
  have HPF : Hid (pk f.1.data.toList = FK) := hFK
  have HPL : Hid (∀ n, n ≤ fs.length → (∀ j (h : j < fs.length), j < n → fk fs[j] < FK) → (∀ h : n < fs.length, ¬ fk fs[n] < FK) → placeL fs f = fs.take n ++ f :: fs.drop n) := fun n h1 h2 h3 => place_at h1 (by rw [hFK]; exact h2) (by rw [hFK]; exact h3)
  have HLA : Hid (FlAt (w.alloc (.cells #[.string f.1, .string f.2.1, .int .i64 f.2.2.1, .int .i64 f.2.2.2.1, .int .i64 f.2.2.2.2.1, .int .i64 f.2.2.2.2.2] 24)) w.heap.size f) := FlAt.new w f
  have hal : Below w.heap.size w (w.alloc (.cells #[.string f.1, .string f.2.1, .int .i64 f.2.2.1, .int .i64 f.2.2.2.1, .int .i64 f.2.2.2.2.1, .int .i64 f.2.2.2.2.2] 24)) := (Below.refl _ _).alloc (Nat.le_refl _) _
  clear hL hx hsz hFK
  unfold flV
  obtain ⟨P, hP⟩ : ∃ P, placeL fs f = P := ⟨_, rfl⟩
  rw [hP]
  rw [hP] at HPL
  clear hP
  obtain ⟨fp, fq, fn, flo, fhi, fseq⟩ := f
  dsimp only at HLA hal hf HPF HPL ⊢
  go_enter Tryz.func59, Tryz.ntmps59
  go_upto_block 0 with fail
  generalize w.alloc (.cells #[.string fp, .string fq, .int .i64 fn, .int .i64 flo, .int .i64 fhi, .int .i64 fseq] 24) = WA at HLA hal ⊢
  go_cut [5, 6] from 8 to 23 (fun k _ wx => ∃ n : Nat, n ≤ L ∧ k = .int .i64 n ∧ (∀ j (h : j < fs.length), j < n → fk fs[j] < FK) ∧ (∀ h : n < fs.length, ¬ fk fs[n] < FK) ∧ Below w.heap.size w wx ∧ FlAt wx w.heap.size (fp, fq, fn, flo, fhi, fseq))
  case first =>
    go_wp2_with fail
    go_loopw [5, 6] (fun k _ wr => ∃ n : Nat, n ≤ L ∧ k = .int .i64 n ∧ (∀ j (h : j < fs.length), j < n → fk fs[j] < FK) ∧ Below w.heap.size w wr ∧ FlAt wr w.heap.size (fp, fq, fn, flo, fhi, fseq)) (fun k _ _ => L - (intOf k).toNat)
    case atStart => exact ⟨0, by omega, rfl, fun j h h' => absurd h' (Nat.not_lt_zero _), hal, HLA.out⟩
    case round =>
      clear HLA hal
      obtain ⟨n, hn, rfl, hlow, hb, hfl⟩ := hrel
      have HLO : Hid (∀ j (h : j < fs.length), j < n → fk fs[j] < FK) := hlow
      have HFL : Hid (FlAt wr w.heap.size (fp, fq, fn, flo, fhi, fseq)) := hfl
      clear hlow
      by_cases hlt : n < L
      · have hltx : n < fs.length := by rw [HX.out]; exact hlt
        obtain ⟨b, o, hq, hc⟩ := (HFX.out.below hb).cells (fun e => by rw [e] at hltx; simp at hltx)
        subst hq
        have c0 := (hc n hltx).1
        have z0 := hfl.cells.1
        dsimp only at z0
        have hib := fun W => isBehind_any fp fs[n].1 W hf (HSZ.out fs[n] (List.getElem_mem _))
        rw [HPF.out] at hib
        have hib' : ∀ W, Calls Tryz.prog 42 #[.string fp, .string fs[n].1] W fun e w' => e = .returned (.bool (decide (fk fs[n] < FK))) ∧ w' = W := hib
        have hnx := fun e => low_succ HLO.out hltx e
        obtain ⟨Z, hZ⟩ : ∃ z, fk fs[n] = z := ⟨_, rfl⟩
        have HZ : Hid (fk fs[n] = Z) := hZ
        rw [hZ] at hib' hnx
        clear hc hib hZ
        generalize fs[n].1 = gp at c0 hib'
        have hiL : (n : Int) < (L : Int) := by omega
        have hi0' : (0 : Int) ≤ (n : Int) := by omega
        have hbs : Below wr.heap.size wr wr := Below.refl _ _
        have hbd : Below wr.heap.size wr wr.drew := hbs.drew
        have hBd : Below w.heap.size w wr.drew := hb.drew
        have HFD : Hid (FlAt wr.drew w.heap.size (fp, fq, fn, flo, fhi, fseq)) := hfl.below hbd
        clear hfl
        go_wp2_with fail
        go_region_held3 (fun w' => w'.cell? ⟨b, o + n * 6, none⟩ = some (.string gp) ∧ w'.cell? ⟨w.heap.size, 0, none⟩ = some (.string fp) ∧ Below wr.heap.size wr w')
          (first
            | (go_split_ands; with_reducible exact ⟨below_keep hbd c0, below_keep hbd z0, hbd⟩)
            | (go_split_ands; exact ⟨by assumption, by assumption, by assumption⟩))
          (first
            | (go_at_call 42; with_reducible refine (hib' _).mono ?_; rintro e wX ⟨rfl, rfl⟩))
        go_split_ands
        by_cases ho : Z < FK
        · have hd : decide (Z < FK) = true := decide_eq_true ho
          rw [hd]
          have HNX : Hid (∀ j (h : j < fs.length), j < n + 1 → fk fs[j] < FK) := hnx ho
          clear hib' hnx
          go_wp2
          go_roundw
          case rel => exact ⟨n + 1, by omega, by go_num, HNX.out, hBd, HFD.out⟩
          case measure => simp [intOf]; omega
        · have hd : decide (Z < FK) = false := decide_eq_false ho
          rw [hd]
          have HN2 : Hid (∀ h : n < fs.length, ¬ fk fs[n] < FK) := fun _ => by rw [HZ.out]; exact ho
          clear hib' hnx
          go_wp2
          go_meet
          case rel => exact ⟨n, by omega, rfl, HLO.out, HN2.out, hBd, HFD.out⟩
      · obtain rfl : n = L := by omega
        have HN2 : Hid (∀ h : n < fs.length, ¬ fk fs[n] < FK) := fun h => absurd h (by rw [HX.out]; exact Nat.lt_irrefl _)
        go_wp2
        go_meet
        case rel => exact ⟨n, by omega, rfl, HLO.out, HN2.out, hb, HFL.out⟩
  case rest =>
    obtain ⟨n, hn, rfl, hlow, hhi, hb, hfl⟩ := hcut
    have HPP : Hid (P = fs.take n ++ (fp, fq, fn, flo, fhi, fseq) :: fs.drop n) := HPL.out n (by rw [HX.out]; exact hn) hlow hhi
    have HFL : Hid (FlAt wc w.heap.size (fp, fq, fn, flo, fhi, fseq)) := hfl
    clear hlow hhi hfl HPL HLA hal
    have hvq : (q = none ∧ L = 0 ∧ cap = 0) ∨ (∃ ad, q = some ad ∧ L = 0) ∨ ∃ b o, q = some ⟨b, o, none⟩ ∧ L ≤ cap ∧ FlCells w b o fs := by
      have h := HFX.out
      rcases h with ⟨p, c', e, hp, he⟩ | ⟨b, o, c', e, hl', hc⟩
      · simp only [Value.slice.injEq] at e
        obtain ⟨rfl, h0, rfl⟩ := e
        rw [HX.out] at h0
        cases q with
        | none => exact Or.inl ⟨rfl, h0, hp rfl⟩
        | some ad => exact Or.inr (Or.inl ⟨ad, rfl, h0⟩)
      · simp only [Value.slice.injEq] at e
        obtain ⟨rfl, _, rfl⟩ := e
        exact Or.inr (Or.inr ⟨b, o, rfl, by rw [← HX.out]; exact hl', hc⟩)
    rcases hvq with ⟨rfl, rfl, rfl⟩ | ⟨ad, rfl, rfl⟩ | ⟨b, o, rfl, hcap, hcs⟩
    · obtain rfl : n = 0 := by omega
      go_wp2_with (at_builtin; (refine wpList_append_src rfl _ _ 22 rfl w.heap.size 24 i0 (.agg #[.string ⟨#[]⟩, .string ⟨#[]⟩, .int .i64 0, .int .i64 0, .int .i64 0, .int .i64 0]) 6 64 Tryz.underlying22 hi0 hz0 hs0 hby0 rfl (by decide) (.slice none 0 0) 0 [] rfl ?a0 _ _ _ (flatF (fs.take 0)) rfl ?a1 ?a2 ?a3 ?a4 ?a5 ?a6 ?_))
      case a0 => exact World.ownsRow_nil _ _ _ _
      case a1 => have h := HX.out; rw [flatF_len]; simp
      case a2 => exact Or.inl ⟨rfl, fun _ => rfl⟩
      case a3 => exact flatF_one _
      case a4 => unfold maxLen; omega
      case a5 => omega
      case a6 => exact hb.size
      intro v1 y1 ho1 hg1 _
      have hb1 : Below w.heap.size w y1 := hb.grown hg1 hb.size (fun k hk => by simp [Value.ownBlock] at hk)
      have hk1 : Below wc.heap.size wc y1 := (Below.refl _ _).grown hg1 (Nat.le_refl _) (fun k hk => by simp [Value.ownBlock] at hk)
      have OW1 : Hid (y1.ownsRow w.heap.size 24 6 v1 0 (flatF (fs.take 0))) := by
        show y1.ownsRow _ _ _ _ _ _
        simpa using ho1
      obtain ⟨z0, z1, z2, z3, z4, z5, -⟩ := (HFL.out.below hk1).cells
      dsimp only at z0 z1 z2 z3 z4 z5
      clear ho1 hg1
      have hal1 : Below y1.heap.size y1 (y1.alloc (.cells #[.string fp, .string fq, .int .i64 fn, .int .i64 flo, .int .i64 fhi, .int .i64 fseq] 24)) := (Below.refl _ _).alloc (Nat.le_refl _) _
      have hba1 : Below w.heap.size w (y1.alloc (.cells #[.string fp, .string fq, .int .i64 fn, .int .i64 flo, .int .i64 fhi, .int .i64 fseq] 24)) := hb1.alloc hb1.size _
      go_wp2_with (at_builtin; refine wpList_append_own _ rfl _ _ 22 rfl w.heap.size 24 i0 (.agg #[.string ⟨#[]⟩, .string ⟨#[]⟩, .int .i64 0, .int .i64 0, .int .i64 0, .int .i64 0]) 6 64 Tryz.underlying22 hi0 hz0 hs0 hby0 rfl (by decide) v1 0 (flatF (fs.take 0)) rfl ?qc0 ⟨y1.heap.size, 0, none⟩ 1 1 (encF (fp, fq, fn, flo, fhi, fseq)) rfl ?qc1 ?qc2 ?qc3 ?qc4 ?qc5 ?qc6 ?_)
      case qc0 => exact own_below OW1.out hal1
      case qc1 => rfl
      case qc2 => first | exact cells6 _ _ | exact fun j u hu => hu
      case qc3 => exact encF_one _
      case qc4 => unfold maxLen; omega
      case qc5 => omega
      case qc6 => first | exact hba1.size | (have := hb1.size; omega)
      intro v2 y2 ho2 hg2 _
      have hb2 : Below w.heap.size w y2 := hba1.grown hg2 hba1.size (fun k hk => by
        rcases OW1.out.2 with ⟨e, _⟩ | ⟨g', cap', cur, e, hg', _⟩
        · rw [e] at hk; simp [Value.ownBlock] at hk
        · rw [e] at hk; simp [Value.ownBlock] at hk; omega)
      have OW2 : Hid (y2.ownsRow w.heap.size 24 6 v2 (0 + 1) (flatF (fs.take 0 ++ [(fp, fq, fn, flo, fhi, fseq)]))) := by
        show y2.ownsRow _ _ _ _ _ _
        rw [flatF_append]
        simpa [flatF] using ho2
      clear ho2 hg2 z0 z1 z2 z3 z4 z5
      go_wp2_with (at_builtin; (refine wpList_append_src rfl _ _ 22 rfl w.heap.size 24 i0 (.agg #[.string ⟨#[]⟩, .string ⟨#[]⟩, .int .i64 0, .int .i64 0, .int .i64 0, .int .i64 0]) 6 64 Tryz.underlying22 hi0 hz0 hs0 hby0 rfl (by decide) v2 (0 + 1) (flatF (fs.take 0 ++ [(fp, fq, fn, flo, fhi, fseq)])) rfl ?a0 _ _ _ (flatF (fs.drop 0)) rfl ?a1 ?a2 ?a3 ?a4 ?a5 ?a6 ?_))
      case a0 => exact OW2.out
      case a1 => have h := HX.out; rw [flatF_len]; simp [h]
      case a2 => exact Or.inl ⟨rfl, fun _ => rfl⟩
      case a3 => exact flatF_one _
      case a4 => unfold maxLen; omega
      case a5 => omega
      case a6 => exact hb2.size
      intro v3 y3 ho3 hg3 _
      have hb3 : Below w.heap.size w y3 := hb2.grown hg3 hb2.size (fun k hk => by
        rcases OW2.out.2 with ⟨e, _⟩ | ⟨g', cap', cur, e, hg', _⟩
        · rw [e] at hk; simp [Value.ownBlock] at hk
        · rw [e] at hk; simp [Value.ownBlock] at hk; omega)
      have HFN : Hid (FlsAt y3 v3 P) := by
        show FlsAt _ _ _
        rw [HPP.out]
        have e : fs.take 0 ++ (fp, fq, fn, flo, fhi, fseq) :: fs.drop 0 = (fs.take 0 ++ [(fp, fq, fn, flo, fhi, fseq)]) ++ fs.drop 0 := by simp
        rw [e]
        refine (flsAt_of_own (base := w.heap.size) (n := 0 + 1 + 0) ?_).1
        rw [flatF_append]
        exact ho3
      clear ho3 hg3
      go_wp2
      go_ret
      exact ⟨v3, rfl, HFN.out, hb3⟩
    · obtain rfl : n = 0 := by omega
      go_wp2_with (at_builtin; (refine wpList_append_src rfl _ _ 22 rfl w.heap.size 24 i0 (.agg #[.string ⟨#[]⟩, .string ⟨#[]⟩, .int .i64 0, .int .i64 0, .int .i64 0, .int .i64 0]) 6 64 Tryz.underlying22 hi0 hz0 hs0 hby0 rfl (by decide) (.slice none 0 0) 0 [] rfl ?a0 _ _ _ (flatF (fs.take 0)) rfl ?a1 ?a2 ?a3 ?a4 ?a5 ?a6 ?_))
      case a0 => exact World.ownsRow_nil _ _ _ _
      case a1 => have h := HX.out; rw [flatF_len]; simp
      case a2 => exact Or.inl ⟨rfl, fun h => nomatch h⟩
      case a3 => exact flatF_one _
      case a4 => unfold maxLen; omega
      case a5 => omega
      case a6 => exact hb.size
      intro v1 y1 ho1 hg1 _
      have hb1 : Below w.heap.size w y1 := hb.grown hg1 hb.size (fun k hk => by simp [Value.ownBlock] at hk)
      have hk1 : Below wc.heap.size wc y1 := (Below.refl _ _).grown hg1 (Nat.le_refl _) (fun k hk => by simp [Value.ownBlock] at hk)
      have OW1 : Hid (y1.ownsRow w.heap.size 24 6 v1 0 (flatF (fs.take 0))) := by
        show y1.ownsRow _ _ _ _ _ _
        simpa using ho1
      obtain ⟨z0, z1, z2, z3, z4, z5, -⟩ := (HFL.out.below hk1).cells
      dsimp only at z0 z1 z2 z3 z4 z5
      clear ho1 hg1
      have hal1 : Below y1.heap.size y1 (y1.alloc (.cells #[.string fp, .string fq, .int .i64 fn, .int .i64 flo, .int .i64 fhi, .int .i64 fseq] 24)) := (Below.refl _ _).alloc (Nat.le_refl _) _
      have hba1 : Below w.heap.size w (y1.alloc (.cells #[.string fp, .string fq, .int .i64 fn, .int .i64 flo, .int .i64 fhi, .int .i64 fseq] 24)) := hb1.alloc hb1.size _
      go_wp2_with (at_builtin; refine wpList_append_own _ rfl _ _ 22 rfl w.heap.size 24 i0 (.agg #[.string ⟨#[]⟩, .string ⟨#[]⟩, .int .i64 0, .int .i64 0, .int .i64 0, .int .i64 0]) 6 64 Tryz.underlying22 hi0 hz0 hs0 hby0 rfl (by decide) v1 0 (flatF (fs.take 0)) rfl ?qc0 ⟨y1.heap.size, 0, none⟩ 1 1 (encF (fp, fq, fn, flo, fhi, fseq)) rfl ?qc1 ?qc2 ?qc3 ?qc4 ?qc5 ?qc6 ?_)
      case qc0 => exact own_below OW1.out hal1
      case qc1 => rfl
      case qc2 => first | exact cells6 _ _ | exact fun j u hu => hu
      case qc3 => exact encF_one _
      case qc4 => unfold maxLen; omega
      case qc5 => omega
      case qc6 => first | exact hba1.size | (have := hb1.size; omega)
      intro v2 y2 ho2 hg2 _
      have hb2 : Below w.heap.size w y2 := hba1.grown hg2 hba1.size (fun k hk => by
        rcases OW1.out.2 with ⟨e, _⟩ | ⟨g', cap', cur, e, hg', _⟩
        · rw [e] at hk; simp [Value.ownBlock] at hk
        · rw [e] at hk; simp [Value.ownBlock] at hk; omega)
      have OW2 : Hid (y2.ownsRow w.heap.size 24 6 v2 (0 + 1) (flatF (fs.take 0 ++ [(fp, fq, fn, flo, fhi, fseq)]))) := by
        show y2.ownsRow _ _ _ _ _ _
        rw [flatF_append]
        simpa [flatF] using ho2
      clear ho2 hg2 z0 z1 z2 z3 z4 z5
      go_wp2_with (at_builtin; (refine wpList_append_src rfl _ _ 22 rfl w.heap.size 24 i0 (.agg #[.string ⟨#[]⟩, .string ⟨#[]⟩, .int .i64 0, .int .i64 0, .int .i64 0, .int .i64 0]) 6 64 Tryz.underlying22 hi0 hz0 hs0 hby0 rfl (by decide) v2 (0 + 1) (flatF (fs.take 0 ++ [(fp, fq, fn, flo, fhi, fseq)])) rfl ?a0 _ _ _ (flatF (fs.drop 0)) rfl ?a1 ?a2 ?a3 ?a4 ?a5 ?a6 ?_))
      case a0 => exact OW2.out
      case a1 => have h := HX.out; rw [flatF_len]; simp [h]
      case a2 => exact Or.inl ⟨rfl, fun h => nomatch h⟩
      case a3 => exact flatF_one _
      case a4 => unfold maxLen; omega
      case a5 => omega
      case a6 => exact hb2.size
      intro v3 y3 ho3 hg3 _
      have hb3 : Below w.heap.size w y3 := hb2.grown hg3 hb2.size (fun k hk => by
        rcases OW2.out.2 with ⟨e, _⟩ | ⟨g', cap', cur, e, hg', _⟩
        · rw [e] at hk; simp [Value.ownBlock] at hk
        · rw [e] at hk; simp [Value.ownBlock] at hk; omega)
      have HFN : Hid (FlsAt y3 v3 P) := by
        show FlsAt _ _ _
        rw [HPP.out]
        have e : fs.take 0 ++ (fp, fq, fn, flo, fhi, fseq) :: fs.drop 0 = (fs.take 0 ++ [(fp, fq, fn, flo, fhi, fseq)]) ++ fs.drop 0 := by simp
        rw [e]
        refine (flsAt_of_own (base := w.heap.size) (n := 0 + 1 + 0) ?_).1
        rw [flatF_append]
        exact ho3
      clear ho3 hg3
      go_wp2
      go_ret
      exact ⟨v3, rfl, HFN.out, hb3⟩
    · have hnL : n ≤ fs.length := by rw [HX.out]; exact hn
      have HCS : Hid (FlCells w b o fs) := hcs
      have i1 : (0 : Int) ≤ (n : Int) := by omega
      have i2 : (n : Int) ≤ (L : Int) := by omega
      have i3 : (n : Int) ≤ (cap : Int) := by omega
      have i4 : (L : Int) ≤ (cap : Int) := by omega
      clear hcs
      by_cases hcn : cap = n
      · obtain rfl : n = cap := hcn.symm
        obtain rfl : L = n := by omega
        go_wp2_with (at_builtin; (refine wpList_append_src rfl _ _ 22 rfl w.heap.size 24 i0 (.agg #[.string ⟨#[]⟩, .string ⟨#[]⟩, .int .i64 0, .int .i64 0, .int .i64 0, .int .i64 0]) 6 64 Tryz.underlying22 hi0 hz0 hs0 hby0 rfl (by decide) (.slice none 0 0) 0 [] rfl ?a0 _ _ _ (flatF (fs.take L)) rfl ?a1 ?a2 ?a3 ?a4 ?a5 ?a6 ?_))
        case a0 => exact World.ownsRow_nil _ _ _ _
        case a1 => rw [flatF_len, List.length_take]; have := HX.out; omega
        case a2 => exact Or.inr ⟨b, o, rfl, cellsF_flat (flCells_take (HCS.out.below hb) L)⟩
        case a3 => exact flatF_one _
        case a4 => unfold maxLen; omega
        case a5 => omega
        case a6 => exact hb.size
        intro v1 y1 ho1 hg1 _
        have hb1 : Below w.heap.size w y1 := hb.grown hg1 hb.size (fun k hk => by simp [Value.ownBlock] at hk)
        have hk1 : Below wc.heap.size wc y1 := (Below.refl _ _).grown hg1 (Nat.le_refl _) (fun k hk => by simp [Value.ownBlock] at hk)
        have OW1 : Hid (y1.ownsRow w.heap.size 24 6 v1 L (flatF (fs.take L))) := by
          show y1.ownsRow _ _ _ _ _ _
          simpa using ho1
        obtain ⟨z0, z1, z2, z3, z4, z5, -⟩ := (HFL.out.below hk1).cells
        dsimp only at z0 z1 z2 z3 z4 z5
        clear ho1 hg1
        have hal1 : Below y1.heap.size y1 (y1.alloc (.cells #[.string fp, .string fq, .int .i64 fn, .int .i64 flo, .int .i64 fhi, .int .i64 fseq] 24)) := (Below.refl _ _).alloc (Nat.le_refl _) _
        have hba1 : Below w.heap.size w (y1.alloc (.cells #[.string fp, .string fq, .int .i64 fn, .int .i64 flo, .int .i64 fhi, .int .i64 fseq] 24)) := hb1.alloc hb1.size _
        go_wp2_with (at_builtin; refine wpList_append_own _ rfl _ _ 22 rfl w.heap.size 24 i0 (.agg #[.string ⟨#[]⟩, .string ⟨#[]⟩, .int .i64 0, .int .i64 0, .int .i64 0, .int .i64 0]) 6 64 Tryz.underlying22 hi0 hz0 hs0 hby0 rfl (by decide) v1 L (flatF (fs.take L)) rfl ?qc0 ⟨y1.heap.size, 0, none⟩ 1 1 (encF (fp, fq, fn, flo, fhi, fseq)) rfl ?qc1 ?qc2 ?qc3 ?qc4 ?qc5 ?qc6 ?_)
        case qc0 => exact own_below OW1.out hal1
        case qc1 => rfl
        case qc2 => first | exact cells6 _ _ | exact fun j u hu => hu
        case qc3 => exact encF_one _
        case qc4 => unfold maxLen; omega
        case qc5 => omega
        case qc6 => first | exact hba1.size | (have := hb1.size; omega)
        intro v2 y2 ho2 hg2 _
        have hb2 : Below w.heap.size w y2 := hba1.grown hg2 hba1.size (fun k hk => by
          rcases OW1.out.2 with ⟨e, _⟩ | ⟨g', cap', cur, e, hg', _⟩
          · rw [e] at hk; simp [Value.ownBlock] at hk
          · rw [e] at hk; simp [Value.ownBlock] at hk; omega)
        have OW2 : Hid (y2.ownsRow w.heap.size 24 6 v2 (L + 1) (flatF (fs.take L ++ [(fp, fq, fn, flo, fhi, fseq)]))) := by
          show y2.ownsRow _ _ _ _ _ _
          rw [flatF_append]
          simpa [flatF] using ho2
        clear ho2 hg2 z0 z1 z2 z3 z4 z5
        go_wp2_with (at_builtin; (refine wpList_append_src rfl _ _ 22 rfl w.heap.size 24 i0 (.agg #[.string ⟨#[]⟩, .string ⟨#[]⟩, .int .i64 0, .int .i64 0, .int .i64 0, .int .i64 0]) 6 64 Tryz.underlying22 hi0 hz0 hs0 hby0 rfl (by decide) v2 (L + 1) (flatF (fs.take L ++ [(fp, fq, fn, flo, fhi, fseq)])) rfl ?a0 _ _ _ (flatF (fs.drop L)) rfl ?a1 ?a2 ?a3 ?a4 ?a5 ?a6 ?_))
        case a0 => exact OW2.out
        case a1 => rw [flatF_len, List.length_drop]; have := HX.out; omega
        case a2 => exact Or.inl ⟨by omega, fun h => nomatch h⟩
        case a3 => exact flatF_one _
        case a4 => unfold maxLen; omega
        case a5 => omega
        case a6 => exact hb2.size
        intro v3 y3 ho3 hg3 _
        have hb3 : Below w.heap.size w y3 := hb2.grown hg3 hb2.size (fun k hk => by
          rcases OW2.out.2 with ⟨e, _⟩ | ⟨g', cap', cur, e, hg', _⟩
          · rw [e] at hk; simp [Value.ownBlock] at hk
          · rw [e] at hk; simp [Value.ownBlock] at hk; omega)
        have HFN : Hid (FlsAt y3 v3 P) := by
          show FlsAt _ _ _
          rw [HPP.out]
          have e : fs.take L ++ (fp, fq, fn, flo, fhi, fseq) :: fs.drop L = (fs.take L ++ [(fp, fq, fn, flo, fhi, fseq)]) ++ fs.drop L := by simp
          rw [e]
          refine (flsAt_of_own (base := w.heap.size) (n := L + 1 + 0) ?_).1
          rw [flatF_append]
          exact ho3
        clear ho3 hg3
        go_wp2
        go_ret
        exact ⟨v3, rfl, HFN.out, hb3⟩
      · skip
        go_wp2_with (at_builtin; (refine wpList_append_src rfl _ _ 22 rfl w.heap.size 24 i0 (.agg #[.string ⟨#[]⟩, .string ⟨#[]⟩, .int .i64 0, .int .i64 0, .int .i64 0, .int .i64 0]) 6 64 Tryz.underlying22 hi0 hz0 hs0 hby0 rfl (by decide) (.slice none 0 0) 0 [] rfl ?a0 _ _ _ (flatF (fs.take n)) rfl ?a1 ?a2 ?a3 ?a4 ?a5 ?a6 ?_))
        case a0 => exact World.ownsRow_nil _ _ _ _
        case a1 => rw [flatF_len, List.length_take]; have := HX.out; omega
        case a2 => exact Or.inr ⟨b, o, rfl, cellsF_flat (flCells_take (HCS.out.below hb) n)⟩
        case a3 => exact flatF_one _
        case a4 => unfold maxLen; omega
        case a5 => omega
        case a6 => exact hb.size
        intro v1 y1 ho1 hg1 _
        have hb1 : Below w.heap.size w y1 := hb.grown hg1 hb.size (fun k hk => by simp [Value.ownBlock] at hk)
        have hk1 : Below wc.heap.size wc y1 := (Below.refl _ _).grown hg1 (Nat.le_refl _) (fun k hk => by simp [Value.ownBlock] at hk)
        have OW1 : Hid (y1.ownsRow w.heap.size 24 6 v1 n (flatF (fs.take n))) := by
          show y1.ownsRow _ _ _ _ _ _
          simpa using ho1
        obtain ⟨z0, z1, z2, z3, z4, z5, -⟩ := (HFL.out.below hk1).cells
        dsimp only at z0 z1 z2 z3 z4 z5
        clear ho1 hg1
        have hal1 : Below y1.heap.size y1 (y1.alloc (.cells #[.string fp, .string fq, .int .i64 fn, .int .i64 flo, .int .i64 fhi, .int .i64 fseq] 24)) := (Below.refl _ _).alloc (Nat.le_refl _) _
        have hba1 : Below w.heap.size w (y1.alloc (.cells #[.string fp, .string fq, .int .i64 fn, .int .i64 flo, .int .i64 fhi, .int .i64 fseq] 24)) := hb1.alloc hb1.size _
        go_wp2_with (at_builtin; refine wpList_append_own _ rfl _ _ 22 rfl w.heap.size 24 i0 (.agg #[.string ⟨#[]⟩, .string ⟨#[]⟩, .int .i64 0, .int .i64 0, .int .i64 0, .int .i64 0]) 6 64 Tryz.underlying22 hi0 hz0 hs0 hby0 rfl (by decide) v1 n (flatF (fs.take n)) rfl ?qc0 ⟨y1.heap.size, 0, none⟩ 1 1 (encF (fp, fq, fn, flo, fhi, fseq)) rfl ?qc1 ?qc2 ?qc3 ?qc4 ?qc5 ?qc6 ?_)
        case qc0 => exact own_below OW1.out hal1
        case qc1 => rfl
        case qc2 => first | exact cells6 _ _ | exact fun j u hu => hu
        case qc3 => exact encF_one _
        case qc4 => unfold maxLen; omega
        case qc5 => omega
        case qc6 => first | exact hba1.size | (have := hb1.size; omega)
        intro v2 y2 ho2 hg2 _
        have hb2 : Below w.heap.size w y2 := hba1.grown hg2 hba1.size (fun k hk => by
          rcases OW1.out.2 with ⟨e, _⟩ | ⟨g', cap', cur, e, hg', _⟩
          · rw [e] at hk; simp [Value.ownBlock] at hk
          · rw [e] at hk; simp [Value.ownBlock] at hk; omega)
        have OW2 : Hid (y2.ownsRow w.heap.size 24 6 v2 (n + 1) (flatF (fs.take n ++ [(fp, fq, fn, flo, fhi, fseq)]))) := by
          show y2.ownsRow _ _ _ _ _ _
          rw [flatF_append]
          simpa [flatF] using ho2
        clear ho2 hg2 z0 z1 z2 z3 z4 z5
        go_wp2_with (at_builtin; (refine wpList_append_src rfl _ _ 22 rfl w.heap.size 24 i0 (.agg #[.string ⟨#[]⟩, .string ⟨#[]⟩, .int .i64 0, .int .i64 0, .int .i64 0, .int .i64 0]) 6 64 Tryz.underlying22 hi0 hz0 hs0 hby0 rfl (by decide) v2 (n + 1) (flatF (fs.take n ++ [(fp, fq, fn, flo, fhi, fseq)])) rfl ?a0 _ _ _ (flatF (fs.drop n)) rfl ?a1 ?a2 ?a3 ?a4 ?a5 ?a6 ?_))
        case a0 => exact OW2.out
        case a1 => rw [flatF_len, List.length_drop]; have := HX.out; omega
        case a2 => exact Or.inr ⟨b, o + n * 6, rfl, cellsF_flat (flCells_drop (HCS.out.below hb2) n)⟩
        case a3 => exact flatF_one _
        case a4 => unfold maxLen; omega
        case a5 => omega
        case a6 => exact hb2.size
        intro v3 y3 ho3 hg3 _
        have hb3 : Below w.heap.size w y3 := hb2.grown hg3 hb2.size (fun k hk => by
          rcases OW2.out.2 with ⟨e, _⟩ | ⟨g', cap', cur, e, hg', _⟩
          · rw [e] at hk; simp [Value.ownBlock] at hk
          · rw [e] at hk; simp [Value.ownBlock] at hk; omega)
        have HFN : Hid (FlsAt y3 v3 P) := by
          show FlsAt _ _ _
          rw [HPP.out]
          have e : fs.take n ++ (fp, fq, fn, flo, fhi, fseq) :: fs.drop n = (fs.take n ++ [(fp, fq, fn, flo, fhi, fseq)]) ++ fs.drop n := by simp
          rw [e]
          refine (flsAt_of_own (base := w.heap.size) (n := n + 1 + (L - n)) ?_).1
          rw [flatF_append]
          exact ho3
        clear ho3 hg3
        go_wp2
        go_ret
        exact ⟨v3, rfl, HFN.out, hb3⟩
end Go.Proofs.YtpiagofhgalklacGreatDoor
namespace Go.Proofs.YtpiagofhgalklacGreatDoor
open Go.RowKit Go.Extern.Stop Go.Stop Go.Extern Go.Sort Go.Shelf Go.Lib

/-- What adding a file to a list answers: an error's number (0: none), and where. -/
def addE (fs : List Fl) (f : Fl) : Nat × Option Nat := if (listE fs).1 ≠ 0 then listE fs else if fileE f ≠ 0 then (fileE f, none) else if 0 ≤ findF fs f.1 then (7, none) else if 60 ≤ fs.length then (8, none) else (0, none)
def addL (fs : List Fl) (f : Fl) : List Fl := if (addE fs f).1 = 0 then placeL fs f else []
/-- What removing a path answers. -/
def remE (fs : List Fl) (p : ByteArray) : Nat × Option Nat := if (listE fs).1 ≠ 0 then listE fs else if findF fs p < 0 then (6, none) else (0, none)
def remL (fs : List Fl) (p : ByteArray) : List Fl := if (remE fs p).1 = 0 then fs.filter (offP p) else []

theorem addE_le (fs : List Fl) (f : Fl) : (addE fs f).1 ≤ 12 := by
  unfold addE
  have h1 : (listE fs).1 ≤ 12 := by
    unfold listE
    split
    · exact (by decide : (8 : Nat) ≤ 12)
    · exact lstG_le _ _ _
  have h2 := fileE_le f
  repeat' split
  all_goals first | exact h1 | (dsimp only; omega)
theorem remE_le (fs : List Fl) (p : ByteArray) : (remE fs p).1 ≤ 12 := by
  unfold remE
  have h1 : (listE fs).1 ≤ 12 := by
    unfold listE
    split
    · exact (by decide : (8 : Nat) ≤ 12)
    · exact lstG_le _ _ _
  repeat' split
  all_goals first | exact h1 | (dsimp only; omega)

theorem FC.ne_fls {W : World} {F : Nat} {x y : Int} {v : Value} {fs : List Fl} (h : FC W F x y) (hr : FlsAt W v fs) (o : Nat) (z : Value) (o2 : Nat) (z2 : Value) : FlsAt ((W.setCell ⟨F, o, none⟩ z).setCell ⟨F, o2, none⟩ z2) v fs := by
  rcases hr with hr | ⟨b, ob, cap, hv, hl, hc⟩
  · exact Or.inl hr
  · refine Or.inr ⟨b, ob, cap, hv, hl, fun j hj => ?_⟩
    have hbF : b ≠ F := by
      rintro rfl
      have h0 := (hc j hj).1
      rw [cell_of_row _ _ _ _ _ _ h] at h0
      have hm := Array.mem_of_getElem? h0
      simp at hm
    obtain ⟨c0, c1, c2, c3, c4, c5⟩ := hc j hj
    have key : ∀ t u, W.cell? ⟨b, t, none⟩ = some u → ((W.setCell ⟨F, o, none⟩ z).setCell ⟨F, o2, none⟩ z2).cell? ⟨b, t, none⟩ = some u := fun t u hu => by
      rw [World.cell?_setCell_other _ _ _ _ (by intro e; injection e with e; exact hbF e.symm), World.cell?_setCell_other _ _ _ _ (by intro e; injection e with e; exact hbF e.symm)]
      exact hu
    exact ⟨key _ _ c0, key _ _ c1, key _ _ c2, key _ _ c3, key _ _ c4, key _ _ c5⟩
theorem fc_other {W : World} {F G : Nat} {x y : Int} (h : FC W F x y) (hne : G ≠ F) (o : Nat) (z : Value) : FC (W.setCell ⟨G, o, none⟩ z) F x y := (heap_setCell_other _ _ _ _ (fun e => hne e.symm)).trans h
theorem fl_other {W : World} {F G : Nat} {f : Fl} (h : FlAt W F f) (hne : G ≠ F) (o : Nat) (z : Value) : FlAt (W.setCell ⟨G, o, none⟩ z) F f := (heap_setCell_other _ _ _ _ (fun e => hne e.symm)).trans h

set_option maxRecDepth 100000 in
set_option maxHeartbeats 8000000 in
theorem addOf_any (v : Value) (fs : List Fl) (f : Fl) (w : World) (hx : FlsAt w v fs) (hl : fs.length ≤ 1000) (hsz : ∀ g ∈ fs, g.1.size ≤ 100000 ∧ g.2.1.size ≤ 100000) (hf : f.1.size ≤ 100000 ∧ f.2.1.size ≤ 100000) :
    Calls Tryz.prog 19 #[v, flV f] w fun e w' => ∃ v', e = .returned (.tuple #[v', .agg #[.int .i64 (addE fs f).1, .int .i64 (atZ (addE fs f).2)]]) ∧ FlsAt w' v' (addL fs f) ∧ Below w.heap.size w w' := by
  obtain ⟨q, cap, rfl⟩ := hx.form
  have HFX : Hid (FlsAt w (.slice q fs.length cap) fs) := hx
  have HSZ : Hid (∀ g ∈ fs, g.1.size ≤ 100000 ∧ g.2.1.size ≤ 100000) := hsz
  have HLF : Hid (∀ W, Below w.heap.size w W → Calls Tryz.prog 10 #[.slice q fs.length cap] W fun e w' => e = .returned (.agg #[.int .i64 (listE fs).1, .int .i64 (atZ (listE fs).2)]) ∧ Below W.heap.size W w') := fun W hb => listFault_any _ fs W (hx.below hb) (by omega) hsz
  have HFO : Hid (∀ W, Below w.heap.size w W → Calls Tryz.prog 23 #[.slice q fs.length cap, .string f.1] W fun e w' => e = .returned (.int .i64 (findF fs f.1)) ∧ w' = W) := fun W hb => findOf_any _ fs f.1 W (hx.below hb) (by omega)
  have HPL : Hid (∀ W, Below w.heap.size w W → Calls Tryz.prog 59 #[.slice q fs.length cap, flV f] W fun e w' => ∃ v', e = .returned v' ∧ FlsAt w' v' (placeL fs f) ∧ Below W.heap.size W w') := fun W hb => placed_any _ fs f W (hx.below hb) hl (fun g hg => (hsz g hg).1) hf.1
  have HFE : Hid (∀ W, Calls Tryz.prog 41 #[flV f] W fun e w' => e = .returned (.int .i64 (fileE f)) ∧ Below W.heap.size W w') := fun W => fileError_any f W hf.1 hf.2
  obtain ⟨L, hL⟩ : ∃ L, fs.length = L := ⟨_, rfl⟩
  have HX : Hid (fs.length = L) := hL
  rw [hL] at hl HLF HFO HPL ⊢
  have HLA : Hid (FlAt (w.alloc (.cells #[.string f.1, .string f.2.1, .int .i64 f.2.2.1, .int .i64 f.2.2.2.1, .int .i64 f.2.2.2.2.1, .int .i64 f.2.2.2.2.2] 24)) w.heap.size f) := FlAt.new w f
  have hal : Below w.heap.size w (w.alloc (.cells #[.string f.1, .string f.2.1, .int .i64 f.2.2.1, .int .i64 f.2.2.2.1, .int .i64 f.2.2.2.2.1, .int .i64 f.2.2.2.2.2] 24)) := (Below.refl _ _).alloc (Nat.le_refl _) _
  obtain ⟨E1, hE1⟩ : ∃ E, listE fs = E := ⟨_, rfl⟩
  obtain ⟨E2, hE2⟩ : ∃ E, fileE f = E := ⟨_, rfl⟩
  obtain ⟨FI, hFI⟩ : ∃ E, findF fs f.1 = E := ⟨_, rfl⟩
  obtain ⟨R, hR⟩ : ∃ E, addE fs f = E := ⟨_, rfl⟩
  obtain ⟨RL, hRL⟩ : ∃ E, addL fs f = E := ⟨_, rfl⟩
  have HR : Hid (R = if E1.1 ≠ 0 then E1 else if E2 ≠ 0 then (E2, none) else if 0 ≤ FI then (7, none) else if 60 ≤ L then (8, none) else (0, none)) := by
    show _ = _
    rw [← hR]; unfold addE; rw [hE1, hE2, hFI, hL]
  have HRL : Hid (RL = if R.1 = 0 then placeL fs f else []) := by
    show _ = _
    rw [← hRL]; unfold addL; rw [hR]
  rw [hE1] at HLF
  rw [hFI] at HFO
  rw [hE2] at HFE
  rw [hR, hRL]
  clear hR hRL hE1 hE2 hFI hL hx hsz
  obtain ⟨EC, EA⟩ := E1
  dsimp only at HLF HR
  have hfl := HLF.out
  unfold flV at HPL HFE ⊢
  obtain ⟨fp, fq, fn, flo, fhi, fseq⟩ := f
  dsimp only at HLA hal hf HPL HFE HFO ⊢
  generalize hWA : w.alloc (.cells #[.string fp, .string fq, .int .i64 fn, .int .i64 flo, .int .i64 fhi, .int .i64 fseq] 24) = WA at HLA hal
  have hS1 : WA.heap.size = w.heap.size + 1 := by rw [← hWA]; simp
  have hf0 := FC.new WA
  have hal2 : Below WA.heap.size WA (WA.alloc (.cells #[.int .i64 0, .int .i64 0] 30)) := (Below.refl _ _).alloc (Nat.le_refl _) _
  go_enter Tryz.func19, Tryz.ntmps19
  go_wp2_with fail
  generalize hWB : WA.alloc (.cells #[.int .i64 0, .int .i64 0] 30) = WB at hf0 hal2 ⊢
  obtain ⟨F1, hF1e⟩ : ∃ F, w.heap.size + 1 = F := ⟨_, rfl⟩
  rw [hS1, hF1e] at hf0
  rw [hF1e]
  have hB0 : Below w.heap.size w WB := hal.trans (hal2.mono hal.size)
  clear hfl
  have hF1 : w.heap.size ≤ F1 := by omega
  have hlf := HLF.out WB hB0
  refine hlf.mono ?_
  rintro e w1 ⟨rfl, hb1⟩
  clear hlf
  have hB1 : Below w.heap.size w w1 := hB0.trans (hb1.mono hB0.size)
  have hf1 := hf0.below hb1
  have hal3 : Below w1.heap.size w1 (w1.alloc (.cells #[.int .i64 EC, .int .i64 (atZ EA)] 30)) := (Below.refl _ _).alloc (Nat.le_refl _) _
  have hgR : FC (w1.alloc (.cells #[.int .i64 EC, .int .i64 (atZ EA)] 30)) w1.heap.size EC (atZ EA) := heap_alloc_new _ _
  have hfR := hf1.below hal3
  have HFLR : Hid (FlAt (w1.alloc (.cells #[.int .i64 EC, .int .i64 (atZ EA)] 30)) w.heap.size (fp, fq, fn, flo, fhi, fseq)) := ((HLA.out.below hal2).below hb1).below hal3
  have hBR : Below w.heap.size w (w1.alloc (.cells #[.int .i64 EC, .int .i64 (atZ EA)] 30)) := hB1.trans (hal3.mono hB1.size)
  have hG1 : w.heap.size ≤ w1.heap.size := hB1.size
  have hF1G : F1 < w1.heap.size := hf1.lt
  clear hal3 hf1 hf0 hal2 hb1 hB0 hWB hB1 HLA hWA hal
  go_upto_region 2 with fail
  generalize w1.alloc (.cells #[.int .i64 EC, .int .i64 (atZ EA)] 30) = W2 at hgR hfR hBR HFLR ⊢
  generalize w1.heap.size = G at hgR hG1 hF1G ⊢
  by_cases hE : EC = 0
  · subst hE
    have HR1 : Hid (R = if E2 ≠ 0 then (E2, none) else if 0 ≤ FI then (7, none) else if 60 ≤ L then (8, none) else (0, none)) := by
      show _ = _
      rw [HR.out, if_neg (by simp)]
    clear HR
    obtain ⟨z0, z1, z2, z3, z4, z5, -⟩ := HFLR.out.cells
    dsimp only at z0 z1 z2 z3 z4 z5
    have k0 := hgR.c0
    have hfe := HFE.out W2
    go_wp2_with fail
    refine hfe.mono ?_
    rintro e w3 ⟨rfl, hb3⟩
    clear hfe z0 z1 z2 z3 z4 z5 k0
    replace hgR := hgR.below hb3
    replace hfR := hfR.below hb3
    have HFL3 : Hid (FlAt w3 w.heap.size (fp, fq, fn, flo, fhi, fseq)) := HFLR.out.below hb3
    replace hBR : Below w.heap.size w w3 := hBR.trans (hb3.mono hBR.size)
    clear hb3 HFLR
    have HFLR := HFL3
    clear HFL3
    have hbr := bare_of ((E2 : Nat)) w3
    go_wp2_with fail
    refine hbr.mono ?_
    rintro e w3x ⟨rfl, hbn⟩
    clear hbr
    have hfn := hfR.below hbn
    have hgn := hgR.below hbn
    have hBn : Below w.heap.size w w3x := hBR.trans (hbn.mono hBR.size)
    have hfln := HFLR.out.below hbn
    have p0 := hgn.c0
    have p1 := hgn.c1
    have pz := hgn.fz
    go_upto_region 4 with fail
    have hgR := hgn.set ((E2 : Nat)) (-1)
    have hfR : FC ((w3x.setCell ⟨G, 0, none⟩ (.int .i64 ((E2 : Nat)))).setCell ⟨G, 1, none⟩ (.int .i64 (-1))) F1 0 0 := fc_other (fc_other hfn (by omega) _ _) (by omega) _ _
    have HFLR : Hid (FlAt ((w3x.setCell ⟨G, 0, none⟩ (.int .i64 ((E2 : Nat)))).setCell ⟨G, 1, none⟩ (.int .i64 (-1))) w.heap.size (fp, fq, fn, flo, fhi, fseq)) := fl_other (fl_other hfln (by omega) _ _) (by omega) _ _
    clear hfln
    have hBR : Below w.heap.size w ((w3x.setCell ⟨G, 0, none⟩ (.int .i64 ((E2 : Nat)))).setCell ⟨G, 1, none⟩ (.int .i64 (-1))) := (hBn.setCell hG1 _).setCell hG1 _
    clear hfn hgn hBn p0 p1 pz hbn
    generalize (w3x.setCell ⟨G, 0, none⟩ (.int .i64 ((E2 : Nat)))).setCell ⟨G, 1, none⟩ (.int .i64 (-1)) = W4 at hfR hgR hBR HFLR ⊢
    by_cases hE2 : E2 = 0
    · subst hE2
      have HR2 : Hid (R = if 0 ≤ FI then (7, none) else if 60 ≤ L then (8, none) else (0, none)) := by
        show _ = _
        rw [HR1.out, if_neg (by simp)]
      clear HR1
      have k0 := hgR.c0
      have z0 := HFLR.out.cells.1
      dsimp only at z0
      have hfo := HFO.out W4 hBR
      go_wp2_with fail
      refine hfo.mono ?_
      rintro e w5 ⟨rfl, rfl⟩
      clear hfo z0
      by_cases hFI : 0 ≤ FI
      · have HRE : Hid (R = (7, none)) := by
          show _ = _
          rw [HR2.out, if_pos hFI]
        have HRLE : Hid (RL = []) := by
          show _ = _
          rw [HRL.out, HRE.out]; rfl
        have r1 : (0 : Int) ≤ FI := hFI
        clear HR2
        have hbr := bare_of (7) w5
        go_wp2_with fail
        refine hbr.mono ?_
        rintro e w5x ⟨rfl, hbn⟩
        clear hbr
        have hfn := hfR.below hbn
        have hgn := hgR.below hbn
        have hBn : Below w.heap.size w w5x := hBR.trans (hbn.mono hBR.size)
        have hfln := HFLR.out.below hbn
        have p0 := hgn.c0
        have p1 := hgn.c1
        have pz := hgn.fz
        go_upto_region 6 with fail
        have hgR := hgn.set (7) (-1)
        have hfR : FC ((w5x.setCell ⟨G, 0, none⟩ (.int .i64 (7))).setCell ⟨G, 1, none⟩ (.int .i64 (-1))) F1 0 0 := fc_other (fc_other hfn (by omega) _ _) (by omega) _ _
        have HFLR : Hid (FlAt ((w5x.setCell ⟨G, 0, none⟩ (.int .i64 (7))).setCell ⟨G, 1, none⟩ (.int .i64 (-1))) w.heap.size (fp, fq, fn, flo, fhi, fseq)) := fl_other (fl_other hfln (by omega) _ _) (by omega) _ _
        clear hfln
        have hBR : Below w.heap.size w ((w5x.setCell ⟨G, 0, none⟩ (.int .i64 (7))).setCell ⟨G, 1, none⟩ (.int .i64 (-1))) := (hBn.setCell hG1 _).setCell hG1 _
        clear hfn hgn hBn p0 p1 pz hbn
        generalize (w5x.setCell ⟨G, 0, none⟩ (.int .i64 (7))).setCell ⟨G, 1, none⟩ (.int .i64 (-1)) = W6 at hfR hgR hBR HFLR ⊢
        have j0 := hfR.c0
        have j1 := hfR.c1
        have jz := hfR.fz
        have k0 := hgR.c0
        have k1 := hgR.c1
        have hBd := hBR.drew
        have hfd : FC W6.drew F1 0 0 := hfR.below (Below.refl W6.heap.size W6).drew
        have hgd : FC W6.drew G (7) (-1) := hgR.below (Below.refl W6.heap.size W6).drew
        have m0 := hfd.c0
        have m1 := hfd.c1
        have mz := hfd.fz
        have n0 := hgd.c0
        have n1 := hgd.c1
        clear hfd hgd hfR hgR
        go_wp2_with fail
        go_region
        all_goals go_wp2
        all_goals refine bodyPost_ret (v := .tuple #[.slice none 0 0, .agg #[.int .i64 (7), .int .i64 (-1)]]) (by simp [results, Tryz.results19, go_sem, j0, j1]) rfl ⟨_, by rw [HRE.out] <;> rfl, by rw [HRLE.out]; exact Or.inl ⟨none, 0, rfl, fun _ => rfl, rfl⟩, ?_⟩
        all_goals first
          | exact (hBR.setCell hF1 _).setCell hF1 _
          | exact (hBd.setCell hF1 _).setCell hF1 _
          | exact ((hBR.setCell hF1 _).setCell hF1 _).drew
      · have r1 : ¬ (0 : Int) ≤ FI := hFI
        have r2 : FI < 0 := by omega
        have HR3 : Hid (R = if 60 ≤ L then (8, none) else (0, none)) := by
          show _ = _
          rw [HR2.out, if_neg hFI]
        clear HR2
        by_cases hLL : 60 ≤ L
        · have HRE : Hid (R = (8, none)) := by
            show _ = _
            rw [HR3.out, if_pos hLL]
          have HRLE : Hid (RL = []) := by
            show _ = _
            rw [HRL.out, HRE.out]; rfl
          have s1 : (60 : Int) ≤ (L : Int) := by omega
          clear HR3
          have hbr := bare_of (8) w5
          go_wp2_with fail
          refine hbr.mono ?_
          rintro e w5x ⟨rfl, hbn⟩
          clear hbr
          have hfn := hfR.below hbn
          have hgn := hgR.below hbn
          have hBn : Below w.heap.size w w5x := hBR.trans (hbn.mono hBR.size)
          have hfln := HFLR.out.below hbn
          have p0 := hgn.c0
          have p1 := hgn.c1
          have pz := hgn.fz
          go_upto_region 8 with fail
          have hgR := hgn.set (8) (-1)
          have hfR : FC ((w5x.setCell ⟨G, 0, none⟩ (.int .i64 (8))).setCell ⟨G, 1, none⟩ (.int .i64 (-1))) F1 0 0 := fc_other (fc_other hfn (by omega) _ _) (by omega) _ _
          have HFLR : Hid (FlAt ((w5x.setCell ⟨G, 0, none⟩ (.int .i64 (8))).setCell ⟨G, 1, none⟩ (.int .i64 (-1))) w.heap.size (fp, fq, fn, flo, fhi, fseq)) := fl_other (fl_other hfln (by omega) _ _) (by omega) _ _
          clear hfln
          have hBR : Below w.heap.size w ((w5x.setCell ⟨G, 0, none⟩ (.int .i64 (8))).setCell ⟨G, 1, none⟩ (.int .i64 (-1))) := (hBn.setCell hG1 _).setCell hG1 _
          clear hfn hgn hBn p0 p1 pz hbn
          generalize (w5x.setCell ⟨G, 0, none⟩ (.int .i64 (8))).setCell ⟨G, 1, none⟩ (.int .i64 (-1)) = W6 at hfR hgR hBR HFLR ⊢
          have j0 := hfR.c0
          have j1 := hfR.c1
          have jz := hfR.fz
          have k0 := hgR.c0
          have k1 := hgR.c1
          have hBd := hBR.drew
          have hfd : FC W6.drew F1 0 0 := hfR.below (Below.refl W6.heap.size W6).drew
          have hgd : FC W6.drew G (8) (-1) := hgR.below (Below.refl W6.heap.size W6).drew
          have m0 := hfd.c0
          have m1 := hfd.c1
          have mz := hfd.fz
          have n0 := hgd.c0
          have n1 := hgd.c1
          clear hfd hgd hfR hgR
          go_wp2_with fail
          go_region
          all_goals go_wp2
          all_goals refine bodyPost_ret (v := .tuple #[.slice none 0 0, .agg #[.int .i64 (8), .int .i64 (-1)]]) (by simp [results, Tryz.results19, go_sem, j0, j1]) rfl ⟨_, by rw [HRE.out] <;> rfl, by rw [HRLE.out]; exact Or.inl ⟨none, 0, rfl, fun _ => rfl, rfl⟩, ?_⟩
          all_goals first
            | exact (hBR.setCell hF1 _).setCell hF1 _
            | exact (hBd.setCell hF1 _).setCell hF1 _
            | exact ((hBR.setCell hF1 _).setCell hF1 _).drew
        · have HRE : Hid (R = (0, none)) := by
            show _ = _
            rw [HR3.out, if_neg hLL]
          have HRLE : Hid (RL = placeL fs (fp, fq, fn, flo, fhi, fseq)) := by
            show _ = _
            rw [HRL.out, HRE.out]; rfl
          have s1 : ¬ (60 : Int) ≤ (L : Int) := by omega
          have s2 : (L : Int) < 60 := by omega
          clear HR3
          obtain ⟨z0, z1, z2, z3, z4, z5, -⟩ := HFLR.out.cells
          dsimp only at z0 z1 z2 z3 z4 z5
          have hpl := HPL.out w5 hBR
          go_wp2_with fail
          refine hpl.mono ?_
          rintro e w6 ⟨v6, rfl, hv6, hb6⟩
          clear hpl z0 z1 z2 z3 z4 z5 k0
          have hf6 := hfR.below hb6
          have hB6 : Below w.heap.size w w6 := hBR.trans (hb6.mono hBR.size)
          have hfi := fine_of w6
          go_wp2_with fail
          refine hfi.mono ?_
          rintro e w7 ⟨rfl, hb7⟩
          clear hfi
          have hf7 := hf6.below hb7
          have hB7 : Below w.heap.size w w7 := hB6.trans (hb7.mono hB6.size)
          have j0 := hf7.c0
          have j1 := hf7.c1
          have jz := hf7.fz
          go_wp2
          refine bodyPost_ret (v := .tuple #[v6, .agg #[.int .i64 0, .int .i64 (-1)]]) (by simp [results, Tryz.results19, go_sem, j0, j1]) rfl ⟨_, by rw [HRE.out]; rfl, ?_, (hB7.setCell hF1 _).setCell hF1 _⟩
          rw [HRLE.out]
          exact hf7.ne_fls (hv6.below hb7) _ _ _ _
    · have HRE : Hid (R = (E2, none)) := by
        show _ = _
        rw [HR1.out, if_pos hE2]
      have HRLE : Hid (RL = []) := by
        show _ = _
        rw [HRL.out, HRE.out, if_neg hE2]
      have q1 : ¬ ((E2 : Nat) : Int) = 0 := by omega
      have q2 : (((E2 : Nat) : Int) == 0) = false := beq_eq_false_iff_ne.2 q1
      have q3 : (0 : Int) < ((E2 : Nat) : Int) := by omega
      clear HR1
      have j0 := hfR.c0
      have j1 := hfR.c1
      have jz := hfR.fz
      have k0 := hgR.c0
      have k1 := hgR.c1
      have hBd := hBR.drew
      have hfd : FC W4.drew F1 0 0 := hfR.below (Below.refl W4.heap.size W4).drew
      have hgd : FC W4.drew G ((E2 : Nat)) (-1) := hgR.below (Below.refl W4.heap.size W4).drew
      have m0 := hfd.c0
      have m1 := hfd.c1
      have mz := hfd.fz
      have n0 := hgd.c0
      have n1 := hgd.c1
      clear hfd hgd hfR hgR
      go_wp2_with fail
      go_region
      all_goals go_wp2
      all_goals refine bodyPost_ret (v := .tuple #[.slice none 0 0, .agg #[.int .i64 ((E2 : Nat)), .int .i64 (-1)]]) (by simp [results, Tryz.results19, go_sem, j0, j1]) rfl ⟨_, by rw [HRE.out] <;> rfl, by rw [HRLE.out]; exact Or.inl ⟨none, 0, rfl, fun _ => rfl, rfl⟩, ?_⟩
      all_goals first
        | exact (hBR.setCell hF1 _).setCell hF1 _
        | exact (hBd.setCell hF1 _).setCell hF1 _
        | exact ((hBR.setCell hF1 _).setCell hF1 _).drew
  · have HRE : Hid (R = (EC, EA)) := by
      show _ = _
      rw [HR.out, if_pos hE]
    have HRLE : Hid (RL = []) := by
      show _ = _
      rw [HRL.out, HRE.out, if_neg hE]
    have q1 : ¬ ((EC : Nat) : Int) = 0 := by omega
    have q2 : (((EC : Nat) : Int) == 0) = false := beq_eq_false_iff_ne.2 q1
    have q3 : (0 : Int) < ((EC : Nat) : Int) := by omega
    clear HR
    have j0 := hfR.c0
    have j1 := hfR.c1
    have jz := hfR.fz
    have k0 := hgR.c0
    have k1 := hgR.c1
    have hBd := hBR.drew
    have hfd : FC W2.drew F1 0 0 := hfR.below (Below.refl W2.heap.size W2).drew
    have hgd : FC W2.drew G ((EC : Nat)) (atZ EA) := hgR.below (Below.refl W2.heap.size W2).drew
    have m0 := hfd.c0
    have m1 := hfd.c1
    have mz := hfd.fz
    have n0 := hgd.c0
    have n1 := hgd.c1
    clear hfd hgd hfR hgR
    go_wp2_with fail
    go_region
    all_goals go_wp2
    all_goals refine bodyPost_ret (v := .tuple #[.slice none 0 0, .agg #[.int .i64 ((EC : Nat)), .int .i64 (atZ EA)]]) (by simp [results, Tryz.results19, go_sem, j0, j1]) rfl ⟨_, by rw [HRE.out] <;> rfl, by rw [HRLE.out]; exact Or.inl ⟨none, 0, rfl, fun _ => rfl, rfl⟩, ?_⟩
    all_goals first
      | exact (hBR.setCell hF1 _).setCell hF1 _
      | exact (hBd.setCell hF1 _).setCell hF1 _
      | exact ((hBR.setCell hF1 _).setCell hF1 _).drew

set_option maxRecDepth 100000 in
set_option maxHeartbeats 8000000 in
theorem removeOf_any (v : Value) (fs : List Fl) (p : ByteArray) (w : World) (hx : FlsAt w v fs) (hl : fs.length ≤ 1000) (hsz : ∀ g ∈ fs, g.1.size ≤ 100000 ∧ g.2.1.size ≤ 100000) :
    Calls Tryz.prog 21 #[v, .string p] w fun e w' => ∃ v', e = .returned (.tuple #[v', .agg #[.int .i64 (remE fs p).1, .int .i64 (atZ (remE fs p).2)]]) ∧ FlsAt w' v' (remL fs p) ∧ Below w.heap.size w w' := by
  obtain ⟨q, cap, rfl⟩ := hx.form
  have HLF : Hid (∀ W, Below w.heap.size w W → Calls Tryz.prog 10 #[.slice q fs.length cap] W fun e w' => e = .returned (.agg #[.int .i64 (listE fs).1, .int .i64 (atZ (listE fs).2)]) ∧ Below W.heap.size W w') := fun W hb => listFault_any _ fs W (hx.below hb) (by omega) hsz
  have HFO : Hid (∀ W, Below w.heap.size w W → Calls Tryz.prog 23 #[.slice q fs.length cap, .string p] W fun e w' => e = .returned (.int .i64 (findF fs p)) ∧ w' = W) := fun W hb => findOf_any _ fs p W (hx.below hb) (by omega)
  have HWO : Hid (∀ W, Below w.heap.size w W → Calls Tryz.prog 60 #[.slice q fs.length cap, .string p] W fun e w' => ∃ v', e = .returned v' ∧ FlsAt w' v' (fs.filter (offP p)) ∧ Below W.heap.size W w') := fun W hb => without_any _ fs p W (hx.below hb) (by omega)
  obtain ⟨L, hL⟩ : ∃ L, fs.length = L := ⟨_, rfl⟩
  rw [hL] at hl HLF HFO HWO ⊢
  obtain ⟨E1, hE1⟩ : ∃ E, listE fs = E := ⟨_, rfl⟩
  obtain ⟨FI, hFI⟩ : ∃ E, findF fs p = E := ⟨_, rfl⟩
  obtain ⟨R, hR⟩ : ∃ E, remE fs p = E := ⟨_, rfl⟩
  obtain ⟨RL, hRL⟩ : ∃ E, remL fs p = E := ⟨_, rfl⟩
  have HR : Hid (R = if E1.1 ≠ 0 then E1 else if FI < 0 then (6, none) else (0, none)) := by
    show _ = _
    rw [← hR]; unfold remE; rw [hE1, hFI]
  have HRL : Hid (RL = if R.1 = 0 then fs.filter (offP p) else []) := by
    show _ = _
    rw [← hRL]; unfold remL; rw [hR]
  rw [hE1] at HLF
  rw [hFI] at HFO
  rw [hR, hRL]
  clear hR hRL hE1 hFI hL hx hsz
  obtain ⟨EC, EA⟩ := E1
  dsimp only at HLF HR
  have hf0 := FC.new w
  have hal2 : Below w.heap.size w (w.alloc (.cells #[.int .i64 0, .int .i64 0] 30)) := (Below.refl _ _).alloc (Nat.le_refl _) _
  go_enter Tryz.func21, Tryz.ntmps21
  go_wp2_with fail
  generalize hWB : w.alloc (.cells #[.int .i64 0, .int .i64 0] 30) = WB at hf0 hal2 ⊢
  have hB0 : Below w.heap.size w WB := hal2
  obtain ⟨F1, hF1e⟩ : ∃ F, w.heap.size = F := ⟨_, rfl⟩
  have hf0' : FC WB F1 0 0 := by rw [← hF1e]; exact hf0
  rw [show (Value.pointer (some ⟨w.heap.size, 0, none⟩)) = Value.pointer (some ⟨F1, 0, none⟩) by rw [hF1e]]
  clear hf0
  have hf0 := hf0'
  clear hf0'
  have hF1 : w.heap.size ≤ F1 := by omega
  have hlf := HLF.out WB hB0
  refine hlf.mono ?_
  rintro e w1 ⟨rfl, hb1⟩
  clear hlf
  have hB1 : Below w.heap.size w w1 := hB0.trans (hb1.mono hB0.size)
  have hf1 := hf0.below hb1
  have hal3 : Below w1.heap.size w1 (w1.alloc (.cells #[.int .i64 EC, .int .i64 (atZ EA)] 30)) := (Below.refl _ _).alloc (Nat.le_refl _) _
  have hgR : FC (w1.alloc (.cells #[.int .i64 EC, .int .i64 (atZ EA)] 30)) w1.heap.size EC (atZ EA) := heap_alloc_new _ _
  have hfR := hf1.below hal3
  skip
  have hBR : Below w.heap.size w (w1.alloc (.cells #[.int .i64 EC, .int .i64 (atZ EA)] 30)) := hB1.trans (hal3.mono hB1.size)
  have hG1 : w.heap.size ≤ w1.heap.size := hB1.size
  have hF1G : F1 < w1.heap.size := hf1.lt
  clear hal3 hf1 hf0 hal2 hb1 hB0 hWB hB1 
  go_upto_region 2 with fail
  generalize w1.alloc (.cells #[.int .i64 EC, .int .i64 (atZ EA)] 30) = W2 at hgR hfR hBR  ⊢
  generalize w1.heap.size = G at hgR hG1 hF1G ⊢
  clear hF1e
  by_cases hE : EC = 0
  · subst hE
    have HR2 : Hid (R = if FI < 0 then (6, none) else (0, none)) := by
      show _ = _
      rw [HR.out, if_neg (by simp)]
    clear HR
    have k0 := hgR.c0
    have hfo := HFO.out W2 hBR
    go_wp2_with fail
    refine hfo.mono ?_
    rintro e w5 ⟨rfl, rfl⟩
    clear hfo
    by_cases hFI : FI < 0
    · have HRE : Hid (R = (6, none)) := by
        show _ = _
        rw [HR2.out, if_pos hFI]
      have HRLE : Hid (RL = []) := by
        show _ = _
        rw [HRL.out, HRE.out]; rfl
      clear HR2
      have hbr := bare_of (6) w5
      go_wp2_with fail
      refine hbr.mono ?_
      rintro e w5x ⟨rfl, hbn⟩
      clear hbr
      have hfn := hfR.below hbn
      have hgn := hgR.below hbn
      have hBn : Below w.heap.size w w5x := hBR.trans (hbn.mono hBR.size)
      have p0 := hgn.c0
      have p1 := hgn.c1
      have pz := hgn.fz
      go_upto_region 4 with fail
      have hgR := hgn.set (6) (-1)
      have hfR : FC ((w5x.setCell ⟨G, 0, none⟩ (.int .i64 (6))).setCell ⟨G, 1, none⟩ (.int .i64 (-1))) F1 0 0 := fc_other (fc_other hfn (by omega) _ _) (by omega) _ _
      have hBR : Below w.heap.size w ((w5x.setCell ⟨G, 0, none⟩ (.int .i64 (6))).setCell ⟨G, 1, none⟩ (.int .i64 (-1))) := (hBn.setCell hG1 _).setCell hG1 _
      clear hfn hgn hBn p0 p1 pz hbn
      generalize (w5x.setCell ⟨G, 0, none⟩ (.int .i64 (6))).setCell ⟨G, 1, none⟩ (.int .i64 (-1)) = W6 at hfR hgR hBR ⊢
      have j0 := hfR.c0
      have j1 := hfR.c1
      have jz := hfR.fz
      have k0 := hgR.c0
      have k1 := hgR.c1
      have hBd := hBR.drew
      have hfd : FC W6.drew F1 0 0 := hfR.below (Below.refl W6.heap.size W6).drew
      have hgd : FC W6.drew G (6) (-1) := hgR.below (Below.refl W6.heap.size W6).drew
      have m0 := hfd.c0
      have m1 := hfd.c1
      have mz := hfd.fz
      have n0 := hgd.c0
      have n1 := hgd.c1
      clear hfd hgd hfR hgR
      go_wp2_with fail
      go_region
      all_goals go_wp2
      all_goals refine bodyPost_ret (v := .tuple #[.slice none 0 0, .agg #[.int .i64 (6), .int .i64 (-1)]]) (by simp [results, Tryz.results21, go_sem, j0, j1]) rfl ⟨_, by rw [HRE.out] <;> rfl, by rw [HRLE.out]; exact Or.inl ⟨none, 0, rfl, fun _ => rfl, rfl⟩, ?_⟩
      all_goals first
        | exact (hBR.setCell hF1 _).setCell hF1 _
        | exact (hBd.setCell hF1 _).setCell hF1 _
        | exact ((hBR.setCell hF1 _).setCell hF1 _).drew
    · have HRE : Hid (R = (0, none)) := by
        show _ = _
        rw [HR2.out, if_neg hFI]
      have HRLE : Hid (RL = fs.filter (offP p)) := by
        show _ = _
        rw [HRL.out, HRE.out]; rfl
      clear HR2
      have hpl := HWO.out w5 hBR
      go_wp2_with fail
      refine hpl.mono ?_
      rintro e w6 ⟨v6, rfl, hv6, hb6⟩
      clear hpl k0
      have hf6 := hfR.below hb6
      have hB6 : Below w.heap.size w w6 := hBR.trans (hb6.mono hBR.size)
      have hfi := fine_of w6
      go_wp2_with fail
      refine hfi.mono ?_
      rintro e w7 ⟨rfl, hb7⟩
      clear hfi
      have hf7 := hf6.below hb7
      have hB7 : Below w.heap.size w w7 := hB6.trans (hb7.mono hB6.size)
      have j0 := hf7.c0
      have j1 := hf7.c1
      have jz := hf7.fz
      go_wp2
      refine bodyPost_ret (v := .tuple #[v6, .agg #[.int .i64 0, .int .i64 (-1)]]) (by simp [results, Tryz.results21, go_sem, j0, j1]) rfl ⟨_, by rw [HRE.out]; rfl, ?_, (hB7.setCell hF1 _).setCell hF1 _⟩
      rw [HRLE.out]
      exact hf7.ne_fls (hv6.below hb7) _ _ _ _
  · have HRE : Hid (R = (EC, EA)) := by
      show _ = _
      rw [HR.out, if_pos hE]
    have HRLE : Hid (RL = []) := by
      show _ = _
      rw [HRL.out, HRE.out, if_neg hE]
    have q1 : ¬ ((EC : Nat) : Int) = 0 := by omega
    have q2 : (((EC : Nat) : Int) == 0) = false := beq_eq_false_iff_ne.2 q1
    have q3 : (0 : Int) < ((EC : Nat) : Int) := by omega
    clear HR
    have j0 := hfR.c0
    have j1 := hfR.c1
    have jz := hfR.fz
    have k0 := hgR.c0
    have k1 := hgR.c1
    have hBd := hBR.drew
    have hfd : FC W2.drew F1 0 0 := hfR.below (Below.refl W2.heap.size W2).drew
    have hgd : FC W2.drew G ((EC : Nat)) (atZ EA) := hgR.below (Below.refl W2.heap.size W2).drew
    have m0 := hfd.c0
    have m1 := hfd.c1
    have mz := hfd.fz
    have n0 := hgd.c0
    have n1 := hgd.c1
    clear hfd hgd hfR hgR
    go_wp2_with fail
    go_region
    all_goals go_wp2
    all_goals refine bodyPost_ret (v := .tuple #[.slice none 0 0, .agg #[.int .i64 ((EC : Nat)), .int .i64 (atZ EA)]]) (by simp [results, Tryz.results21, go_sem, j0, j1]) rfl ⟨_, by rw [HRE.out] <;> rfl, by rw [HRLE.out]; exact Or.inl ⟨none, 0, rfl, fun _ => rfl, rfl⟩, ?_⟩
    all_goals first
      | exact (hBR.setCell hF1 _).setCell hF1 _
      | exact (hBd.setCell hF1 _).setCell hF1 _
      | exact ((hBR.setCell hF1 _).setCell hF1 _).drew
end Go.Proofs.YtpiagofhgalklacGreatDoor
namespace Go.Proofs.YtpiagofhgalklacGreatDoor
open Go.RowKit Go.Extern.Stop Go.Stop Go.Extern Go.Sort Go.Shelf Go.Lib

/-- An error's value tells a fault: its number, and where. -/
def ToldE (W : World) (a : Nat → Addr) (ev : Value) (c : Nat × Option Nat) : Prop := match c.2 with
  | none => ev = errV a c.1
  | some j => c.1 ≠ 0 ∧ ∃ fb, ev = .iface 85 (.pointer (some ⟨fb, 0, none⟩)) ∧ W.cell? ⟨fb, 0, none⟩ = some (.int .i64 j) ∧ W.cell? ⟨fb, 1, none⟩ = some (errV a c.1)

theorem ToldE.ok {W : World} {a : Nat → Addr} {ev : Value} {c : Nat × Option Nat} (h : ToldE W a ev c) (h0 : c.1 = 0) : ev = .nilIface := by
  obtain ⟨n, o⟩ := c
  dsimp only at h0
  subst h0
  cases o with
  | none => exact h
  | some j => exact absurd rfl h.1

theorem ToldE.bad {W : World} {a : Nat → Addr} {ev : Value} {c : Nat × Option Nat} (h : ToldE W a ev c) (h0 : c.1 ≠ 0) : ∃ t u, ev = .iface t u := by
  obtain ⟨n, o⟩ := c
  cases o with
  | none =>
    cases n with
    | zero => exact absurd rfl h0
    | succ n => exact ⟨_, _, h⟩
  | some j =>
    obtain ⟨_, fb, h, _⟩ := h
    exact ⟨_, _, h⟩

/-- A cell that is no number, and the one ahead of it, are as they were. -/
def KeepsC (W W' : World) : Prop := ∀ (fb : Nat) (x : Value), W.cell? ⟨fb, 1, none⟩ = some x → (∀ n : Int, x ≠ .int .i64 n) → W'.cell? ⟨fb, 0, none⟩ = W.cell? ⟨fb, 0, none⟩ ∧ W'.cell? ⟨fb, 1, none⟩ = W.cell? ⟨fb, 1, none⟩

theorem keepsC_below {W W' : World} (hb : Below W.heap.size W W') : KeepsC W W' := by
  intro fb x h _
  have e := hb.block fb (cell_lt h)
  unfold World.cell?
  rw [e]
  exact ⟨rfl, rfl⟩

theorem keepsC_set {W W1 : World} (h : KeepsC W W1) {F : Nat} {x y : Int} (hF : FC W1 F x y) (z z2 : Value) : KeepsC W ((W1.setCell ⟨F, 0, none⟩ z).setCell ⟨F, 1, none⟩ z2) := by
  intro fb u hu hn
  obtain ⟨h0, h1⟩ := h fb u hu hn
  have hne : F ≠ fb := by
    intro e
    subst e
    rw [hF.c1, hu] at h1
    exact hn y (Option.some.inj h1).symm
  rw [← h0, ← h1]
  have hk : ∀ p, ((W1.setCell ⟨F, 0, none⟩ z).setCell ⟨F, 1, none⟩ z2).cell? ⟨fb, p, none⟩ = W1.cell? ⟨fb, p, none⟩ := fun p => by
    rw [World.cell?_setCell_other _ _ _ _ (by intro e; injection e with e; exact hne e), World.cell?_setCell_other _ _ _ _ (by intro e; injection e with e; exact hne e)]
  exact ⟨hk 0, hk 1⟩

theorem ToldE.keep {W W' : World} {a : Nat → Addr} {ev : Value} {c : Nat × Option Nat} (h : ToldE W a ev c) (hk : KeepsC W W') : ToldE W' a ev c := by
  obtain ⟨n, o⟩ := c
  cases o with
  | none => exact h
  | some j =>
    obtain ⟨h0, fb, h1, c0, c1⟩ := h
    obtain ⟨k0, k1⟩ := hk fb _ c1 (fun z e => by
      cases n with
      | zero => exact h0 rfl
      | succ n => simp [errV] at e)
    exact ⟨h0, fb, h1, k0.trans c0, k1.trans c1⟩

def Short (fs : List Fl) : Prop := ∀ g ∈ fs, g.1.size ≤ 30 ∧ g.2.1.size ≤ 30

/-- A file in a block of its own, as a variable of a loop has it. -/
def boxW (W : World) (f : Fl) : World := W.alloc (.cells #[.string f.1, .string f.2.1, .int .i64 f.2.2.1, .int .i64 f.2.2.2.1, .int .i64 f.2.2.2.2.1, .int .i64 f.2.2.2.2.2] 24)
theorem boxW_at (W : World) (f : Fl) : FlAt (boxW W f) W.heap.size f := FlAt.new W f
theorem boxW_below (W : World) (f : Fl) : Below W.heap.size W (boxW W f) := (Below.refl _ _).alloc (Nat.le_refl _) _

theorem flsAt_take {w : World} {b o cap : Nat} {fs : List Fl} (h : FlCells w b o fs) {n : Nat} (hn : n ≤ fs.length) (hc : fs.length ≤ cap) : FlsAt w (.slice (some ⟨b, o, none⟩) n cap) (fs.take n) := by
  refine Or.inr ⟨b, o, cap, ?_, ?_, flCells_take h n⟩
  · rw [List.length_take, Nat.min_eq_left hn]
  · rw [List.length_take]; omega

theorem flsAt_drop {w : World} {b o cap L : Nat} {fs : List Fl} (h : FlCells w b o fs) {n : Nat} (hn : n ≤ fs.length) (hc : fs.length ≤ cap) (hL : fs.length = L) : FlsAt w (.slice (some ⟨b, o + n * 6, none⟩) (L - n) (cap - n)) (fs.drop n) := by
  refine Or.inr ⟨b, o + n * 6, cap - n, ?_, ?_, flCells_drop h n⟩
  · rw [List.length_drop, hL]
  · rw [List.length_drop]; omega
end Go.Proofs.YtpiagofhgalklacGreatDoor
