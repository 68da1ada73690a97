/-
  The contracts of the document's own IsBehind, FindOf, SameFiles, Without, PruneOf and ListText.
  Plain mathematics of what a snap has: its files are gone through; rows with the numbers of their files.
  Plain mathematics of what a snap has: rows of some keys are all rows, of these keys.
-/
import Derived.Test.YtoobgeekmaeccaaGreatDoorFileLaw
import Derived.Test.YtoobgeekmaeccaaGreatDoorFileText
import Derived.BigQuiet
import Derived.Test.YtoobgeekmaeccaaGreatDoorStorePure
import Derived.Test.YtoobgeekmaeccaaGreatDoorRowRead
import Derived.Test.YtoobgeekmaeccaaGreatDoorRefStore2
import Derived.Test.YtoobgeekmaeccaaGreatDoorFileNum
import Derived.Test.YtoobgeekmaeccaaGreatDoorAppendSrc
namespace Go.Proofs.YtoobgeekmaeccaaGreatDoor
open Go.RowKit Go.Extern.Stop Go.Stop Go.Extern Go.Sort Go.Shelf Go.Lib

theorem cells6 (w : World) (f : Fl) : ∀ j u, (encF f)[j]? = some u → (w.alloc (.cells #[.string f.1, .string f.2.1, .int .i64 f.2.2.1, .int .i64 f.2.2.2.1, .int .i64 f.2.2.2.2.1, .int .i64 f.2.2.2.2.2] 63)).cell? ((⟨w.heap.size, 0, none⟩ : Addr).add j) = some u := by
  intro j u hu
  rw [Addr.add_lit, Nat.zero_add, cell_of_row _ _ _ _ _ _ (heap_alloc_new _ _)]
  rw [← hu]
  simp [encF]

set_option maxRecDepth 100000 in
set_option maxHeartbeats 2000000 in
theorem isBehind_any (p q : ByteArray) (w : World) (h1 : p.size ≤ 100000) (h2 : q.size ≤ 100000) :
    Calls Tryz.prog 68 #[.string p, .string q] w fun e w' => e = .returned (.bool (decide (pk q.data.toList < pk p.data.toList))) ∧ w' = w := by
  have ha := pathOf_any p w h1
  have hb := pathOf_any q w h2
  have hpp := @pk_some p.data.toList
  have hpq := @pk_some q.data.toList
  have key : ∀ s : List UInt8, (pathR s = ([], 0, 5) ∧ pk s = 0) ∨ (∃ n : Int, pathR s = (kData, n, 0) ∧ pk s = n ∧ 1 ≤ n ∧ n ≤ 1073741824) ∨ ∃ n : Int, pathR s = (kGone, n, 0) ∧ pk s = 1073741824 + n ∧ 1 ≤ n ∧ n ≤ 1073741824 := fun s => by
    cases hs : pathO s with
    | none => exact Or.inl ⟨pathR_none hs, by unfold pk; rw [hs]⟩
    | some gn =>
      obtain ⟨g, n⟩ := gn
      obtain ⟨e, b1, b2⟩ := pk_some hs
      cases g
      · exact Or.inr (Or.inl ⟨n, pathR_some hs, by simpa using e, b1, b2⟩)
      · exact Or.inr (Or.inr ⟨n, pathR_some hs, by simpa using e, b1, b2⟩)
  have ka := key p.data.toList
  have kb := key q.data.toList
  generalize pk p.data.toList = A at ka
  generalize pk q.data.toList = B at kb
  generalize pathR p.data.toList = RA at ha ka
  generalize pathR q.data.toList = RB at hb kb
  clear key hpp hpq h1 h2
  have eD : bytesOf kData = ⟨#[100, 97, 116, 97]⟩ := rfl
  have eG : bytesOf kGone = ⟨#[103, 111, 110, 101]⟩ := rfl
  have eE : bytesOf [] = ⟨#[]⟩ := rfl
  rcases ka with ⟨rfl, rfl⟩ | ⟨n, rfl, rfl, n1, n2⟩ | ⟨n, rfl, rfl, n1, n2⟩ <;> rcases kb with ⟨rfl, rfl⟩ | ⟨m, rfl, rfl, m1, m2⟩ | ⟨m, rfl, rfl, m1, m2⟩
  · dsimp only at ha hb
    rw [eE] at ha
    rw [eE] at hb
    go_enter Tryz.func68, Tryz.ntmps68
    go_wp2_with fail
    refine ha.mono ?_
    rintro e w1 ⟨rfl, hw1⟩
    rw [hw1]
    clear ha hw1
    go_wp2_with fail
    refine hb.mono ?_
    rintro e w2 ⟨rfl, hw2⟩
    rw [hw2]
    clear hb hw2
    go_wp2
    go_ret
    exact ⟨rfl, rfl⟩
  · dsimp only at ha hb
    rw [eE] at ha
    rw [eD] at hb
    have hd : decide ((B : Int) < 0) = false := decide_eq_false (by omega)
    rw [hd]
    clear hd
    have hg : ∀ W : World, (binOp .gtr 9 (.string ⟨#[]⟩) (.string ⟨#[100, 97, 116, 97]⟩)).run Tryz.prog W = .ok (.bool false) W := fun W => by first | rfl | kernel_rfl | simp [binOp, Op.stringOp]
    go_enter Tryz.func68, Tryz.ntmps68
    go_wp2_with fail
    refine ha.mono ?_
    rintro e w1 ⟨rfl, hw1⟩
    rw [hw1]
    clear ha hw1
    go_wp2_with fail
    refine hb.mono ?_
    rintro e w2 ⟨rfl, hw2⟩
    rw [hw2]
    clear hb hw2
    go_wp2
    go_ret
    exact ⟨rfl, rfl⟩
  · dsimp only at ha hb
    rw [eE] at ha
    rw [eG] at hb
    have hd : decide ((1073741824 + m : Int) < 0) = false := decide_eq_false (by omega)
    rw [hd]
    clear hd
    have hg : ∀ W : World, (binOp .gtr 9 (.string ⟨#[]⟩) (.string ⟨#[103, 111, 110, 101]⟩)).run Tryz.prog W = .ok (.bool false) W := fun W => by first | rfl | kernel_rfl | simp [binOp, Op.stringOp]
    go_enter Tryz.func68, Tryz.ntmps68
    go_wp2_with fail
    refine ha.mono ?_
    rintro e w1 ⟨rfl, hw1⟩
    rw [hw1]
    clear ha hw1
    go_wp2_with fail
    refine hb.mono ?_
    rintro e w2 ⟨rfl, hw2⟩
    rw [hw2]
    clear hb hw2
    go_wp2
    go_ret
    exact ⟨rfl, rfl⟩
  · dsimp only at ha hb
    rw [eD] at ha
    rw [eE] at hb
    have hd : decide ((0 : Int) < A) = true := decide_eq_true (by omega)
    rw [hd]
    clear hd
    have hg : ∀ W : World, (binOp .gtr 9 (.string ⟨#[100, 97, 116, 97]⟩) (.string ⟨#[]⟩)).run Tryz.prog W = .ok (.bool true) W := fun W => by first | rfl | kernel_rfl | simp [binOp, Op.stringOp]
    go_enter Tryz.func68, Tryz.ntmps68
    go_wp2_with fail
    refine ha.mono ?_
    rintro e w1 ⟨rfl, hw1⟩
    rw [hw1]
    clear ha hw1
    go_wp2_with fail
    refine hb.mono ?_
    rintro e w2 ⟨rfl, hw2⟩
    rw [hw2]
    clear hb hw2
    go_wp2
    go_ret
    exact ⟨rfl, rfl⟩
  · dsimp only at ha hb
    rw [eD] at ha
    rw [eD] at hb
    go_enter Tryz.func68, Tryz.ntmps68
    go_wp2_with fail
    refine ha.mono ?_
    rintro e w1 ⟨rfl, hw1⟩
    rw [hw1]
    clear ha hw1
    go_wp2_with fail
    refine hb.mono ?_
    rintro e w2 ⟨rfl, hw2⟩
    rw [hw2]
    clear hb hw2
    go_wp2
    go_ret
    exact ⟨rfl, rfl⟩
  · dsimp only at ha hb
    rw [eD] at ha
    rw [eG] at hb
    have hd : decide ((1073741824 + m : Int) < A) = false := decide_eq_false (by omega)
    rw [hd]
    clear hd
    have hg : ∀ W : World, (binOp .gtr 9 (.string ⟨#[100, 97, 116, 97]⟩) (.string ⟨#[103, 111, 110, 101]⟩)).run Tryz.prog W = .ok (.bool false) W := fun W => by first | rfl | kernel_rfl | simp [binOp, Op.stringOp]
    go_enter Tryz.func68, Tryz.ntmps68
    go_wp2_with fail
    refine ha.mono ?_
    rintro e w1 ⟨rfl, hw1⟩
    rw [hw1]
    clear ha hw1
    go_wp2_with fail
    refine hb.mono ?_
    rintro e w2 ⟨rfl, hw2⟩
    rw [hw2]
    clear hb hw2
    go_wp2
    go_ret
    exact ⟨rfl, rfl⟩
  · dsimp only at ha hb
    rw [eG] at ha
    rw [eE] at hb
    have hd : decide ((0 : Int) < 1073741824 + n) = true := decide_eq_true (by omega)
    rw [hd]
    clear hd
    have hg : ∀ W : World, (binOp .gtr 9 (.string ⟨#[103, 111, 110, 101]⟩) (.string ⟨#[]⟩)).run Tryz.prog W = .ok (.bool true) W := fun W => by first | rfl | kernel_rfl | simp [binOp, Op.stringOp]
    go_enter Tryz.func68, Tryz.ntmps68
    go_wp2_with fail
    refine ha.mono ?_
    rintro e w1 ⟨rfl, hw1⟩
    rw [hw1]
    clear ha hw1
    go_wp2_with fail
    refine hb.mono ?_
    rintro e w2 ⟨rfl, hw2⟩
    rw [hw2]
    clear hb hw2
    go_wp2
    go_ret
    exact ⟨rfl, rfl⟩
  · dsimp only at ha hb
    rw [eG] at ha
    rw [eD] at hb
    have hd : decide ((B : Int) < 1073741824 + n) = true := decide_eq_true (by omega)
    rw [hd]
    clear hd
    have hg : ∀ W : World, (binOp .gtr 9 (.string ⟨#[103, 111, 110, 101]⟩) (.string ⟨#[100, 97, 116, 97]⟩)).run Tryz.prog W = .ok (.bool true) W := fun W => by first | rfl | kernel_rfl | simp [binOp, Op.stringOp]
    go_enter Tryz.func68, Tryz.ntmps68
    go_wp2_with fail
    refine ha.mono ?_
    rintro e w1 ⟨rfl, hw1⟩
    rw [hw1]
    clear ha hw1
    go_wp2_with fail
    refine hb.mono ?_
    rintro e w2 ⟨rfl, hw2⟩
    rw [hw2]
    clear hb hw2
    go_wp2
    go_ret
    exact ⟨rfl, rfl⟩
  · dsimp only at ha hb
    rw [eG] at ha
    rw [eG] at hb
    go_enter Tryz.func68, Tryz.ntmps68
    go_wp2_with fail
    refine ha.mono ?_
    rintro e w1 ⟨rfl, hw1⟩
    rw [hw1]
    clear ha hw1
    go_wp2_with fail
    refine hb.mono ?_
    rintro e w2 ⟨rfl, hw2⟩
    rw [hw2]
    clear hb hw2
    go_wp2
    go_ret
    exact ⟨congrArg (fun b => Ending.returned (Value.bool b)) (by first | rfl | (simp <;> omega)), rfl⟩

def findF (fs : List Fl) (p : ByteArray) : Int := match fs.findIdx? (fun f => decide (f.1 = p)) with
  | some i => i
  | none => -1

theorem findF_at {fs : List Fl} {p : ByteArray} {n : Nat} (hn : n < fs.length) (h : ∀ j (h : j < fs.length), j < n → fs[j].1 ≠ p) (e : fs[n].1 = p) : findF fs p = n := by
  unfold findF
  have : fs.findIdx? (fun f => decide (f.1 = p)) = some n := by
    rw [List.findIdx?_eq_some_iff_getElem]
    exact ⟨hn, by simpa using e, fun j hj => by simpa using h j (by omega) hj⟩
  rw [this]
theorem findF_no {fs : List Fl} {p : ByteArray} (h : ∀ j (h : j < fs.length), fs[j].1 ≠ p) : findF fs p = -1 := by
  unfold findF
  have : fs.findIdx? (fun f => decide (f.1 = p)) = none := by
    rw [List.findIdx?_eq_none_iff]
    intro f hf
    obtain ⟨j, hj, rfl⟩ := List.mem_iff_getElem.1 hf
    simpa using h j hj
  rw [this]

theorem nopath_succ {fs : List Fl} {n : Nat} {p : ByteArray} (h : ∀ j (h : j < fs.length), j < n → fs[j].1 ≠ p) (hn : n < fs.length) (e : fs[n].1 ≠ p) : ∀ j (h : j < fs.length), j < n + 1 → fs[j].1 ≠ p := fun j hj hjn => by
  rcases Nat.lt_or_ge j n with h' | h'
  · exact h j hj h'
  · obtain rfl : j = n := by omega
    exact e

set_option maxRecDepth 100000 in
set_option maxHeartbeats 2000000 in
theorem findOf_any (v : Value) (fs : List Fl) (p : ByteArray) (w : World) (hx : FlsAt w v fs) (hl : fs.length ≤ 20000) :
    Calls Tryz.prog 36 #[v, .string p] w fun e w' => e = .returned (.int .i64 (findF fs p)) ∧ w' = w := by
  obtain ⟨q, cap, rfl⟩ := hx.form
  have HFX : Hid (FlsAt w (.slice q fs.length cap) fs) := hx
  obtain ⟨L, hL⟩ : ∃ L, fs.length = L := ⟨_, rfl⟩
  have HX : Hid (fs.length = L) := hL
  rw [hL] at hl ⊢
  generalize hR : findF fs p = R
  have HR : Hid (findF fs p = R) := hR
  clear hL hx hR
  go_enter Tryz.func36, Tryz.ntmps36
  go_wp2
  go_loop [5] (fun k => ∃ n : Nat, n ≤ L ∧ k = .int .i64 n ∧ ∀ j (h : j < fs.length), j < n → fs[j].1 ≠ p) (fun k => L - (intOf k).toNat)
  case atStart => exact ⟨0, by omega, rfl, fun j h h' => absurd h' (Nat.not_lt_zero _)⟩
  case round =>
    obtain ⟨n, hn, rfl, hno⟩ := hrel
    have HNO : Hid (∀ j (h : j < fs.length), j < n → fs[j].1 ≠ p) := hno
    clear hno
    by_cases hlt : n < L
    · have hltx : n < fs.length := by rw [HX.out]; exact hlt
      obtain ⟨b, o, hq, hc⟩ := HFX.out.cells (fun e => by rw [e] at hltx; simp at hltx)
      subst hq
      have c0 := (hc n hltx).1
      have hi : (n : Int) < (L : Int) := by omega
      have hi0' : (0 : Int) ≤ (n : Int) := by omega
      by_cases he : fs[n].1 = p
      · have hRR : R = n := by rw [← HR.out]; exact findF_at hltx HNO.out he
        subst hRR
        rw [he] at c0
        have d1 : (p.toList == p.toList) = true := by simp
        clear hc he hltx
        go_wp2
        go_ret
        exact ⟨rfl, rfl⟩
      · have HN1 : Hid (∀ j (h : j < fs.length), j < n + 1 → fs[j].1 ≠ p) := nopath_succ HNO.out hltx he
        have d1 : (fs[n].1.toList == p.toList) = false := neBB (fun e => he (part_ext e))
        generalize fs[n].1 = fp at c0 d1
        clear hc he hltx
        go_wp2
        go_round
        case rel => exact ⟨n + 1, by omega, by go_num, HN1.out⟩
        case measure => simp [intOf]; omega
    · obtain rfl : n = L := by omega
      have hRR : R = -1 := by rw [← HR.out]; exact findF_no (fun j hj => HNO.out j hj (by rw [← HX.out]; exact hj))
      subst hRR
      go_wp2
      go_ret
      exact ⟨rfl, rfl⟩

def kept (P : Fl → Bool) (fs : List Fl) (n : Nat) : List Fl := (fs.take n).filter P
theorem kept_zero (P : Fl → Bool) (fs : List Fl) : kept P fs 0 = [] := by simp [kept]
theorem kept_len (P : Fl → Bool) (fs : List Fl) (n : Nat) : (kept P fs n).length ≤ n := by
  have := List.length_filter_le P (fs.take n)
  rw [List.length_take] at this
  unfold kept
  omega
theorem kept_succ (P : Fl → Bool) (fs : List Fl) (n : Nat) (h : n < fs.length) : kept P fs (n + 1) = if P fs[n] = true then kept P fs n ++ [fs[n]] else kept P fs n := by
  unfold kept
  rw [← List.take_append_getElem h, List.filter_append]
  split
  · rename_i hp; rw [List.filter_cons_of_pos hp]; rfl
  · rename_i hp; rw [List.filter_cons_of_neg hp]; simp
theorem kept_all (P : Fl → Bool) (fs : List Fl) : kept P fs fs.length = fs.filter P := by unfold kept; rw [List.take_length]

def inP (lo hi : Int) (f : Fl) : Bool := decide ((if f.2.2.2.1 < lo then lo else f.2.2.2.1) ≤ (if hi < f.2.2.2.2.1 then hi else f.2.2.2.2.1))

end Go.Proofs.YtoobgeekmaeccaaGreatDoor
namespace Go.Proofs.YtoobgeekmaeccaaGreatDoor
open Go Go.Lib

def fileR (obs : List Ob) (x : Fl) : Nat × ByteArray :=
  if (getT obs x.1).2 ≠ 0 then ((getT obs x.1).2, ⟨#[]⟩) else
  if (ofF x.1 x.2.1 (getT obs x.1).1.data.toList x.2.2.2.2.2).2 ≠ 0 then ((ofF x.1 x.2.1 (getT obs x.1).1.data.toList x.2.2.2.2.2).2, ⟨#[]⟩) else
  if (ofF x.1 x.2.1 (getT obs x.1).1.data.toList x.2.2.2.2.2).1 ≠ x then (3, ⟨#[]⟩) else (0, (getT obs x.1).1)

def addS (lo hi : Int) (x : Fl) (text : ByteArray) (acc : List (Rw × Int)) : List (Rw × Int) :=
  if x.2.1.data.toList ≠ [45] then acc ++ ((dataO text.data.toList).1.filter (inB lo hi)).map fun r => (r, x.2.2.2.2.2)
  else acc.filter fun p => !((goneO text.data.toList).1.contains p.1.2.1 && decide (p.2 < x.2.2.2.2.2))

def scanG (obs : List Ob) (lo hi : Int) : List Fl → Nat → List (Rw × Int) → List (Rw × Int) × Nat × Option Nat
  | [], _, acc => (acc, 0, none)
  | x :: r, i, acc => if inP lo hi x = false then scanG obs lo hi r (i + 1) acc else
      if (fileR obs x).1 ≠ 0 then ([], (fileR obs x).1, some i) else scanG obs lo hi r (i + 1) (addS lo hi x (fileR obs x).2 acc)

def rowsS (obs : List Ob) (s : Sn) (lo hi : Int) : List Rw × Nat × Option Nat :=
  if (snapE s).1 ≠ 0 then ([], snapE s) else
  if (scanG obs lo hi s.2.2.2.2.2.2 0 []).2.1 ≠ 0 then ([], (scanG obs lo hi s.2.2.2.2.2.2 0 []).2) else
  (sortR ((scanG obs lo hi s.2.2.2.2.2.2 0 []).1.map (·.1)), 0, none)

section
variable {obs : List Ob} {lo hi : Int} {fs : List Fl} {n : Nat} {acc : List (Rw × Int)}
end
theorem addS_data {lo hi : Int} {x : Fl} {text : ByteArray} {acc : List (Rw × Int)} (h : x.2.1.data.toList ≠ [45]) : addS lo hi x text acc = acc ++ ((dataO text.data.toList).1.filter (inB lo hi)).map fun r => (r, x.2.2.2.2.2) := by unfold addS; rw [if_pos h]
theorem addS_gone {lo hi : Int} {x : Fl} {text : ByteArray} {acc : List (Rw × Int)} (h : x.2.1.data.toList = [45]) : addS lo hi x text acc = acc.filter fun p => !((goneO text.data.toList).1.contains p.1.2.1 && decide (p.2 < x.2.2.2.2.2)) := by unfold addS; rw [if_neg (by simpa using h)]
end Go.Proofs.YtoobgeekmaeccaaGreatDoor
namespace Go.Proofs.YtoobgeekmaeccaaGreatDoor
open Go Go.Lib Go.Sort

abbrev minI : Int := -9223372036854775808
abbrev maxI : Int := 9223372036854775807

theorem sortR_id {xs : List Rw} (h : xs.Pairwise fun x y => (!(ltOf cfR) y x) = true) : sortR xs = xs := List.mergeSort_of_pairwise h
theorem sortR_filter (p : Rw → Bool) (xs : List Rw) : sortR (xs.filter p) = (sortR xs).filter p := by
  rw [← sortR_id ((sortR_sorted xs).sublist (List.filter_sublist (p := p)))]
  exact sortR_of_perm ((sortR_perm xs).symm.filter p)

theorem fileR_ok {obs : List Ob} {x : Fl} (h : (fileR obs x).1 = 0) : ofF x.1 x.2.1 (fileR obs x).2.data.toList x.2.2.2.2.2 = (x, 0) := by
  unfold fileR at h ⊢
  by_cases h1 : (getT obs x.1).2 ≠ 0
  · rw [if_pos h1] at h; exact absurd h h1
  · rw [if_neg h1] at h ⊢
    by_cases h2 : (ofF x.1 x.2.1 (getT obs x.1).1.data.toList x.2.2.2.2.2).2 ≠ 0
    · rw [if_pos h2] at h; exact absurd h h2
    · rw [if_neg h2] at h ⊢
      by_cases h3 : (ofF x.1 x.2.1 (getT obs x.1).1.data.toList x.2.2.2.2.2).1 ≠ x
      · rw [if_pos h3] at h; cases h
      · rw [if_neg h3]
        exact Prod.ext (by simpa using h3) (by simpa using h2)
theorem file_keys {obs : List Ob} {x : Fl} (h : (fileR obs x).1 = 0) : ∃ g n, pathO x.1.data.toList = some (g, n) ∧ partB g x.2.1.data.toList = true ∧ bndB x = true ∧ ∀ k ∈ (keysF g (fileR obs x).2.data.toList).1, x.2.2.2.1 ≤ k ∧ k ≤ x.2.2.2.2.1 := by
  have ho := fileR_ok h
  generalize (fileR obs x).2.data.toList = t at ho ⊢
  unfold ofF at ho
  split at ho
  · cases ho
  · rename_i g n hp
    split at ho
    · rename_i hk
      unfold chkF at ho
      split at ho
      · rename_i he
        obtain ⟨e1, _⟩ := Prod.mk.inj ho
        have hx : fileE x = 0 := by rw [← e1]; exact he
        obtain ⟨g', n', hp', hq, hb⟩ := file_good hx
        rw [hp] at hp'
        cases hp'
        refine ⟨g, n, hp, hq, hb, fun k hk' => ?_⟩
        have hne : (keysF g t).1 ≠ [] := fun e => by rw [e] at hk'; cases hk'
        have := (ends_mem hne).2.2 k hk'
        rw [← e1]
        exact this
      · cases ho
    · rename_i hk
      exact absurd (Prod.mk.inj ho).2 hk
theorem part_gone {g : Bool} {s : List UInt8} (h : partB g s = true) : s = [45] ↔ g = true := by
  unfold partB at h
  cases g with
  | true => simpa using h
  | false =>
    simp only [Bool.false_eq_true, if_false] at h
    refine ⟨fun e => ?_, fun e => by cases e⟩
    subst e
    revert h
    decide

theorem addS_out {obs : List Ob} {lo hi : Int} {x : Fl} {acc : List (Rw × Int)} (h : (fileR obs x).1 = 0) (hp : inP lo hi x = false) (ha : ∀ p ∈ acc, inB lo hi p.1 = true) : addS lo hi x (fileR obs x).2 acc = acc := by
  obtain ⟨g, n, hpath, hpart, hb, hk⟩ := file_keys h
  have hno : ∀ k : Int, x.2.2.2.1 ≤ k → k ≤ x.2.2.2.2.1 → ¬ (lo ≤ k ∧ k ≤ hi) := fun k h1 h2 h3 => by
    unfold inP at hp
    have := of_decide_eq_false hp
    apply this
    split <;> split <;> omega
  by_cases hg : x.2.1.data.toList = [45]
  · rw [addS_gone hg]
    obtain rfl := (part_gone hpart).1 hg
    refine List.filter_eq_self.2 fun p hp' => ?_
    have hin := ha p hp'
    unfold inB at hin
    simp only [Bool.and_eq_true, decide_eq_true_eq] at hin
    have : (goneO (fileR obs x).2.data.toList).1.contains p.1.2.1 = false := by
      cases hc : (goneO (fileR obs x).2.data.toList).1.contains p.1.2.1 with
      | false => rfl
      | true =>
        obtain ⟨h1, h2⟩ := hk p.1.2.1 (by simpa [keysF] using hc)
        exact absurd hin (hno _ h1 h2)
    rw [this]
    rfl
  · rw [addS_data hg]
    obtain rfl : g = false := by
      cases g with
      | false => rfl
      | true => exact absurd ((part_gone hpart).2 rfl) hg
    have : ((dataO (fileR obs x).2.data.toList).1.filter (inB lo hi)) = [] := by
      rw [List.filter_eq_nil_iff]
      intro r hr hin
      unfold inB at hin
      simp only [Bool.and_eq_true, decide_eq_true_eq] at hin
      obtain ⟨h1, h2⟩ := hk r.2.1 (by simp only [keysF, Bool.false_eq_true, if_false]; exact List.mem_map.2 ⟨r, hr, rfl⟩)
      exact hno _ h1 h2 hin
    rw [this]
    simp
theorem addS_in {lo hi : Int} (h1 : minI ≤ lo) (h2 : hi ≤ maxI) (x : Fl) (text : ByteArray) (acc : List (Rw × Int)) : addS lo hi x text (acc.filter fun p => inB lo hi p.1) = (addS minI maxI x text acc).filter fun p => inB lo hi p.1 := by
  by_cases hg : x.2.1.data.toList = [45]
  · rw [addS_gone hg, addS_gone hg, List.filter_filter, List.filter_filter]
    congr 1
    funext p
    exact Bool.and_comm _ _
  · rw [addS_data hg, addS_data hg, List.filter_append, List.filter_map, List.filter_filter]
    congr 2
    apply List.filter_congr
    intro r _
    unfold inB
    simp only [Function.comp]
    by_cases h3 : lo ≤ r.2.1
    · by_cases h4 : r.2.1 ≤ hi
      · have h5 : minI ≤ r.2.1 := Int.le_trans h1 h3
        have h6 : r.2.1 ≤ maxI := Int.le_trans h4 h2
        simp [h3, h4, h5, h6]
      · simp [h4]
    · simp [h3]
theorem inP_wide {lo hi : Int} {x : Fl} (h1 : minI ≤ lo) (h2 : hi ≤ maxI) (h : inP lo hi x = true) : inP minI maxI x = true := by
  unfold inP at *
  have := of_decide_eq_true h
  apply decide_eq_true
  split at this <;> split at this <;> split <;> split <;> omega

theorem scan_filter {obs : List Ob} {lo hi : Int} (h1 : minI ≤ lo) (h2 : hi ≤ maxI) : ∀ (fs : List Fl) (i : Nat) (acc out : List (Rw × Int)), scanG obs minI maxI fs i acc = (out, 0, none) → scanG obs lo hi fs i (acc.filter fun p => inB lo hi p.1) = (out.filter fun p => inB lo hi p.1, 0, none)
  | [], i, acc, out, h => by
    unfold scanG at h ⊢
    obtain ⟨rfl, _⟩ := Prod.mk.inj h
    rfl
  | x :: r, i, acc, out, h => by
    unfold scanG at h ⊢
    by_cases hw : inP minI maxI x = false
    · rw [if_pos hw] at h
      have hn : inP lo hi x = false := by
        cases hp : inP lo hi x with
        | false => rfl
        | true => rw [inP_wide h1 h2 hp] at hw; cases hw
      rw [if_pos hn]
      exact scan_filter h1 h2 r (i + 1) acc out h
    · rw [if_neg hw] at h
      by_cases hb : (fileR obs x).1 ≠ 0
      · rw [if_pos hb] at h
        have := (Prod.mk.inj (Prod.mk.inj h).2).1
        exact absurd this hb
      · rw [if_neg hb] at h
        have hb0 : (fileR obs x).1 = 0 := by simpa using hb
        have hr := scan_filter h1 h2 r (i + 1) _ out h
        rw [← addS_in h1 h2] at hr
        by_cases hp : inP lo hi x = false
        · rw [if_pos hp]
          rw [addS_out hb0 hp (fun p hp' => (List.mem_filter.1 hp').2)] at hr
          exact hr
        · rw [if_neg hp, if_neg hb]
          exact hr
theorem scan_fine {obs : List Ob} {lo hi : Int} : ∀ {fs : List Fl} {i : Nat} {acc : List (Rw × Int)}, (scanG obs lo hi fs i acc).2.1 = 0 → scanG obs lo hi fs i acc = ((scanG obs lo hi fs i acc).1, 0, none)
  | [], i, acc, h => rfl
  | x :: r, i, acc, h => by
    unfold scanG at h ⊢
    by_cases hw : inP lo hi x = false
    · rw [if_pos hw] at h ⊢
      exact scan_fine h
    · rw [if_neg hw] at h ⊢
      by_cases hb : (fileR obs x).1 ≠ 0
      · rw [if_pos hb] at h
        exact absurd h hb
      · rw [if_neg hb] at h ⊢
        exact scan_fine h
theorem rows_filter {obs : List Ob} {s : Sn} {lo hi : Int} (h1 : minI ≤ lo) (h2 : hi ≤ maxI) (h : (rowsS obs s minI maxI).2.1 = 0) : rowsS obs s lo hi = ((rowsS obs s minI maxI).1.filter (inB lo hi), 0, none) := by
  unfold rowsS at h ⊢
  by_cases he : (snapE s).1 ≠ 0
  · rw [if_pos he] at h
    exact absurd h he
  · rw [if_neg he] at h ⊢
    rw [if_neg he]
    by_cases hs : (scanG obs minI maxI s.2.2.2.2.2.2 0 []).2.1 ≠ 0
    · rw [if_pos hs] at h
      exact absurd h hs
    · rw [if_neg hs]
      have hfull : scanG obs minI maxI s.2.2.2.2.2.2 0 [] = ((scanG obs minI maxI s.2.2.2.2.2.2 0 []).1, 0, none) := scan_fine (by simpa using hs)
      have hf := scan_filter h1 h2 _ 0 [] _ hfull
      rw [List.filter_nil] at hf
      rw [hf]
      simp only [ne_eq, not_true_eq_false, if_false]
      rw [← sortR_filter, List.filter_map]
      rfl
end Go.Proofs.YtoobgeekmaeccaaGreatDoor
