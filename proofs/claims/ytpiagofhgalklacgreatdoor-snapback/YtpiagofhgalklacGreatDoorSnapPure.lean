/-
  Plain mathematics of snaps: their bounds, their text, what a text is.
-/
import Derived.Test.YtpiagofhgalklacGreatDoorListPure
namespace Go.Proofs.YtpiagofhgalklacGreatDoor
open Go Go.Lib

/-- A snap: its number, its parent's, seq, day, index, what it did, its files. -/
abbrev Sn := Int × Int × Int × Int × Int × ByteArray × List Fl

def kStart : List UInt8 := [115, 116, 97, 114, 116]
def kAppend : List UInt8 := [97, 112, 112, 101, 110, 100]
def kDelete : List UInt8 := [100, 101, 108, 101, 116, 101]
def kRewrite : List UInt8 := [114, 101, 119, 114, 105, 116, 101]
def kSnap : List UInt8 := [115, 110, 97, 112]

def opB (s : List UInt8) : Bool := decide (s = kStart) || decide (s = kAppend) || decide (s = kDelete) || decide (s = kRewrite)

theorem op_cases {s : List UInt8} (h : opB s = true) : s = kStart ∨ s = kAppend ∨ s = kDelete ∨ s = kRewrite := by
  simp only [opB, Bool.or_eq_true, decide_eq_true_eq] at h
  rcases h with ((h | h) | h) | h
  · exact Or.inl h
  · exact Or.inr (Or.inl h)
  · exact Or.inr (Or.inr (Or.inl h))
  · exact Or.inr (Or.inr (Or.inr h))

theorem op_len {s : List UInt8} (h : opB s = true) : s.length ≤ 7 := by
  rcases op_cases h with rfl | rfl | rfl | rfl <;> decide
theorem op_no_blank {s : List UInt8} (h : opB s = true) : ∀ c ∈ s, c ≠ 32 := by
  rcases op_cases h with rfl | rfl | rfl | rfl <;> decide
theorem op_no_end {s : List UInt8} (h : opB s = true) : ∀ c ∈ s, c ≠ 10 := by
  rcases op_cases h with rfl | rfl | rfl | rfl <;> decide

/-- The bounds of a snap's numbers. -/
def sbndB (s : Sn) : Bool := decide (1 ≤ s.1) && decide (s.1 ≤ 1073741824) && decide (0 ≤ s.2.1) && decide (s.2.1 < s.1) && decide (0 ≤ s.2.2.1) && decide (s.2.2.1 ≤ 1073741824) && decide (0 ≤ s.2.2.2.1) && decide (s.2.2.2.1 ≤ 100000) && decide (0 ≤ s.2.2.2.2.1) && decide (s.2.2.2.2.1 ≤ 1073741824)

theorem sbnd_all {s : Sn} : sbndB s = true ↔ ((1 ≤ s.1 ∧ s.1 ≤ 1073741824) ∧ (0 ≤ s.2.1 ∧ s.2.1 < s.1)) ∧ ((0 ≤ s.2.2.1 ∧ s.2.2.1 ≤ 1073741824) ∧ (0 ≤ s.2.2.2.1 ∧ s.2.2.2.1 ≤ 100000)) ∧ 0 ≤ s.2.2.2.2.1 ∧ s.2.2.2.2.1 ≤ 1073741824 := by
  simp only [sbndB, Bool.and_eq_true, decide_eq_true_eq]
  constructor
  · rintro ⟨⟨⟨⟨⟨⟨⟨⟨⟨a, b⟩, c⟩, d⟩, e⟩, f⟩, g⟩, h⟩, i⟩, j⟩
    exact ⟨⟨⟨a, b⟩, c, d⟩, ⟨⟨e, f⟩, g, h⟩, i, j⟩
  · rintro ⟨⟨⟨a, b⟩, c, d⟩, ⟨⟨e, f⟩, g, h⟩, i, j⟩
    exact ⟨⟨⟨⟨⟨⟨⟨⟨⟨a, b⟩, c⟩, d⟩, e⟩, f⟩, g⟩, h⟩, i⟩, j⟩

/-- The first file that is newer than the snap. -/
def seqG (seq : Int) : List Fl → Nat → Nat × Option Nat
  | [], _ => (0, none)
  | f :: r, i => if seq < f.2.2.2.2.2 then (9, some i) else seqG seq r (i + 1)

/-- A snap's fault. -/
def snapE (s : Sn) : Nat × Option Nat :=
  if sbndB s = false then (2, none) else if opB s.2.2.2.2.2.1.data.toList = false then (4, none) else
  if (listE s.2.2.2.2.2.2).1 ≠ 0 then listE s.2.2.2.2.2.2 else seqG s.2.2.1 s.2.2.2.2.2.2 0

theorem seqG_vals (seq : Int) : ∀ (fs : List Fl) (i : Nat), seqG seq fs i = (0, none) ∨ ∃ j, seqG seq fs i = (9, some j)
  | [], _ => Or.inl rfl
  | f :: r, i => by
    unfold seqG
    split
    · exact Or.inr ⟨i, rfl⟩
    · exact seqG_vals seq r (i + 1)

theorem snapE_le (s : Sn) : (snapE s).1 ≤ 12 := by
  unfold snapE
  split
  · exact (by decide : (2 : Nat) ≤ 12)
  · split
    · exact (by decide : (4 : Nat) ≤ 12)
    · split
      · unfold listE
        split
        · exact (by decide : (8 : Nat) ≤ 12)
        · exact lstG_le _ _ _
      · rcases seqG_vals s.2.2.1 s.2.2.2.2.2.2 0 with e | ⟨j, e⟩
        · rw [e]; exact Nat.zero_le _
        · rw [e]; exact (by decide : (9 : Nat) ≤ 12)

theorem snap_good {s : Sn} (h : (snapE s).1 = 0) : sbndB s = true ∧ opB s.2.2.2.2.2.1.data.toList = true ∧ (listE s.2.2.2.2.2.2).1 = 0 ∧ snapE s = (0, none) := by
  have h' := h
  unfold snapE at h ⊢
  by_cases h1 : sbndB s = false
  · rw [if_pos h1] at h; cases h
  · rw [if_neg h1] at h ⊢
    by_cases h2 : opB s.2.2.2.2.2.1.data.toList = false
    · rw [if_pos h2] at h; cases h
    · rw [if_neg h2] at h ⊢
      by_cases h3 : (listE s.2.2.2.2.2.2).1 ≠ 0
      · rw [if_pos h3] at h; exact absurd h h3
      · rw [if_neg h3] at h ⊢
        refine ⟨by simpa using h1, by simpa using h2, by simpa using h3, ?_⟩
        rcases seqG_vals s.2.2.1 s.2.2.2.2.2.2 0 with e | ⟨j, e⟩
        · exact e
        · rw [e] at h; cases h

/-- The first line of a snap's text. -/
def snapH (s : Sn) (sum : Int) : List UInt8 := kSnap ++ 32 :: (itoa s.1 ++ 32 :: (itoa s.2.1 ++ 32 :: (itoa s.2.2.1 ++ 32 :: (itoa s.2.2.2.1 ++ 32 :: (itoa s.2.2.2.2.1 ++ 32 :: (s.2.2.2.2.2.1.data.toList ++ 32 :: itoa sum))))))

/-- A snap's text. -/
def snapL (s : Sn) : List UInt8 := snapH s (sumL (listL s.2.2.2.2.2.2)) ++ 10 :: listL s.2.2.2.2.2.2

theorem snapH_no_end {s : Sn} (h : opB s.2.2.2.2.2.1.data.toList = true) (sum : Int) : ∀ c ∈ snapH s sum, c ≠ 10 := by
  intro c hc
  simp only [snapH, List.mem_append, List.mem_cons] at hc
  rcases hc with hc | rfl | hc | rfl | hc | rfl | hc | rfl | hc | rfl | hc | rfl | hc | rfl | hc
  · exact (show ∀ c ∈ kSnap, c ≠ 10 by decide) c hc
  · decide
  · exact itoa_no_end _ c hc
  · decide
  · exact itoa_no_end _ c hc
  · decide
  · exact itoa_no_end _ c hc
  · decide
  · exact itoa_no_end _ c hc
  · decide
  · exact itoa_no_end _ c hc
  · decide
  · exact op_no_end h c hc
  · decide
  · exact itoa_no_end _ c hc

theorem snapH_words {s : Sn} (h : opB s.2.2.2.2.2.1.data.toList = true) (sum : Int) : words (snapH s sum) = [kSnap, itoa s.1, itoa s.2.1, itoa s.2.2.1, itoa s.2.2.2.1, itoa s.2.2.2.2.1, s.2.2.2.2.2.1.data.toList, itoa sum] := by
  unfold snapH
  rw [words_append _ _ (by decide), words_append _ _ (itoa_no_blank _), words_append _ _ (itoa_no_blank _), words_append _ _ (itoa_no_blank _), words_append _ _ (itoa_no_blank _), words_append _ _ (itoa_no_blank _), words_append _ _ (op_no_blank h), words_none _ (itoa_no_blank _)]

def zeroS : Sn := (0, 0, 0, 0, 0, bytesOf [], [])

/-- Five numbers, and one more, of words. -/
def sixO (w1 w2 w3 w4 w5 w7 : List UInt8) : Option (Int × Int × Int × Int × Int × Int) := match numO w1, numO w2, numO w3, numO w4, numO w5, numO w7 with
  | some a, some b, some c, some d, some e, some g => some (a, b, c, d, e, g)
  | _, _, _, _, _, _ => none

/-- What a first line is: its numbers, what was done, its sum. -/
def snapO (l : List UInt8) : Option (Int × Int × Int × Int × Int × List UInt8 × Int) := match words l with
  | [k, w1, w2, w3, w4, w5, op, w7] => match sixO w1 w2 w3 w4 w5 w7 with
    | some (a, b, c, d, e, g) => if k = kSnap then some (a, b, c, d, e, op, g) else none
    | none => none
  | _ => none

/-- What a text is: a snap, an error's number, its place. -/
def readS (l : List UInt8) : Sn × Nat × Option Nat :=
  if 20000 < l.length then (zeroS, 2, none) else
  if (Lib.cut l [10]).2.2 = false then (zeroS, 1, none) else
  match snapO (Lib.cut l [10]).1 with
  | none => (zeroS, 1, none)
  | some (a, b, c, d, e, op, g) => if g ≠ sumL (Lib.cut l [10]).2.1 then (zeroS, 10, none) else
    if (readL (Lib.cut l [10]).2.1).2.1 ≠ 0 then (zeroS, (readL (Lib.cut l [10]).2.1).2) else
    if (snapE (a, b, c, d, e, bytesOf op, (readL (Lib.cut l [10]).2.1).1)).1 ≠ 0 then (zeroS, snapE (a, b, c, d, e, bytesOf op, (readL (Lib.cut l [10]).2.1).1)) else
    ((a, b, c, d, e, bytesOf op, (readL (Lib.cut l [10]).2.1).1), 0, none)

theorem snapO_text {s : Sn} (h : (snapE s).1 = 0) (sum : Int) (hs : 0 ≤ sum ∧ sum < 4294967296) : snapO (snapH s sum) = some (s.1, s.2.1, s.2.2.1, s.2.2.2.1, s.2.2.2.2.1, s.2.2.2.2.2.1.data.toList, sum) := by
  obtain ⟨hb, ho, _⟩ := snap_good h
  obtain ⟨⟨⟨a, b⟩, c, d⟩, ⟨⟨e, f⟩, g, i⟩, j, k⟩ := sbnd_all.1 hb
  unfold snapO sixO
  rw [snapH_words ho]
  simp only [numO_of s.1 (by omega) (by omega), numO_of s.2.1 (by omega) (by omega), numO_of s.2.2.1 (by omega) (by omega), numO_of s.2.2.2.1 (by omega) (by omega), numO_of s.2.2.2.2.1 (by omega) (by omega), numO_of sum (by omega) (by omega), if_true]

theorem itoa_short {n : Int} (h0 : -1073741824 ≤ n) (h1 : n ≤ 4294967296) : (itoa n).length ≤ 11 := (numO_spelt (numO_of n h0 h1)).2

theorem file_short {f : Fl} (h : fileE f = 0) : (fileL f).length ≤ 100 := by
  obtain ⟨g, n, hp, hq, hb⟩ := file_good h
  have h1 : f.1.data.toList.length ≤ 16 := by
    rw [(path_some hp).1]
    have := (numO_spelt (path_some hp).2.1).2
    cases g <;> simp [kindL, kData, kGone] <;> omega
  have h2 : f.2.1.data.toList.length ≤ 12 := by
    unfold partB at hq
    cases g
    · simp only [Bool.false_eq_true, if_false, wordB, Bool.and_eq_true, decide_eq_true_eq] at hq
      omega
    · simp only [if_true, decide_eq_true_eq] at hq
      rw [hq]; decide
  obtain ⟨n1, n2, n3, n4⟩ := bnd_nums hb
  have q1 := (numO_spelt (numO_itoa _ n1)).2
  have q2 := (numO_spelt (numO_itoa _ n2)).2
  have q3 := (numO_spelt (numO_itoa _ n3)).2
  have q4 := (numO_spelt (numO_itoa _ n4)).2
  unfold fileL
  simp only [List.length_append, List.length_cons]
  omega

theorem list_short : ∀ fs : List Fl, (∀ f ∈ fs, fileE f = 0) → (listL fs).length ≤ 101 * fs.length
  | [], _ => by simp [listL]
  | f :: r, h => by
    have h1 := file_short (h f List.mem_cons_self)
    have h2 := list_short r (fun g hg => h g (List.mem_cons_of_mem _ hg))
    have e : listL (f :: r) = fileL f ++ 10 :: listL r := by simp [listL]
    rw [e]
    simp only [List.length_append, List.length_cons]
    omega

theorem snap_len {s : Sn} (h : (snapE s).1 = 0) : (snapH s (sumL (listL s.2.2.2.2.2.2))).length ≤ 100 ∧ (listL s.2.2.2.2.2.2).length ≤ 6060 := by
  obtain ⟨hb, ho, hl, _⟩ := snap_good h
  obtain ⟨⟨⟨a, b⟩, c, d⟩, ⟨⟨e, f⟩, g, i⟩, j, k⟩ := sbnd_all.1 hb
  obtain ⟨h60, hr⟩ := listE_ok.1 hl
  have hs := sumL_lt (listL s.2.2.2.2.2.2)
  have l1 := list_short s.2.2.2.2.2.2 (fun f hf => (hr.1 f hf).1)
  have q1 := itoa_short (n := s.1) (by omega) (by omega)
  have q2 := itoa_short (n := s.2.1) (by omega) (by omega)
  have q3 := itoa_short (n := s.2.2.1) (by omega) (by omega)
  have q4 := itoa_short (n := s.2.2.2.1) (by omega) (by omega)
  have q5 := itoa_short (n := s.2.2.2.2.1) (by omega) (by omega)
  have q6 := itoa_short (n := (sumL (listL s.2.2.2.2.2.2) : Int)) (by omega) (by omega)
  have q7 := op_len ho
  refine ⟨?_, by omega⟩
  unfold snapH
  simp only [List.length_append, List.length_cons]
  have : kSnap.length = 4 := rfl
  omega

/-- A snap is read as it was written. -/
theorem snap_read {s : Sn} (h : (snapE s).1 = 0) : readS (snapL s) = (s, 0, none) := by
  obtain ⟨hb, ho, hl, he⟩ := snap_good h
  obtain ⟨l1, l2⟩ := snap_len h
  have hs := sumL_lt (listL s.2.2.2.2.2.2)
  have hc := cut_at 10 (snapH s (sumL (listL s.2.2.2.2.2.2))) (listL s.2.2.2.2.2.2) (snapH_no_end ho _)
  have hlen : (snapL s).length ≤ 20000 := by
    unfold snapL
    simp only [List.length_append, List.length_cons]
    omega
  have e : Lib.cut (snapL s) [10] = (snapH s (sumL (listL s.2.2.2.2.2.2)), listL s.2.2.2.2.2.2, true) := hc
  unfold readS
  rw [if_neg (by omega), e]
  dsimp only
  rw [if_neg (by simp), snapO_text h _ (by omega)]
  dsimp only
  rw [readL_text hl]
  dsimp only
  have es : (s.1, s.2.1, s.2.2.1, s.2.2.2.1, s.2.2.2.2.1, bytesOf s.2.2.2.2.2.1.data.toList, s.2.2.2.2.2.2) = s := by rw [bytesOf_data]
  rw [if_neg (by simp), if_neg (by simp), es, if_neg (by simpa using h)]

/-- With another byte behind its first line a snap's text is none: the sum is another one. -/
theorem snap_other {s : Sn} (h : (snapE s).1 = 0) {i : Nat} {c : UInt8} (hi : i < (listL s.2.2.2.2.2.2).length) (hc : (listL s.2.2.2.2.2.2)[i] ≠ c) :
    readS (snapH s (sumL (listL s.2.2.2.2.2.2)) ++ 10 :: (listL s.2.2.2.2.2.2).set i c) = (zeroS, 10, none) := by
  obtain ⟨hb, ho, hl, he⟩ := snap_good h
  obtain ⟨l1, l2⟩ := snap_len h
  have hs := sumL_lt (listL s.2.2.2.2.2.2)
  have hct := cut_at 10 (snapH s (sumL (listL s.2.2.2.2.2.2))) ((listL s.2.2.2.2.2.2).set i c) (snapH_no_end ho _)
  have hne : sumL (listL s.2.2.2.2.2.2) ≠ sumL ((listL s.2.2.2.2.2.2).set i c) := fun e => by
    have e1 : listL s.2.2.2.2.2.2 = (listL s.2.2.2.2.2.2).take i ++ (listL s.2.2.2.2.2.2)[i] :: (listL s.2.2.2.2.2.2).drop (i + 1) := by rw [List.getElem_cons_drop, List.take_append_drop]
    have e2 : (listL s.2.2.2.2.2.2).set i c = (listL s.2.2.2.2.2.2).take i ++ c :: (listL s.2.2.2.2.2.2).drop (i + 1) := by rw [List.set_eq_take_append_cons_drop, if_pos hi]
    rw [e2] at e
    conv at e => lhs; rw [e1]
    exact hc (sum_parts _ _ _ _ e)
  unfold readS
  rw [if_neg (by simp only [List.length_append, List.length_cons, List.length_set]; omega), hct]
  dsimp only
  rw [if_neg (by simp), snapO_text h _ (by omega)]
  dsimp only
  rw [if_pos (by omega)]
end Go.Proofs.YtpiagofhgalklacGreatDoor
