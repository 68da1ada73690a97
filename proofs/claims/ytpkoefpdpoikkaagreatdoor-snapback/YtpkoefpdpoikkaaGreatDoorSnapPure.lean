/-
  Plain mathematics of snaps: their bounds, their text, what a text is.
-/
import Derived.Test.YtpkoefpdpoikkaaGreatDoorDataPure
import Derived.Test.YtpkoefpdpoikkaaGreatDoorRowCut
import Derived.Lib.SlicesCompact
import Derived.Lib.Slices
namespace Go.Proofs.YtpkoefpdpoikkaaGreatDoor
open Go Go.Lib

abbrev Fl := ByteArray × ByteArray × Int × Int × Int × Int

def cntB (n : Int) : Bool := decide (1 ≤ n) && decide (n ≤ 1073741824)

def kindL (g : Bool) : List UInt8 := if g then kGone else kData

def pathN (s : List UInt8) : Option Int := match numO s with
  | some n => if cntB n then some n else none
  | none => none

def pathO (s : List UInt8) : Option (Bool × Int) :=
  if s.take 5 = kData ++ [47] then (pathN (s.drop 5)).map fun n => (false, n) else
  if s.take 5 = kGone ++ [47] then (pathN (s.drop 5)).map fun n => (true, n) else none

theorem num_nil : numO [] = none := by
  cases h : numO [] with
  | none => rfl
  | some n =>
    have := (numO_spelt h).1
    unfold itoa at this
    split at this
    · cases this
    · exact absurd this (digits_ne _)

theorem take_kind (k w : List UInt8) (hk : k.length = 4) : (k ++ 47 :: w).take 5 = k ++ [47] ∧ (k ++ 47 :: w).drop 5 = w := by
  have e : k ++ 47 :: w = (k ++ [47]) ++ w := by simp
  have hl : (k ++ [47]).length = 5 := by simp [hk]
  rw [e]
  exact ⟨by rw [← hl, List.take_left], by rw [← hl, List.drop_left]⟩

theorem path_of (g : Bool) (w : List UInt8) : pathO (kindL g ++ 47 :: w) = (pathN w).map fun n => (g, n) := by
  obtain ⟨h1, h2⟩ := take_kind (kindL g) w (by cases g <;> rfl)
  unfold pathO
  rw [h1, h2]
  cases g
  · rw [if_pos (show kindL false ++ [47] = kData ++ [47] from rfl)]
  · rw [if_neg (by decide), if_pos (show kindL true ++ [47] = kGone ++ [47] from rfl)]

theorem path_some {s : List UInt8} {g : Bool} {n : Int} (h : pathO s = some (g, n)) : s = kindL g ++ 47 :: itoa n ∧ numO (itoa n) = some n ∧ cntB n = true := by
  have key : ∀ (k : List UInt8) (b : Bool), s.take 5 = k ++ [47] → (pathN (s.drop 5)).map (fun m => (b, m)) = some (g, n) → b = g ∧ s = k ++ 47 :: itoa n ∧ numO (itoa n) = some n ∧ cntB n = true := fun k b hk hp => by
    obtain ⟨m, hm, he⟩ := Option.map_eq_some_iff.1 hp
    simp only [Prod.mk.injEq] at he
    obtain ⟨rfl, rfl⟩ := he
    unfold pathN at hm
    split at hm
    · rename_i x hx
      split at hm
      · rename_i hc
        obtain rfl := Option.some.inj hm
        have hsp := (numO_spelt hx).1
        refine ⟨rfl, ?_, by rw [hsp]; exact hx, hc⟩
        rw [hsp]
        conv => lhs; rw [← List.take_append_drop 5 s, hk]
        simp
      · cases hm
    · cases hm
  unfold pathO at h
  split at h
  · rename_i hk
    obtain ⟨rfl, h'⟩ := key _ _ hk h
    exact h'
  · split at h
    · rename_i hk
      obtain ⟨rfl, h'⟩ := key _ _ hk h
      exact h'
    · cases h

theorem path_cut (s : List UInt8) : pathO s = if (Lib.cut s [47]).1 = kData then (pathN (Lib.cut s [47]).2.1).map fun n => (false, n) else
    if (Lib.cut s [47]).1 = kGone then (pathN (Lib.cut s [47]).2.1).map fun n => (true, n) else none := by
  rcases cut_cases 47 s with ⟨hn, hc⟩ | ⟨a, b, rfl, hn, hc⟩
  · rw [hc]
    have hp : pathN [] = none := by unfold pathN; rw [num_nil]
    have hnone : pathO s = none := by
      cases h : pathO s with
      | none => rfl
      | some p =>
        obtain ⟨g, n⟩ := p
        have := (path_some h).1
        exact absurd rfl (hn 47 (by rw [this]; simp))
    rw [hnone]
    dsimp only
    rw [hp]
    split
    · rfl
    · split <;> rfl
  · rw [hc]
    dsimp only
    by_cases h1 : a = kData
    · subst h1
      rw [if_pos rfl]
      exact path_of false b
    · rw [if_neg h1]
      by_cases h2 : a = kGone
      · subst h2
        rw [if_pos rfl]
        exact path_of true b
      · rw [if_neg h2]
        cases h : pathO (a ++ 47 :: b) with
        | none => rfl
        | some p =>
          obtain ⟨g, n⟩ := p
          have e := (path_some h).1
          have hk : ∀ c ∈ kindL g, c ≠ 47 := by cases g <;> decide
          have e1 := cut_at 47 a b hn
          rw [e, cut_at 47 _ _ hk] at e1
          simp only [Prod.mk.injEq, and_true] at e1
          cases g
          · exact absurd e1.1.symm h1
          · exact absurd e1.1.symm h2

def pathR (s : List UInt8) : List UInt8 × Int × Nat := match pathO s with
  | some (g, n) => (kindL g, n, 0)
  | none => ([], 0, 5)

def partB (g : Bool) (s : List UInt8) : Bool := if g then decide (s = [45]) else wordB 12 s

def bndB (f : Fl) : Bool := decide (1 ≤ f.2.2.1) && decide (f.2.2.1 ≤ 40) && inNum f.2.2.2.1 && inNum f.2.2.2.2.1 && decide (f.2.2.2.1 ≤ f.2.2.2.2.1) && cntB f.2.2.2.2.2

def fileE (f : Fl) : Nat := match pathO f.1.data.toList with
  | none => 5
  | some (g, _) => if partB g f.2.1.data.toList then (if bndB f then 0 else 2) else 4

def fileL (f : Fl) : List UInt8 := f.1.data.toList ++ 32 :: (f.2.1.data.toList ++ 32 :: (itoa f.2.2.1 ++ 32 :: (itoa f.2.2.2.1 ++ 32 :: (itoa f.2.2.2.2.1 ++ 32 :: itoa f.2.2.2.2.2))))

def fileB (f : Fl) : ByteArray := if fileE f = 0 then bytesOf (fileL f) else bytesOf []

def zeroF : Fl := (bytesOf [], bytesOf [], 0, 0, 0, 0)

def chkF (f : Fl) : Fl × Nat := if fileE f = 0 then (f, 0) else (zeroF, fileE f)

def readF (s : List UInt8) : Fl × Nat := match words s with
  | [p, q, a, b, c, d] => (match numO a, numO b, numO c, numO d with
    | some n, some lo, some hi, some seq => chkF (bytesOf p, bytesOf q, n, lo, hi, seq)
    | _, _, _, _ => (zeroF, 1))
  | _ => (zeroF, 1)

theorem file_good {f : Fl} (h : fileE f = 0) : ∃ g n, pathO f.1.data.toList = some (g, n) ∧ partB g f.2.1.data.toList = true ∧ bndB f = true := by
  unfold fileE at h
  split at h
  · cases h
  · rename_i g n hp
    split at h
    · rename_i hq
      split at h
      · rename_i hb
        exact ⟨g, n, hp, hq, hb⟩
      · cases h
    · cases h

theorem cnt_in {n : Int} (h : cntB n = true) : inNum n = true := by
  simp only [cntB, inNum, Bool.and_eq_true, decide_eq_true_eq] at h ⊢
  omega

theorem bnd_nums {f : Fl} (h : bndB f = true) : inNum f.2.2.1 = true ∧ inNum f.2.2.2.1 = true ∧ inNum f.2.2.2.2.1 = true ∧ inNum f.2.2.2.2.2 = true := by
  simp only [bndB, Bool.and_eq_true] at h
  refine ⟨?_, h.1.1.1.2, h.1.1.2, cnt_in h.2⟩
  have h1 := h.1.1.1.1
  simp only [decide_eq_true_eq] at h1
  simp only [inNum, Bool.and_eq_true, decide_eq_true_eq]
  omega

theorem path_no_blank {s : List UInt8} {g : Bool} {n : Int} (h : pathO s = some (g, n)) : ∀ c ∈ s, c ≠ 32 := by
  intro c hc
  rw [(path_some h).1, List.mem_append, List.mem_cons] at hc
  rcases hc with hc | rfl | hc
  · exact (show ∀ c ∈ kindL g, c ≠ 32 by cases g <;> decide) c hc
  · decide
  · exact itoa_no_blank n c hc

theorem part_no_blank {s : List UInt8} {g : Bool} (h : partB g s = true) : ∀ c ∈ s, c ≠ 32 := by
  unfold partB at h
  cases g
  · exact word_no_blank (by simpa using h)
  · simp only [if_true, decide_eq_true_eq] at h
    subst h
    decide

theorem file_words {f : Fl} (h : fileE f = 0) : words (fileL f) = [f.1.data.toList, f.2.1.data.toList, itoa f.2.2.1, itoa f.2.2.2.1, itoa f.2.2.2.2.1, itoa f.2.2.2.2.2] := by
  obtain ⟨g, n, hp, hq, _⟩ := file_good h
  unfold fileL
  rw [words_append _ _ (path_no_blank hp), words_append _ _ (part_no_blank hq), words_append _ _ (itoa_no_blank _), words_append _ _ (itoa_no_blank _), words_append _ _ (itoa_no_blank _), words_none _ (itoa_no_blank _)]

theorem readF_text {f : Fl} (h : fileE f = 0) : readF (fileL f) = (f, 0) := by
  obtain ⟨g, n, hp, hq, hb⟩ := file_good h
  obtain ⟨b1, b2, b3, b4⟩ := bnd_nums hb
  unfold readF
  rw [file_words h]
  dsimp only
  rw [numO_itoa _ b1, numO_itoa _ b2, numO_itoa _ b3, numO_itoa _ b4, bytesOf_data, bytesOf_data]
  dsimp only
  unfold chkF
  have e : ((f.1, f.2.1, f.2.2.1, f.2.2.2.1, f.2.2.2.2.1, f.2.2.2.2.2) : Fl) = f := rfl
  rw [e, if_pos h]

end Go.Proofs.YtpkoefpdpoikkaaGreatDoor
namespace Go.Proofs.YtpkoefpdpoikkaaGreatDoor
open Go Go.Lib

def pk (s : List UInt8) : Int := match pathO s with
  | some (g, n) => if g then 1073741824 + n else n
  | none => 0

theorem pk_some {s : List UInt8} {g : Bool} {n : Int} (h : pathO s = some (g, n)) : pk s = (if g then 1073741824 + n else n) ∧ 1 ≤ n ∧ n ≤ 1073741824 := by
  have hc := (path_some h).2.2
  simp only [cntB, Bool.and_eq_true, decide_eq_true_eq] at hc
  exact ⟨by unfold pk; rw [h], hc⟩

theorem pk_pos {s : List UInt8} (h : pathO s ≠ none) : 0 < pk s := by
  cases hp : pathO s with
  | none => exact absurd hp h
  | some p =>
    obtain ⟨g, n⟩ := p
    obtain ⟨e, h1, h2⟩ := pk_some hp
    rw [e]
    split <;> omega

def fk (f : Fl) : Int := pk f.1.data.toList

theorem ok_path {f : Fl} (h : fileE f = 0) : pathO f.1.data.toList ≠ none := by
  obtain ⟨g, n, hp, _⟩ := file_good h
  rw [hp]; simp

theorem fk_pos {f : Fl} (h : fileE f = 0) : 0 < fk f := pk_pos (ok_path h)

def lstG : Int → List Fl → Nat → Nat × Option Nat
  | _, [], _ => (0, none)
  | prev, f :: r, i => if fileE f ≠ 0 then (fileE f, some i) else if fk f ≤ prev then (9, some i) else lstG (fk f) r (i + 1)

def listE (fs : List Fl) : Nat × Option Nat := if 60 < fs.length then (8, none) else lstG 0 fs 0

def Rises (prev : Int) (fs : List Fl) : Prop := (∀ f ∈ fs, fileE f = 0 ∧ prev < fk f) ∧ fs.Pairwise fun f g => fk f < fk g

theorem rises_cons {prev : Int} {f : Fl} {r : List Fl} : Rises prev (f :: r) ↔ fileE f = 0 ∧ prev < fk f ∧ Rises (fk f) r := by
  unfold Rises
  rw [List.pairwise_cons]
  constructor
  · rintro ⟨h1, h2, h3⟩
    have h0 := h1 f List.mem_cons_self
    exact ⟨h0.1, h0.2, fun g hg => ⟨(h1 g (List.mem_cons_of_mem _ hg)).1, h2 g hg⟩, h3⟩
  · rintro ⟨h1, h2, h3, h4⟩
    refine ⟨fun g hg => ?_, fun g hg => (h3 g hg).2, h4⟩
    rw [List.mem_cons] at hg
    rcases hg with rfl | hg
    · exact ⟨h1, h2⟩
    · have := h3 g hg
      exact ⟨this.1, by omega⟩

theorem lstG_ok : ∀ (fs : List Fl) (prev : Int) (i : Nat), (lstG prev fs i).1 = 0 ↔ Rises prev fs
  | [], prev, i => by simp [lstG, Rises]
  | f :: r, prev, i => by
    have ih := lstG_ok r (fk f) (i + 1)
    unfold lstG
    rw [rises_cons]
    split
    · rename_i h
      simp [h]
    · rename_i h
      have h0 : fileE f = 0 := by simpa using h
      split
      · rename_i h'
        simp [h0]; omega
      · rename_i h'
        rw [ih]
        simp [h0]; omega

theorem listE_ok {fs : List Fl} : (listE fs).1 = 0 ↔ fs.length ≤ 60 ∧ Rises 0 fs := by
  unfold listE
  split
  · rename_i h
    simp; omega
  · rename_i h
    rw [lstG_ok]
    simp; omega

def listL (fs : List Fl) : List UInt8 := fs.flatMap fun f => fileL f ++ [10]

def fileK : FK Fl := ⟨[], readF, fun x y => decide (fk x ≤ fk y), fk, fileL, fun f => fileE f = 0, zeroF⟩

theorem file_no_end {f : Fl} (h : fileE f = 0) : ∀ c ∈ fileL f, c ≠ 10 := by
  obtain ⟨g, n, hp, hq, _⟩ := file_good h
  intro c hc
  unfold fileL at hc
  have hpart : ∀ c ∈ f.2.1.data.toList, c ≠ 10 := by
    intro c hc
    unfold partB at hq
    cases g
    · simp only [Bool.false_eq_true, if_false, wordB, Bool.and_eq_true, List.all_eq_true] at hq
      intro e
      subst e
      have := hq.2 _ hc
      simp [nbI] at this
    · simp only [if_true, decide_eq_true_eq] at hq
      rw [hq] at hc
      simp at hc
      subst hc
      decide
  have hpath : ∀ c ∈ f.1.data.toList, c ≠ 10 := by
    intro c hc
    rw [(path_some hp).1, List.mem_append, List.mem_cons] at hc
    rcases hc with hc | rfl | hc
    · exact (show ∀ c ∈ kindL g, c ≠ 10 by cases g <;> decide) c hc
    · decide
    · exact itoa_no_end n c hc
  simp only [List.mem_append, List.mem_cons] at hc
  rcases hc with hc | rfl | hc | rfl | hc | rfl | hc | rfl | hc | rfl | hc
  · exact hpath c hc
  · decide
  · exact hpart c hc
  · decide
  · exact itoa_no_end _ c hc
  · decide
  · exact itoa_no_end _ c hc
  · decide
  · exact itoa_no_end _ c hc
  · decide
  · exact itoa_no_end _ c hc

theorem list_pieces : ∀ fs : List Fl, (∀ f ∈ fs, fileE f = 0) → pieces 10 (listL fs) = fs.map fileL ++ [[]]
  | [], _ => rfl
  | f :: r, h => by
    have e : listL (f :: r) = fileL f ++ 10 :: listL r := by simp [listL]
    rw [e, pieces_append 10 _ _ (file_no_end (h f List.mem_cons_self)), list_pieces r (fun g hg => h g (List.mem_cons_of_mem _ hg))]
    rfl

def readL (s : List UInt8) : List Fl × Nat × Option Nat :=
  if 60 < (if (pieces 10 s).getLastD [] = [] then (pieces 10 s).length - 1 else (pieces 10 s).length) then ([], 8, none) else
  if (rowsG fileK (pieces 10 s) 0 []).2.1 ≠ 0 then ([], (rowsG fileK (pieces 10 s) 0 []).2.1, some (rowsG fileK (pieces 10 s) 0 []).2.2) else ((rowsG fileK (pieces 10 s) 0 []).1, 0, none)

theorem rows_lines : ∀ (fs acc : List Fl) (at_ : Nat), (∀ f ∈ fs, fileE f = 0) → (acc ++ fs).Pairwise (fun f g => fk f < fk g) → rowsG fileK (fs.map fileL ++ [[]]) at_ acc = (acc ++ fs, 0, 0)
  | [], acc, at_, _, _ => by simp [rowsG]
  | f :: r, acc, at_, h, hp => by
    have hr : fileK.rd (fileL f) = (f, 0) := readF_text (h f List.mem_cons_self)
    have hne : r.map fileL ++ [[]] ≠ [] := by simp
    obtain ⟨l2, q, e⟩ := List.exists_cons_of_ne_nil hne
    rw [List.map_cons, List.cons_append, e, rowsG_cons, hr, if_neg (by simp)]
    have hno : ¬ (acc ≠ [] ∧ fileK.bad f (acc.getLastD fileK.d) = true) := by
      rintro ⟨h1, h2⟩
      have hm : acc.getLastD fileK.d ∈ acc := by
        rw [List.getLastD_eq_getLast?, List.getLast?_eq_some_getLast h1]
        exact List.getLast_mem h1
      have := (List.pairwise_append.1 hp).2.2 _ hm f List.mem_cons_self
      have h2' : fk f ≤ fk (acc.getLastD fileK.d) := of_decide_eq_true h2
      omega
    dsimp only
    rw [if_neg hno, ← e]
    have := rows_lines r (acc ++ [f]) (at_ + 1) (fun y hy => h y (List.mem_cons_of_mem _ hy)) (by simpa using hp)
    simpa using this

theorem readL_text {fs : List Fl} (h : (listE fs).1 = 0) : readL (listL fs) = (fs, 0, none) := by
  obtain ⟨hl, h1, h2⟩ := listE_ok.1 h
  have hok : ∀ f ∈ fs, fileE f = 0 := fun f hf => (h1 f hf).1
  have hr := rows_lines fs [] 0 hok (by simpa using h2)
  unfold readL
  rw [list_pieces fs hok, hr]
  have e1 : (fs.map fileL ++ [[]]).getLastD [] = [] := by simp [List.getLastD_eq_getLast?]
  rw [e1, if_pos rfl, if_neg (by simp; omega), if_neg (by simp)]
  rfl

end Go.Proofs.YtpkoefpdpoikkaaGreatDoor
namespace Go.Proofs.YtpkoefpdpoikkaaGreatDoor
open Go Go.Lib

abbrev Sn := Int × Int × Int × Int × Int × ByteArray × List Fl

def kStart : List UInt8 := [115, 116, 97, 114, 116]
def kAppend : List UInt8 := [97, 112, 112, 101, 110, 100]
def kDelete : List UInt8 := [100, 101, 108, 101, 116, 101]
def kRewrite : List UInt8 := [114, 101, 119, 114, 105, 116, 101]
def kSnap : List UInt8 := [115, 110, 97, 112]

def opB (s : List UInt8) : Bool := decide (s = kStart) || decide (s = kAppend) || decide (s = kDelete) || decide (s = kRewrite)

theorem op_cases {s : List UInt8} (h : opB s = true) : s = kStart ∨ s = kAppend ∨ s = kDelete ∨ s = kRewrite := by
  simp only [opB, Bool.or_eq_true, decide_eq_true_eq] at h
  rcases h with ((h | h) | h) | h
  · exact Or.inl h
  · exact Or.inr (Or.inl h)
  · exact Or.inr (Or.inr (Or.inl h))
  · exact Or.inr (Or.inr (Or.inr h))

theorem op_len {s : List UInt8} (h : opB s = true) : s.length ≤ 7 := by
  rcases op_cases h with rfl | rfl | rfl | rfl <;> decide
theorem op_no_blank {s : List UInt8} (h : opB s = true) : ∀ c ∈ s, c ≠ 32 := by
  rcases op_cases h with rfl | rfl | rfl | rfl <;> decide
theorem op_no_end {s : List UInt8} (h : opB s = true) : ∀ c ∈ s, c ≠ 10 := by
  rcases op_cases h with rfl | rfl | rfl | rfl <;> decide

def sbndB (s : Sn) : Bool := decide (1 ≤ s.1) && decide (s.1 ≤ 1073741824) && decide (0 ≤ s.2.1) && decide (s.2.1 < s.1) && decide (0 ≤ s.2.2.1) && decide (s.2.2.1 ≤ 1073741824) && decide (0 ≤ s.2.2.2.1) && decide (s.2.2.2.1 ≤ 100000) && decide (0 ≤ s.2.2.2.2.1) && decide (s.2.2.2.2.1 ≤ 1073741824)

theorem sbnd_all {s : Sn} : sbndB s = true ↔ ((1 ≤ s.1 ∧ s.1 ≤ 1073741824) ∧ (0 ≤ s.2.1 ∧ s.2.1 < s.1)) ∧ ((0 ≤ s.2.2.1 ∧ s.2.2.1 ≤ 1073741824) ∧ (0 ≤ s.2.2.2.1 ∧ s.2.2.2.1 ≤ 100000)) ∧ 0 ≤ s.2.2.2.2.1 ∧ s.2.2.2.2.1 ≤ 1073741824 := by
  simp only [sbndB, Bool.and_eq_true, decide_eq_true_eq]
  constructor
  · rintro ⟨⟨⟨⟨⟨⟨⟨⟨⟨a, b⟩, c⟩, d⟩, e⟩, f⟩, g⟩, h⟩, i⟩, j⟩
    exact ⟨⟨⟨a, b⟩, c, d⟩, ⟨⟨e, f⟩, g, h⟩, i, j⟩
  · rintro ⟨⟨⟨a, b⟩, c, d⟩, ⟨⟨e, f⟩, g, h⟩, i, j⟩
    exact ⟨⟨⟨⟨⟨⟨⟨⟨⟨a, b⟩, c⟩, d⟩, e⟩, f⟩, g⟩, h⟩, i⟩, j⟩

def seqG (seq : Int) : List Fl → Nat → Nat × Option Nat
  | [], _ => (0, none)
  | f :: r, i => if seq < f.2.2.2.2.2 then (9, some i) else seqG seq r (i + 1)

def snapE (s : Sn) : Nat × Option Nat :=
  if sbndB s = false then (2, none) else if opB s.2.2.2.2.2.1.data.toList = false then (4, none) else
  if (listE s.2.2.2.2.2.2).1 ≠ 0 then listE s.2.2.2.2.2.2 else seqG s.2.2.1 s.2.2.2.2.2.2 0

theorem seqG_vals (seq : Int) : ∀ (fs : List Fl) (i : Nat), seqG seq fs i = (0, none) ∨ ∃ j, seqG seq fs i = (9, some j)
  | [], _ => Or.inl rfl
  | f :: r, i => by
    unfold seqG
    split
    · exact Or.inr ⟨i, rfl⟩
    · exact seqG_vals seq r (i + 1)

theorem snap_good {s : Sn} (h : (snapE s).1 = 0) : sbndB s = true ∧ opB s.2.2.2.2.2.1.data.toList = true ∧ (listE s.2.2.2.2.2.2).1 = 0 ∧ snapE s = (0, none) := by
  have h' := h
  unfold snapE at h ⊢
  by_cases h1 : sbndB s = false
  · rw [if_pos h1] at h; cases h
  · rw [if_neg h1] at h ⊢
    by_cases h2 : opB s.2.2.2.2.2.1.data.toList = false
    · rw [if_pos h2] at h; cases h
    · rw [if_neg h2] at h ⊢
      by_cases h3 : (listE s.2.2.2.2.2.2).1 ≠ 0
      · rw [if_pos h3] at h; exact absurd h h3
      · rw [if_neg h3] at h ⊢
        refine ⟨by simpa using h1, by simpa using h2, by simpa using h3, ?_⟩
        rcases seqG_vals s.2.2.1 s.2.2.2.2.2.2 0 with e | ⟨j, e⟩
        · exact e
        · rw [e] at h; cases h

def snapH (s : Sn) (sum : Int) : List UInt8 := kSnap ++ 32 :: (itoa s.1 ++ 32 :: (itoa s.2.1 ++ 32 :: (itoa s.2.2.1 ++ 32 :: (itoa s.2.2.2.1 ++ 32 :: (itoa s.2.2.2.2.1 ++ 32 :: (s.2.2.2.2.2.1.data.toList ++ 32 :: itoa sum))))))

def snapL (s : Sn) : List UInt8 := snapH s (sumL (listL s.2.2.2.2.2.2)) ++ 10 :: listL s.2.2.2.2.2.2

theorem snapH_no_end {s : Sn} (h : opB s.2.2.2.2.2.1.data.toList = true) (sum : Int) : ∀ c ∈ snapH s sum, c ≠ 10 := by
  intro c hc
  simp only [snapH, List.mem_append, List.mem_cons] at hc
  rcases hc with hc | rfl | hc | rfl | hc | rfl | hc | rfl | hc | rfl | hc | rfl | hc | rfl | hc
  · exact (show ∀ c ∈ kSnap, c ≠ 10 by decide) c hc
  · decide
  · exact itoa_no_end _ c hc
  · decide
  · exact itoa_no_end _ c hc
  · decide
  · exact itoa_no_end _ c hc
  · decide
  · exact itoa_no_end _ c hc
  · decide
  · exact itoa_no_end _ c hc
  · decide
  · exact op_no_end h c hc
  · decide
  · exact itoa_no_end _ c hc

theorem snapH_words {s : Sn} (h : opB s.2.2.2.2.2.1.data.toList = true) (sum : Int) : words (snapH s sum) = [kSnap, itoa s.1, itoa s.2.1, itoa s.2.2.1, itoa s.2.2.2.1, itoa s.2.2.2.2.1, s.2.2.2.2.2.1.data.toList, itoa sum] := by
  unfold snapH
  rw [words_append _ _ (by decide), words_append _ _ (itoa_no_blank _), words_append _ _ (itoa_no_blank _), words_append _ _ (itoa_no_blank _), words_append _ _ (itoa_no_blank _), words_append _ _ (itoa_no_blank _), words_append _ _ (op_no_blank h), words_none _ (itoa_no_blank _)]

def zeroS : Sn := (0, 0, 0, 0, 0, bytesOf [], [])

def sixO (w1 w2 w3 w4 w5 w7 : List UInt8) : Option (Int × Int × Int × Int × Int × Int) := match numO w1, numO w2, numO w3, numO w4, numO w5, numO w7 with
  | some a, some b, some c, some d, some e, some g => some (a, b, c, d, e, g)
  | _, _, _, _, _, _ => none

def snapO (l : List UInt8) : Option (Int × Int × Int × Int × Int × List UInt8 × Int) := match words l with
  | [k, w1, w2, w3, w4, w5, op, w7] => match sixO w1 w2 w3 w4 w5 w7 with
    | some (a, b, c, d, e, g) => if k = kSnap then some (a, b, c, d, e, op, g) else none
    | none => none
  | _ => none

def readS (l : List UInt8) : Sn × Nat × Option Nat :=
  if 20000 < l.length then (zeroS, 2, none) else
  if (Lib.cut l [10]).2.2 = false then (zeroS, 1, none) else
  match snapO (Lib.cut l [10]).1 with
  | none => (zeroS, 1, none)
  | some (a, b, c, d, e, op, g) => if g ≠ sumL (Lib.cut l [10]).2.1 then (zeroS, 10, none) else
    if (readL (Lib.cut l [10]).2.1).2.1 ≠ 0 then (zeroS, (readL (Lib.cut l [10]).2.1).2) else
    if (snapE (a, b, c, d, e, bytesOf op, (readL (Lib.cut l [10]).2.1).1)).1 ≠ 0 then (zeroS, snapE (a, b, c, d, e, bytesOf op, (readL (Lib.cut l [10]).2.1).1)) else
    ((a, b, c, d, e, bytesOf op, (readL (Lib.cut l [10]).2.1).1), 0, none)

theorem snapO_text {s : Sn} (h : (snapE s).1 = 0) (sum : Int) (hs : 0 ≤ sum ∧ sum < 4294967296) : snapO (snapH s sum) = some (s.1, s.2.1, s.2.2.1, s.2.2.2.1, s.2.2.2.2.1, s.2.2.2.2.2.1.data.toList, sum) := by
  obtain ⟨hb, ho, _⟩ := snap_good h
  obtain ⟨⟨⟨a, b⟩, c, d⟩, ⟨⟨e, f⟩, g, i⟩, j, k⟩ := sbnd_all.1 hb
  unfold snapO sixO
  rw [snapH_words ho]
  simp only [numO_of s.1 (by omega) (by omega), numO_of s.2.1 (by omega) (by omega), numO_of s.2.2.1 (by omega) (by omega), numO_of s.2.2.2.1 (by omega) (by omega), numO_of s.2.2.2.2.1 (by omega) (by omega), numO_of sum (by omega) (by omega), if_true]

theorem itoa_short {n : Int} (h0 : -1073741824 ≤ n) (h1 : n ≤ 4294967296) : (itoa n).length ≤ 11 := (numO_spelt (numO_of n h0 h1)).2

theorem file_short {f : Fl} (h : fileE f = 0) : (fileL f).length ≤ 100 := by
  obtain ⟨g, n, hp, hq, hb⟩ := file_good h
  have h1 : f.1.data.toList.length ≤ 16 := by
    rw [(path_some hp).1]
    have := (numO_spelt (path_some hp).2.1).2
    cases g <;> simp [kindL, kData, kGone] <;> omega
  have h2 : f.2.1.data.toList.length ≤ 12 := by
    unfold partB at hq
    cases g
    · simp only [Bool.false_eq_true, if_false, wordB, Bool.and_eq_true, decide_eq_true_eq] at hq
      omega
    · simp only [if_true, decide_eq_true_eq] at hq
      rw [hq]; decide
  obtain ⟨n1, n2, n3, n4⟩ := bnd_nums hb
  have q1 := (numO_spelt (numO_itoa _ n1)).2
  have q2 := (numO_spelt (numO_itoa _ n2)).2
  have q3 := (numO_spelt (numO_itoa _ n3)).2
  have q4 := (numO_spelt (numO_itoa _ n4)).2
  unfold fileL
  simp only [List.length_append, List.length_cons]
  omega

theorem list_short : ∀ fs : List Fl, (∀ f ∈ fs, fileE f = 0) → (listL fs).length ≤ 101 * fs.length
  | [], _ => by simp [listL]
  | f :: r, h => by
    have h1 := file_short (h f List.mem_cons_self)
    have h2 := list_short r (fun g hg => h g (List.mem_cons_of_mem _ hg))
    have e : listL (f :: r) = fileL f ++ 10 :: listL r := by simp [listL]
    rw [e]
    simp only [List.length_append, List.length_cons]
    omega

theorem snap_len {s : Sn} (h : (snapE s).1 = 0) : (snapH s (sumL (listL s.2.2.2.2.2.2))).length ≤ 100 ∧ (listL s.2.2.2.2.2.2).length ≤ 6060 := by
  obtain ⟨hb, ho, hl, _⟩ := snap_good h
  obtain ⟨⟨⟨a, b⟩, c, d⟩, ⟨⟨e, f⟩, g, i⟩, j, k⟩ := sbnd_all.1 hb
  obtain ⟨h60, hr⟩ := listE_ok.1 hl
  have hs := sumL_lt (listL s.2.2.2.2.2.2)
  have l1 := list_short s.2.2.2.2.2.2 (fun f hf => (hr.1 f hf).1)
  have q1 := itoa_short (n := s.1) (by omega) (by omega)
  have q2 := itoa_short (n := s.2.1) (by omega) (by omega)
  have q3 := itoa_short (n := s.2.2.1) (by omega) (by omega)
  have q4 := itoa_short (n := s.2.2.2.1) (by omega) (by omega)
  have q5 := itoa_short (n := s.2.2.2.2.1) (by omega) (by omega)
  have q6 := itoa_short (n := (sumL (listL s.2.2.2.2.2.2) : Int)) (by omega) (by omega)
  have q7 := op_len ho
  refine ⟨?_, by omega⟩
  unfold snapH
  simp only [List.length_append, List.length_cons]
  have : kSnap.length = 4 := rfl
  omega

theorem snap_read {s : Sn} (h : (snapE s).1 = 0) : readS (snapL s) = (s, 0, none) := by
  obtain ⟨hb, ho, hl, he⟩ := snap_good h
  obtain ⟨l1, l2⟩ := snap_len h
  have hs := sumL_lt (listL s.2.2.2.2.2.2)
  have hc := cut_at 10 (snapH s (sumL (listL s.2.2.2.2.2.2))) (listL s.2.2.2.2.2.2) (snapH_no_end ho _)
  have hlen : (snapL s).length ≤ 20000 := by
    unfold snapL
    simp only [List.length_append, List.length_cons]
    omega
  have e : Lib.cut (snapL s) [10] = (snapH s (sumL (listL s.2.2.2.2.2.2)), listL s.2.2.2.2.2.2, true) := hc
  unfold readS
  rw [if_neg (by omega), e]
  dsimp only
  rw [if_neg (by simp), snapO_text h _ (by omega)]
  dsimp only
  rw [readL_text hl]
  dsimp only
  have es : (s.1, s.2.1, s.2.2.1, s.2.2.2.1, s.2.2.2.2.1, bytesOf s.2.2.2.2.2.1.data.toList, s.2.2.2.2.2.2) = s := by rw [bytesOf_data]
  rw [if_neg (by simp), if_neg (by simp), es, if_neg (by simpa using h)]

theorem snap_other {s : Sn} (h : (snapE s).1 = 0) {i : Nat} {c : UInt8} (hi : i < (listL s.2.2.2.2.2.2).length) (hc : (listL s.2.2.2.2.2.2)[i] ≠ c) :
    readS (snapH s (sumL (listL s.2.2.2.2.2.2)) ++ 10 :: (listL s.2.2.2.2.2.2).set i c) = (zeroS, 10, none) := by
  obtain ⟨hb, ho, hl, he⟩ := snap_good h
  obtain ⟨l1, l2⟩ := snap_len h
  have hs := sumL_lt (listL s.2.2.2.2.2.2)
  have hct := cut_at 10 (snapH s (sumL (listL s.2.2.2.2.2.2))) ((listL s.2.2.2.2.2.2).set i c) (snapH_no_end ho _)
  have hne : sumL (listL s.2.2.2.2.2.2) ≠ sumL ((listL s.2.2.2.2.2.2).set i c) := fun e => by
    have e1 : listL s.2.2.2.2.2.2 = (listL s.2.2.2.2.2.2).take i ++ (listL s.2.2.2.2.2.2)[i] :: (listL s.2.2.2.2.2.2).drop (i + 1) := by rw [List.getElem_cons_drop, List.take_append_drop]
    have e2 : (listL s.2.2.2.2.2.2).set i c = (listL s.2.2.2.2.2.2).take i ++ c :: (listL s.2.2.2.2.2.2).drop (i + 1) := by rw [List.set_eq_take_append_cons_drop, if_pos hi]
    rw [e2] at e
    conv at e => lhs; rw [e1]
    exact hc (sum_parts _ _ _ _ e)
  unfold readS
  rw [if_neg (by simp only [List.length_append, List.length_cons, List.length_set]; omega), hct]
  dsimp only
  rw [if_neg (by simp), snapO_text h _ (by omega)]
  dsimp only
  rw [if_pos (by omega)]
end Go.Proofs.YtpkoefpdpoikkaaGreatDoor
