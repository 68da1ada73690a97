/-
  Plain mathematics of what is known of a file: its path, its checks, its text, and that it is read as it was written.
-/
import Derived.Test.YtniipgaacdpncaaGreatDoorDataPure
import Derived.Test.YtniipgaacdpncaaGreatDoorGonePure
import Derived.Lib.Slices
namespace Go.Proofs.YtniipgaacdpncaaGreatDoor
open Go Go.Lib

/-- What is known of a file: its path, its part, how many, the least and the greatest key, its place in time. -/
abbrev Fl := ByteArray × ByteArray × Int × Int × Int × Int

/-- A number that files are counted by. -/
def cntB (n : Int) : Bool := decide (1 ≤ n) && decide (n ≤ 1073741824)

def kindL (g : Bool) : List UInt8 := if g then kGone else kData

/-- A path's number, of the text behind its kind. -/
def pathN (s : List UInt8) : Option Int := match numO s with
  | some n => if cntB n then some n else none
  | none => none

/-- A path: is it one of keys, and its number. -/
def pathO (s : List UInt8) : Option (Bool × Int) :=
  if s.take 5 = kData ++ [47] then (pathN (s.drop 5)).map fun n => (false, n) else
  if s.take 5 = kGone ++ [47] then (pathN (s.drop 5)).map fun n => (true, n) else none

theorem num_nil : numO [] = none := by
  cases h : numO [] with
  | none => rfl
  | some n =>
    have := (numO_spelt h).1
    unfold itoa at this
    split at this
    · cases this
    · exact absurd this (digits_ne _)

theorem take_kind (k w : List UInt8) (hk : k.length = 4) : (k ++ 47 :: w).take 5 = k ++ [47] ∧ (k ++ 47 :: w).drop 5 = w := by
  have e : k ++ 47 :: w = (k ++ [47]) ++ w := by simp
  have hl : (k ++ [47]).length = 5 := by simp [hk]
  rw [e]
  exact ⟨by rw [← hl, List.take_left], by rw [← hl, List.drop_left]⟩

/-- By a kind and a slash. -/
theorem path_of (g : Bool) (w : List UInt8) : pathO (kindL g ++ 47 :: w) = (pathN w).map fun n => (g, n) := by
  obtain ⟨h1, h2⟩ := take_kind (kindL g) w (by cases g <;> rfl)
  unfold pathO
  rw [h1, h2]
  cases g
  · rw [if_pos (show kindL false ++ [47] = kData ++ [47] from rfl)]
  · rw [if_neg (by decide), if_pos (show kindL true ++ [47] = kGone ++ [47] from rfl)]

theorem path_some {s : List UInt8} {g : Bool} {n : Int} (h : pathO s = some (g, n)) : s = kindL g ++ 47 :: itoa n ∧ numO (itoa n) = some n ∧ cntB n = true := by
  have key : ∀ (k : List UInt8) (b : Bool), s.take 5 = k ++ [47] → (pathN (s.drop 5)).map (fun m => (b, m)) = some (g, n) → b = g ∧ s = k ++ 47 :: itoa n ∧ numO (itoa n) = some n ∧ cntB n = true := fun k b hk hp => by
    obtain ⟨m, hm, he⟩ := Option.map_eq_some_iff.1 hp
    simp only [Prod.mk.injEq] at he
    obtain ⟨rfl, rfl⟩ := he
    unfold pathN at hm
    split at hm
    · rename_i x hx
      split at hm
      · rename_i hc
        obtain rfl := Option.some.inj hm
        have hsp := (numO_spelt hx).1
        refine ⟨rfl, ?_, by rw [hsp]; exact hx, hc⟩
        rw [hsp]
        conv => lhs; rw [← List.take_append_drop 5 s, hk]
        simp
      · cases hm
    · cases hm
  unfold pathO at h
  split at h
  · rename_i hk
    obtain ⟨rfl, h'⟩ := key _ _ hk h
    exact h'
  · split at h
    · rename_i hk
      obtain ⟨rfl, h'⟩ := key _ _ hk h
      exact h'
    · cases h

/-- What comes ahead of the first slash is no kind: no path. -/
theorem path_cut (s : List UInt8) : pathO s = if (Lib.cut s [47]).1 = kData then (pathN (Lib.cut s [47]).2.1).map fun n => (false, n) else
    if (Lib.cut s [47]).1 = kGone then (pathN (Lib.cut s [47]).2.1).map fun n => (true, n) else none := by
  rcases cut_cases 47 s with ⟨hn, hc⟩ | ⟨a, b, rfl, hn, hc⟩
  · rw [hc]
    have hp : pathN [] = none := by unfold pathN; rw [num_nil]
    have hnone : pathO s = none := by
      cases h : pathO s with
      | none => rfl
      | some p =>
        obtain ⟨g, n⟩ := p
        have := (path_some h).1
        exact absurd rfl (hn 47 (by rw [this]; simp))
    rw [hnone]
    dsimp only
    rw [hp]
    split
    · rfl
    · split <;> rfl
  · rw [hc]
    dsimp only
    by_cases h1 : a = kData
    · subst h1
      rw [if_pos rfl]
      exact path_of false b
    · rw [if_neg h1]
      by_cases h2 : a = kGone
      · subst h2
        rw [if_pos rfl]
        exact path_of true b
      · rw [if_neg h2]
        cases h : pathO (a ++ 47 :: b) with
        | none => rfl
        | some p =>
          obtain ⟨g, n⟩ := p
          have e := (path_some h).1
          have hk : ∀ c ∈ kindL g, c ≠ 47 := by cases g <;> decide
          have e1 := cut_at 47 a b hn
          rw [e, cut_at 47 _ _ hk] at e1
          simp only [Prod.mk.injEq, and_true] at e1
          cases g
          · exact absurd e1.1.symm h1
          · exact absurd e1.1.symm h2

/-- The same by the first four signs, the fifth, and the rest. -/
theorem path_parts {s : List UInt8} (h : 6 ≤ s.length) : pathO s = if (s.take 4 = kData ∨ s.take 4 = kGone) ∧ s[4]? = some 47 then (pathN (s.drop 5)).map fun n => (decide (s.take 4 = kGone), n) else none := by
  have ht : ∀ k : List UInt8, k.length = 4 → (s.take 5 = k ++ [47] ↔ s.take 4 = k ∧ s[4]? = some 47) := fun k hk => by
    have e5 : s.take 5 = s.take 4 ++ [s[4]'(by omega)] := by rw [List.take_succ_eq_append_getElem (by omega)]
    rw [e5, List.getElem?_eq_getElem (by omega : 4 < s.length)]
    have hl : (s.take 4).length = k.length := by rw [List.length_take, hk]; omega
    constructor
    · intro e
      obtain ⟨e1, e2⟩ := List.append_inj e hl
      exact ⟨e1, by rw [List.singleton_inj.1 e2]⟩
    · rintro ⟨e1, e2⟩
      rw [e1, Option.some.inj e2]
  unfold pathO
  have d1 := ht kData rfl
  have d2 := ht kGone rfl
  by_cases h1 : s.take 5 = kData ++ [47]
  · have e1 := d1.1 h1
    rw [if_pos h1, if_pos ⟨Or.inl e1.1, e1.2⟩, e1.1]
    rfl
  · rw [if_neg h1]
    by_cases h2 : s.take 5 = kGone ++ [47]
    · have e2 := d2.1 h2
      rw [if_pos h2, if_pos ⟨Or.inr e2.1, e2.2⟩, e2.1]
      rfl
    · rw [if_neg h2, if_neg]
      rintro ⟨e | e, e'⟩
      · exact h1 (d1.2 ⟨e, e'⟩)
      · exact h2 (d2.2 ⟨e, e'⟩)

theorem path_short {s : List UInt8} (h : s.length < 6) : pathO s = none := by
  have e : s.drop 5 = [] := by rw [List.drop_eq_nil_iff]; omega
  have hp : pathN [] = none := by unfold pathN; rw [num_nil]
  unfold pathO
  rw [e, hp]
  split
  · rfl
  · split <;> rfl

/-- What a path is: its kind, its number, an error's number. -/
def pathR (s : List UInt8) : List UInt8 × Int × Nat := match pathO s with
  | some (g, n) => (kindL g, n, 0)
  | none => ([], 0, 5)

/-- Is a Part one of that kind? -/
def partB (g : Bool) (s : List UInt8) : Bool := if g then decide (s = [45]) else wordB 12 s

def bndB (f : Fl) : Bool := decide (1 ≤ f.2.2.1) && decide (f.2.2.1 ≤ 40) && inNum f.2.2.2.1 && inNum f.2.2.2.2.1 && decide (f.2.2.2.1 ≤ f.2.2.2.2.1) && cntB f.2.2.2.2.2

/-- The number of the error of what is known: 0: none. -/
def fileE (f : Fl) : Nat := match pathO f.1.data.toList with
  | none => 5
  | some (g, _) => if partB g f.2.1.data.toList then (if bndB f then 0 else 2) else 4

def fileL (f : Fl) : List UInt8 := f.1.data.toList ++ 32 :: (f.2.1.data.toList ++ 32 :: (itoa f.2.2.1 ++ 32 :: (itoa f.2.2.2.1 ++ 32 :: (itoa f.2.2.2.2.1 ++ 32 :: itoa f.2.2.2.2.2))))

/-- Its text, or none. -/
def fileB (f : Fl) : ByteArray := if fileE f = 0 then bytesOf (fileL f) else bytesOf []

def zeroF : Fl := (bytesOf [], bytesOf [], 0, 0, 0, 0)

/-- What is known, and checked. -/
def chkF (f : Fl) : Fl × Nat := if fileE f = 0 then (f, 0) else (zeroF, fileE f)

/-- What a text is. -/
def readF (s : List UInt8) : Fl × Nat := match words s with
  | [p, q, a, b, c, d] => (match numO a, numO b, numO c, numO d with
    | some n, some lo, some hi, some seq => chkF (bytesOf p, bytesOf q, n, lo, hi, seq)
    | _, _, _, _ => (zeroF, 1))
  | _ => (zeroF, 1)

/-- The keys of a file's text, or an error's number. -/
def keysF (g : Bool) (s : List UInt8) : List Int × Nat := if g then ((goneO s).1, (goneO s).2.1) else (keysR (dataO s).1, (dataO s).2.1)

/-- What is known of a file's text. -/
def ofF (path part : ByteArray) (s : List UInt8) (seq : Int) : Fl × Nat := match pathO path.data.toList with
  | none => (zeroF, 5)
  | some (g, _) => if (keysF g s).2 = 0 then chkF (path, part, (keysF g s).1.length, (endsZ (keysF g s).1).1, (endsZ (keysF g s).1).2, seq) else (zeroF, (keysF g s).2)

theorem fileE_le (f : Fl) : fileE f ≤ 5 := by
  unfold fileE
  split
  · omega
  · split
    · split <;> omega
    · omega

theorem file_good {f : Fl} (h : fileE f = 0) : ∃ g n, pathO f.1.data.toList = some (g, n) ∧ partB g f.2.1.data.toList = true ∧ bndB f = true := by
  unfold fileE at h
  split at h
  · cases h
  · rename_i g n hp
    split at h
    · rename_i hq
      split at h
      · rename_i hb
        exact ⟨g, n, hp, hq, hb⟩
      · cases h
    · cases h

theorem cnt_in {n : Int} (h : cntB n = true) : inNum n = true := by
  simp only [cntB, inNum, Bool.and_eq_true, decide_eq_true_eq] at h ⊢
  omega

theorem bnd_nums {f : Fl} (h : bndB f = true) : inNum f.2.2.1 = true ∧ inNum f.2.2.2.1 = true ∧ inNum f.2.2.2.2.1 = true ∧ inNum f.2.2.2.2.2 = true := by
  simp only [bndB, Bool.and_eq_true] at h
  refine ⟨?_, h.1.1.1.2, h.1.1.2, cnt_in h.2⟩
  have h1 := h.1.1.1.1
  simp only [decide_eq_true_eq] at h1
  simp only [inNum, Bool.and_eq_true, decide_eq_true_eq]
  omega

theorem path_no_blank {s : List UInt8} {g : Bool} {n : Int} (h : pathO s = some (g, n)) : ∀ c ∈ s, c ≠ 32 := by
  intro c hc
  rw [(path_some h).1, List.mem_append, List.mem_cons] at hc
  rcases hc with hc | rfl | hc
  · exact (show ∀ c ∈ kindL g, c ≠ 32 by cases g <;> decide) c hc
  · decide
  · exact itoa_no_blank n c hc

theorem part_no_blank {s : List UInt8} {g : Bool} (h : partB g s = true) : ∀ c ∈ s, c ≠ 32 := by
  unfold partB at h
  cases g
  · exact word_no_blank (by simpa using h)
  · simp only [if_true, decide_eq_true_eq] at h
    subst h
    decide

theorem file_words {f : Fl} (h : fileE f = 0) : words (fileL f) = [f.1.data.toList, f.2.1.data.toList, itoa f.2.2.1, itoa f.2.2.2.1, itoa f.2.2.2.2.1, itoa f.2.2.2.2.2] := by
  obtain ⟨g, n, hp, hq, _⟩ := file_good h
  unfold fileL
  rw [words_append _ _ (path_no_blank hp), words_append _ _ (part_no_blank hq), words_append _ _ (itoa_no_blank _), words_append _ _ (itoa_no_blank _), words_append _ _ (itoa_no_blank _), words_none _ (itoa_no_blank _)]

/-- It is read as it was written. -/
theorem readF_text {f : Fl} (h : fileE f = 0) : readF (fileL f) = (f, 0) := by
  obtain ⟨g, n, hp, hq, hb⟩ := file_good h
  obtain ⟨b1, b2, b3, b4⟩ := bnd_nums hb
  unfold readF
  rw [file_words h]
  dsimp only
  rw [numO_itoa _ b1, numO_itoa _ b2, numO_itoa _ b3, numO_itoa _ b4, bytesOf_data, bytesOf_data]
  dsimp only
  unfold chkF
  have e : ((f.1, f.2.1, f.2.2.1, f.2.2.2.1, f.2.2.2.2.1, f.2.2.2.2.2) : Fl) = f := rfl
  rw [e, if_pos h]

theorem min_ends {zs : List Int} (h : zs ≠ []) : Lib.minOf zs = (endsZ zs).1 ∧ Lib.maxOf zs = (endsZ zs).2 := by
  have f1 : ∀ (r : List Int) (z : Int), r.foldl min z = r.foldl (fun a k => if k < a then k else a) z := fun r => by
    induction r with
    | nil => intro z; rfl
    | cons k r ih =>
      intro z
      rw [List.foldl_cons, List.foldl_cons, ih]
      congr 1
      rw [Int.min_def]
      split <;> split <;> omega
  have f2 : ∀ (r : List Int) (z : Int), r.foldl max z = r.foldl (fun a k => if a < k then k else a) z := fun r => by
    induction r with
    | nil => intro z; rfl
    | cons k r ih =>
      intro z
      rw [List.foldl_cons, List.foldl_cons, ih]
      congr 1
      rw [Int.max_def]
      split <;> split <;> omega
  cases zs with
  | nil => exact absurd rfl h
  | cons z r =>
    unfold Lib.minOf Lib.maxOf
    simp only [List.headD_cons, List.foldl_cons, Int.min_self, Int.max_self]
    exact ⟨f1 r z, f2 r z⟩
end Go.Proofs.YtniipgaacdpncaaGreatDoor
