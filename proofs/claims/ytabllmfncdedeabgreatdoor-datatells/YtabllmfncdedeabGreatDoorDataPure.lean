/-
  Plain mathematics of a file of rows: its text, what a text is, that a file is read as it was written, and that with one byte another one it is none.
-/
import Derived.Test.YtabllmfncdedeabGreatDoorLinePure
import Derived.Test.YtabllmfncdedeabGreatDoorCrcPure
namespace Go.Proofs.YtabllmfncdedeabGreatDoor
open Go Go.Lib Go.Sort

/-- The least and the greatest of some keys; of none: 0, 0. -/
def endsZ : List Int → Int × Int
  | [] => (0, 0)
  | z :: r => (r.foldl (fun a k => if k < a then k else a) z, r.foldl (fun a k => if a < k then k else a) z)

def keysR (xs : List Rw) : List Int := xs.map (·.2.1)

theorem foldlo_is : ∀ (r : List Int) (z : Int), (r.foldl (fun a k => if k < a then k else a) z ∈ z :: r) ∧ ∀ k ∈ z :: r, r.foldl (fun a k => if k < a then k else a) z ≤ k
  | [], z => by simp
  | k :: r, z => by
    rw [List.foldl_cons]
    obtain ⟨h1, h2⟩ := foldlo_is r (if k < z then k else z)
    generalize List.foldl (fun a k => if k < a then k else a) (if k < z then k else z) r = m at h1 h2 ⊢
    have hk := h2 (if k < z then k else z) List.mem_cons_self
    refine ⟨?_, fun j hj => ?_⟩
    · rw [List.mem_cons] at h1
      rcases h1 with h1 | h1
      · rw [h1]; split <;> simp
      · exact List.mem_cons_of_mem _ (List.mem_cons_of_mem _ h1)
    · simp only [List.mem_cons] at hj
      rcases hj with rfl | rfl | hj
      · split at hk <;> omega
      · split at hk <;> omega
      · exact h2 j (List.mem_cons_of_mem _ hj)

theorem foldhi_is : ∀ (r : List Int) (z : Int), (r.foldl (fun a k => if a < k then k else a) z ∈ z :: r) ∧ ∀ k ∈ z :: r, k ≤ r.foldl (fun a k => if a < k then k else a) z
  | [], z => by simp
  | k :: r, z => by
    rw [List.foldl_cons]
    obtain ⟨h1, h2⟩ := foldhi_is r (if z < k then k else z)
    generalize List.foldl (fun a k => if a < k then k else a) (if z < k then k else z) r = m at h1 h2 ⊢
    have hk := h2 (if z < k then k else z) List.mem_cons_self
    refine ⟨?_, fun j hj => ?_⟩
    · rw [List.mem_cons] at h1
      rcases h1 with h1 | h1
      · rw [h1]; split <;> simp
      · exact List.mem_cons_of_mem _ (List.mem_cons_of_mem _ h1)
    · simp only [List.mem_cons] at hj
      rcases hj with rfl | rfl | hj
      · split at hk <;> omega
      · split at hk <;> omega
      · exact h2 j (List.mem_cons_of_mem _ hj)

theorem ends_mem {zs : List Int} (h : zs ≠ []) : (endsZ zs).1 ∈ zs ∧ (endsZ zs).2 ∈ zs ∧ ∀ k ∈ zs, (endsZ zs).1 ≤ k ∧ k ≤ (endsZ zs).2 := by
  cases zs with
  | nil => exact absurd rfl h
  | cons z r => exact ⟨(foldlo_is r z).1, (foldhi_is r z).1, fun k hk => ⟨(foldlo_is r z).2 k hk, (foldhi_is r z).2 k hk⟩⟩

theorem ends_perm {xs ys : List Int} (h : xs.Perm ys) : endsZ xs = endsZ ys := by
  by_cases hx : xs = []
  · subst hx; rw [List.nil_perm.1 h]
  · have hy : ys ≠ [] := fun e => hx (by rw [e] at h; exact List.perm_nil.1 h)
    obtain ⟨a1, a2, a3⟩ := ends_mem hx
    obtain ⟨b1, b2, b3⟩ := ends_mem hy
    have c1 := a3 _ (h.mem_iff.2 b1)
    have c2 := a3 _ (h.mem_iff.2 b2)
    have d1 := b3 _ (h.mem_iff.1 a1)
    have d2 := b3 _ (h.mem_iff.1 a2)
    exact Prod.ext (by omega) (by omega)

theorem ends_in {xs : List Rw} (h : ∀ x ∈ xs, rowE x = 0) : inNum (endsZ (keysR xs)).1 = true ∧ inNum (endsZ (keysR xs)).2 = true := by
  by_cases hx : keysR xs = []
  · rw [hx]; exact ⟨by decide, by decide⟩
  · obtain ⟨a1, a2, _⟩ := ends_mem hx
    have key : ∀ z ∈ keysR xs, inNum z = true := fun z hz => by
      simp only [keysR, List.mem_map] at hz
      obtain ⟨x, hm, rfl⟩ := hz
      have := h x hm
      unfold rowE at this
      split at this
      · split at this
        · rename_i h'; simp only [Bool.and_eq_true] at h'; exact h'.1
        · omega
      · omega
    exact ⟨key _ a1, key _ a2⟩

def kData : List UInt8 := [100, 97, 116, 97]

/-- A head's line. -/
def headL (n lo hi sum : Int) : List UInt8 := kData ++ 32 :: (itoa n ++ 32 :: (itoa lo ++ 32 :: (itoa hi ++ 32 :: itoa sum)))

/-- The rows' lines. -/
def linesL (xs : List Rw) : List UInt8 := xs.flatMap fun x => textL x ++ [10]

/-- The file of rows that are sorted. -/
def fileOf (xs : List Rw) : List UInt8 := headL xs.length (endsZ (keysR xs)).1 (endsZ (keysR xs)).2 (sumL (linesL xs)) ++ 10 :: linesL xs

/-- A head's four numbers. -/
def headO (l : List UInt8) : Option (Int × Int × Int × Int) :=
  match words l with
  | [k, a, b, c, d] => if k = kData then (match numO a, numO b, numO c, numO d with
    | some a, some b, some c, some d => some (a, b, c, d)
    | _, _, _, _ => none) else none
  | _ => none

/-- Lines, one behind the other: rows, or an error's number and its line. -/
def rowsO : List (List UInt8) → Nat → List Rw → List Rw × Nat × Nat
  | [], _, acc => (acc, 0, 0)
  | [l], at_, acc => if l = [] then (acc, 0, 0) else ([], 1, at_)
  | l :: r, at_, acc => if (readO l).2 ≠ 0 then ([], (readO l).2, at_) else
    if acc ≠ [] ∧ ltOf cfR (readO l).1 (acc.getLastD (bytesOf [], 0, 0)) = true then ([], 9, at_) else rowsO r (at_ + 1) (acc ++ [(readO l).1])

/-- Behind the lines: too many, other numbers than the head's, or the rows. -/
def endO (n lo hi : Int) (R : List Rw × Nat × Nat) : List Rw × Nat × Option Nat :=
  if R.2.1 ≠ 0 then ([], R.2.1, some R.2.2) else if 40 < R.1.length then ([], 8, none) else
  if n = R.1.length ∧ lo = (endsZ (keysR R.1)).1 ∧ hi = (endsZ (keysR R.1)).2 then (R.1, 0, none) else ([], 3, none)

/-- What a text is: rows, an error's number (0: none), its line (none: nowhere). -/
def dataO (s : List UInt8) : List Rw × Nat × Option Nat :=
  if 20000 < s.length then ([], 2, none) else
  if (Lib.cut s [10]).2.2 = false then ([], 1, none) else
  match headO (Lib.cut s [10]).1 with
  | none => ([], 1, none)
  | some (n, lo, hi, sum) =>
    if sum ≠ sumL (Lib.cut s [10]).2.1 then ([], 10, none) else
    endO n lo hi (rowsO (pieces 10 (Lib.cut s [10]).2.1) 0 [])

theorem lines_cons (x : Rw) (xs : List Rw) : linesL (x :: xs) = textL x ++ 10 :: linesL xs := by simp [linesL]

theorem pieces_lines : ∀ xs : List Rw, (∀ x ∈ xs, rowE x = 0) → pieces 10 (linesL xs) = xs.map textL ++ [[]]
  | [], _ => rfl
  | x :: xs, h => by
    rw [lines_cons, pieces_append 10 _ _ (text_no_end x (h x List.mem_cons_self)), pieces_lines xs (fun y hy => h y (List.mem_cons_of_mem _ hy))]
    rfl

theorem rowsO_cons (l l2 : List UInt8) (r : List (List UInt8)) (at_ : Nat) (acc : List Rw) : rowsO (l :: l2 :: r) at_ acc = if (readO l).2 ≠ 0 then ([], (readO l).2, at_) else
    if acc ≠ [] ∧ ltOf cfR (readO l).1 (acc.getLastD (bytesOf [], 0, 0)) = true then ([], 9, at_) else rowsO (l2 :: r) (at_ + 1) (acc ++ [(readO l).1]) := rfl

theorem rowsO_lines : ∀ (xs acc : List Rw) (at_ : Nat), (∀ x ∈ xs, rowE x = 0) → (acc ++ xs).Pairwise (fun x y => ltOf cfR y x = false) → rowsO (xs.map textL ++ [[]]) at_ acc = (acc ++ xs, 0, 0)
  | [], acc, at_, _, _ => by simp [rowsO]
  | x :: xs, acc, at_, h, hp => by
    have hr := read_text x (h x List.mem_cons_self)
    have hne : xs.map textL ++ [[]] ≠ [] := by simp
    obtain ⟨l2, r, e⟩ := List.exists_cons_of_ne_nil hne
    rw [List.map_cons, List.cons_append, e, rowsO_cons, hr, if_neg (by simp)]
    have hno : ¬ (acc ≠ [] ∧ ltOf cfR x (acc.getLastD (bytesOf [], 0, 0)) = true) := by
      rintro ⟨h1, h2⟩
      have hm : acc.getLastD (bytesOf [], 0, 0) ∈ acc := by
        rw [List.getLastD_eq_getLast?, List.getLast?_eq_some_getLast h1]
        exact List.getLast_mem h1
      have := (List.pairwise_append.1 hp).2.2 _ hm x List.mem_cons_self
      rw [this] at h2; cases h2
    dsimp only
    rw [if_neg hno, ← e]
    have := rowsO_lines xs (acc ++ [x]) (at_ + 1) (fun y hy => h y (List.mem_cons_of_mem _ hy)) (by simpa using hp)
    simpa using this

theorem head_no_end (n lo hi sum : Int) : ∀ c ∈ headL n lo hi sum, c ≠ 10 := by
  intro c hc
  unfold headL kData at hc
  simp only [List.mem_append, List.mem_cons, List.not_mem_nil, or_false] at hc
  rcases hc with (rfl | rfl | rfl | rfl) | rfl | hc | rfl | hc | rfl | hc | rfl | hc
  all_goals first | decide | exact itoa_no_end _ c hc

theorem kData_no_blank : ∀ c ∈ kData, c ≠ 32 := by decide

theorem head_words (n lo hi sum : Int) : words (headL n lo hi sum) = [kData, itoa n, itoa lo, itoa hi, itoa sum] := by
  unfold headL
  rw [words_append _ _ kData_no_blank, words_append _ _ (itoa_no_blank _), words_append _ _ (itoa_no_blank _), words_append _ _ (itoa_no_blank _), words_none _ (itoa_no_blank _)]

theorem itoa_len11 (n : Int) (h0 : -1073741824 ≤ n) (h1 : n ≤ 4294967296) : (itoa n).length ≤ 11 := by
  unfold itoa
  split
  · have := digits_len 9 n.natAbs (by omega)
    simp; omega
  · have := digits_len 9 n.toNat (by omega)
    omega

theorem numO_of (n : Int) (h0 : -1073741824 ≤ n) (h1 : n ≤ 4294967296) : numO (itoa n) = some n := by
  unfold numO
  rw [if_pos (itoa_len11 n h0 h1), atoi_itoa]
  simp

theorem head_read (n lo hi sum : Int) (hn : 0 ≤ n ∧ n ≤ 1000) (hlo : inNum lo = true) (hhi : inNum hi = true) (hs : 0 ≤ sum ∧ sum < 4294967296) : headO (headL n lo hi sum) = some (n, lo, hi, sum) := by
  simp only [inNum, Bool.and_eq_true, decide_eq_true_eq] at hlo hhi
  unfold headO
  rw [head_words]
  simp only [if_pos, numO_of n (by omega) (by omega), numO_of lo (by omega) (by omega), numO_of hi (by omega) (by omega), numO_of sum (by omega) (by omega)]

theorem words_join : ∀ (l : List UInt8) (k a b c d : List UInt8), words l = [k, a, b, c, d] → l = k ++ 32 :: (a ++ 32 :: (b ++ 32 :: (c ++ 32 :: d))) := by
  have one : ∀ (l x : List UInt8) (r : List (List UInt8)), words l = x :: r → (r = [] ∧ l = x) ∨ ∃ l', l = x ++ 32 :: l' ∧ words l' = r := by
    intro l x r h
    rcases cut_cases 32 l with ⟨hn, _⟩ | ⟨p, q, e, hn, _⟩
    · rw [words_none l hn] at h
      simp only [List.cons.injEq] at h
      exact Or.inl ⟨h.2.symm, h.1⟩
    · rw [e, words_append p q hn] at h
      simp only [List.cons.injEq] at h
      exact Or.inr ⟨q, by rw [e, h.1], h.2⟩
  intro l k a b c d h
  rcases one l _ _ h with ⟨e, _⟩ | ⟨l1, rfl, h1⟩
  · cases e
  rcases one l1 _ _ h1 with ⟨e, _⟩ | ⟨l2, rfl, h2⟩
  · cases e
  rcases one l2 _ _ h2 with ⟨e, _⟩ | ⟨l3, rfl, h3⟩
  · cases e
  rcases one l3 _ _ h3 with ⟨e, _⟩ | ⟨l4, rfl, h4⟩
  · cases e
  rcases one l4 _ _ h4 with ⟨_, rfl⟩ | ⟨l5, rfl, h5⟩
  · rfl
  · exact absurd h5 (by rw [← pieces_words]; exact pieces_ne 32 l5)

theorem headO_is {l : List UInt8} {n lo hi sum : Int} (h : headO l = some (n, lo, hi, sum)) : l = headL n lo hi sum := by
  unfold headO at h
  split at h
  · rename_i k a b c d hw
    split at h
    · rename_i hk
      split at h
      · rename_i a' b' c' d' ha hb hc hd
        simp only [Option.some.injEq, Prod.mk.injEq] at h
        obtain ⟨rfl, rfl, rfl, rfl⟩ := h
        rw [words_join l _ _ _ _ _ hw, hk, ← (numO_spelt ha).1, ← (numO_spelt hb).1, ← (numO_spelt hc).1, ← (numO_spelt hd).1]
        rfl
      · cases h
    · cases h
  · cases h

theorem head_len (n lo hi sum : Int) (hn : 0 ≤ n ∧ n ≤ 1000) (hlo : inNum lo = true) (hhi : inNum hi = true) (hs : 0 ≤ sum ∧ sum < 4294967296) : (headL n lo hi sum).length ≤ 60 := by
  simp only [inNum, Bool.and_eq_true, decide_eq_true_eq] at hlo hhi
  have h1 := itoa_len11 n (by omega) (by omega)
  have h2 := itoa_len11 lo (by omega) (by omega)
  have h3 := itoa_len11 hi (by omega) (by omega)
  have h4 := itoa_len11 sum (by omega) (by omega)
  unfold headL kData
  simp only [List.length_append, List.length_cons, List.length_nil]
  omega

theorem text_len (x : Rw) (h : rowE x = 0) : (textL x).length ≤ 32 := by
  have hn := name_of_row h
  simp only [nameB, Bool.and_eq_true, decide_eq_true_eq] at hn
  have hk : inNum x.2.1 = true ∧ inNum x.2.2 = true := by
    unfold rowE at h
    rw [if_pos (name_of_row h)] at h
    split at h
    · rename_i h'; simpa using h'
    · omega
  simp only [inNum, Bool.and_eq_true, decide_eq_true_eq] at hk
  have h2 := itoa_len x.2.1 (by omega) (by omega)
  have h3 := itoa_len x.2.2 (by omega) (by omega)
  unfold textL
  simp only [List.length_append, List.length_cons]
  omega

theorem lines_len : ∀ xs : List Rw, (∀ x ∈ xs, rowE x = 0) → (linesL xs).length ≤ 33 * xs.length
  | [], _ => by simp [linesL]
  | x :: xs, h => by
    have h1 := lines_len xs (fun y hy => h y (List.mem_cons_of_mem _ hy))
    have h2 := text_len x (h x List.mem_cons_self)
    rw [lines_cons]
    simp only [List.length_append, List.length_cons]
    omega

theorem file_len (xs : List Rw) (h : ∀ x ∈ xs, rowE x = 0) (hl : xs.length ≤ 40) : (fileOf xs).length ≤ 1400 := by
  have h1 := lines_len xs h
  obtain ⟨e1, e2⟩ := ends_in h
  have h2 := head_len xs.length _ _ (sumL (linesL xs)) (by omega) e1 e2 (by have := sumL_lt (linesL xs); omega)
  unfold fileOf
  simp only [List.length_append, List.length_cons]
  omega

/-- A file is read as it was written. -/
theorem file_read (xs : List Rw) (h : ∀ x ∈ xs, rowE x = 0) (hl : xs.length ≤ 40) (hs : xs.Pairwise (fun x y => ltOf cfR y x = false)) : dataO (fileOf xs) = (xs, 0, none) := by
  have hlen := file_len xs h hl
  obtain ⟨e1, e2⟩ := ends_in h
  have hc := cut_at 10 (headL xs.length (endsZ (keysR xs)).1 (endsZ (keysR xs)).2 (sumL (linesL xs))) (linesL xs) (head_no_end _ _ _ _)
  have hh := head_read xs.length _ _ (sumL (linesL xs)) (by omega) e1 e2 (by have := sumL_lt (linesL xs); omega)
  have hr := rowsO_lines xs [] 0 h (by simpa using hs)
  rw [← pieces_lines xs h] at hr
  unfold dataO
  rw [if_neg (by omega)]
  unfold fileOf
  rw [hc]
  simp only [hh, hr, List.nil_append]
  simp [endO]
  omega

theorem readO_oneword {l : List UInt8} (h : ∀ c ∈ l, c ≠ 32) : (readO l).2 = 1 := by
  unfold readO
  rw [words_none l h]

theorem dataO_first {s : List UInt8} (h : (dataO s).2.1 = 0) : ∃ (a b : List UInt8) (n lo hi sum : Int), s = a ++ 10 :: b ∧ (∀ c ∈ a, c ≠ 10) ∧ a = headL n lo hi sum ∧ sum = sumL b ∧ ∃ xs, rowsO (pieces 10 b) 0 [] = (xs, 0, (rowsO (pieces 10 b) 0 []).2.2) ∧ n = xs.length ∧ lo = (endsZ (keysR xs)).1 ∧ hi = (endsZ (keysR xs)).2 := by
  unfold dataO at h
  split at h
  · cases h
  rcases cut_cases 10 s with ⟨_, hc⟩ | ⟨a, b, e, hn, hc⟩
  · rw [hc] at h; simp at h
  rw [hc] at h
  simp only [Bool.true_eq_false, if_false] at h
  cases hh : headO a with
  | none => rw [hh] at h; simp at h
  | some q =>
    obtain ⟨n, lo, hi, sum⟩ := q
    rw [hh] at h
    dsimp only at h
    split at h
    · cases h
    rename_i hsum
    have hsum : sum = sumL b := Classical.byContradiction hsum
    generalize hR : rowsO (pieces 10 b) 0 [] = R at h
    obtain ⟨xs, e', at_⟩ := R
    unfold endO at h
    dsimp only at h
    split at h
    · rename_i h0
      exact absurd h h0
    · rename_i h0
      have h0 : e' = 0 := Classical.byContradiction h0
      subst h0
      split at h
      · cases h
      · split at h
        · rename_i hq
          exact ⟨a, b, n, lo, hi, sum, e, hn, headO_is hh, hsum, xs, by rw [hR], hq.1, hq.2.1, hq.2.2⟩
        · cases h

/-- With one byte another one, a file is none. -/
theorem file_parts (xs : List Rw) (h : ∀ x ∈ xs, rowE x = 0) (hl : xs.length ≤ 40) (hs : xs.Pairwise (fun x y => ltOf cfR y x = false)) (i : Nat) (c : UInt8) (hi : i < (fileOf xs).length) (hc : (fileOf xs)[i] ≠ c) : (dataO ((fileOf xs).set i c)).2.1 ≠ 0 := by
  intro hz
  obtain ⟨e1, e2⟩ := ends_in h
  have hsl := sumL_lt (linesL xs)
  have hrows := rowsO_lines xs [] 0 h (by simpa using hs)
  rw [← pieces_lines xs h, List.nil_append] at hrows
  obtain ⟨a, b, n, lo, hg, sum, es, hna, ea, esum, ys, hys, en, elo, ehi⟩ := dataO_first hz
  generalize hH : headL xs.length (endsZ (keysR xs)).1 (endsZ (keysR xs)).2 (sumL (linesL xs)) = H at *
  have hHn : ∀ c ∈ H, c ≠ 10 := by rw [← hH]; exact head_no_end _ _ _ _
  have hHb : H.count 32 = 4 := by
    have := pieces_count 32 H
    have h5 : (words H).length = 5 := by rw [← hH, head_words]; rfl
    rw [pieces_words, h5] at this
    omega
  have hab : a.count 32 = 4 := by
    have := pieces_count 32 a
    have h5 : (words a).length = 5 := by rw [ea, head_words]; rfl
    rw [pieces_words, h5] at this
    omega
  have hF : fileOf xs = H ++ 10 :: linesL xs := by unfold fileOf; rw [hH]
  have hlen : (fileOf xs).length = H.length + 1 + (linesL xs).length := by rw [hF]; simp; omega
  have uniq : ∀ a' b' : List UInt8, (fileOf xs).set i c = a' ++ 10 :: b' → (∀ c ∈ a', c ≠ 10) → a = a' ∧ b = b' := by
    intro a' b' e' hn'
    have h1 := cut_at 10 a' b' hn'
    rw [← e', es] at h1
    exact (cut_split 10 rfl hna h1).imp Eq.symm Eq.symm
  rcases Nat.lt_trichotomy i H.length with hlt | heq | hgt
  · have hset : (fileOf xs).set i c = H.set i c ++ 10 :: linesL xs := by rw [hF, List.set_append_left _ _ hlt]
    have hgi : H[i] ≠ c := by
      intro e
      apply hc
      simp only [hF, List.getElem_append_left hlt, e]
    by_cases hc10 : c = 10
    · subst hc10
      have hsp : H.set i 10 = H.take i ++ 10 :: H.drop (i + 1) := by rw [List.set_eq_take_append_cons_drop, if_pos hlt]
      rw [hsp, List.append_assoc, List.cons_append] at hset
      obtain ⟨ra, rb⟩ := uniq _ _ hset (fun c hc => hHn c (List.mem_of_mem_take hc))
      have hcnt : (H.drop (i + 1)).count 32 = 0 := by
        have hx : H = H.take i ++ H[i] :: H.drop (i + 1) := by rw [← List.drop_eq_getElem_cons hlt, List.take_append_drop]
        have hy := congrArg (List.count 32) hx
        rw [List.count_append, List.count_cons] at hy
        rw [ra] at hab
        omega
      have hnb : ∀ c ∈ H.drop (i + 1), c ≠ 32 := fun c hc e => List.count_eq_zero.1 hcnt (e ▸ hc)
      have hp := pieces_append 10 (H.drop (i + 1)) (linesL xs) (fun c hc => hHn c (List.mem_of_mem_drop hc))
      rw [rb, hp] at hys
      obtain ⟨l2, r, er⟩ := List.exists_cons_of_ne_nil (pieces_ne 10 (linesL xs))
      rw [er, rowsO_cons, readO_oneword hnb] at hys
      simp at hys
    · obtain ⟨ra, rb⟩ := uniq _ _ hset (fun d hd => by
        rcases List.mem_or_eq_of_mem_set hd with hd | rfl
        · exact hHn d hd
        · exact hc10)
      rw [rb, hrows] at hys
      simp only [Prod.mk.injEq] at hys
      have : ys = xs := hys.1.symm
      subst this
      rw [rb] at esum
      have : H.set i c = H := by rw [← ra, ea, en, elo, ehi, esum, hH]
      have hx := congrArg (·[i]?) this
      simp [hlt] at hx
      exact hgi hx.symm
  · subst heq
    have hset : (fileOf xs).set H.length c = H ++ c :: linesL xs := by
      rw [hF, List.set_append_right _ _ (Nat.le_refl _), Nat.sub_self]; rfl
    have hc10 : c ≠ 10 := by
      intro e
      apply hc
      simp only [hF, List.getElem_append_right (Nat.le_refl _), Nat.sub_self, List.getElem_cons_zero, e]
    cases xs with
    | nil =>
      rw [hset] at es
      have hm : (10 : UInt8) ∈ H ++ c :: linesL [] := by rw [es]; simp
      simp only [linesL, List.flatMap_nil, List.mem_append, List.mem_cons, List.not_mem_nil, or_false] at hm
      rcases hm with hm | hm
      · exact hHn _ hm rfl
      · exact hc10 hm.symm
    | cons x xs =>
      rw [lines_cons] at hset
      have hx0 := h x List.mem_cons_self
      obtain ⟨ra, _⟩ := uniq (H ++ c :: textL x) (linesL xs) (by rw [hset]; simp) (fun d hd => by
        simp only [List.mem_append, List.mem_cons] at hd
        rcases hd with hd | rfl | hd
        · exact hHn d hd
        · exact hc10
        · exact text_no_end x hx0 d hd)
      have hcn := text_blanks x hx0
      rw [ra, List.count_append, List.count_cons, hcn] at hab
      omega
  · obtain ⟨j, rfl⟩ : ∃ j, i = H.length + 1 + j := ⟨i - (H.length + 1), by omega⟩
    have hj : j < (linesL xs).length := by omega
    have hset : (fileOf xs).set (H.length + 1 + j) c = H ++ 10 :: (linesL xs).set j c := by
      rw [hF, List.set_append_right _ _ (by omega), show H.length + 1 + j - H.length = j + 1 by omega]; rfl
    have hgj : (linesL xs)[j] ≠ c := by
      intro e
      apply hc
      simp only [hF]
      rw [List.getElem_append_right (by omega)]
      simp only [show H.length + 1 + j - H.length = j + 1 by omega, List.getElem_cons_succ, e]
    obtain ⟨ra, rb⟩ := uniq _ _ hset hHn
    have hq : headL n lo hg sum = headL xs.length (endsZ (keysR xs)).1 (endsZ (keysR xs)).2 (sumL (linesL xs)) := by rw [← ea, ra, hH]
    have hw := congrArg words hq
    rw [head_words, head_words] at hw
    simp only [List.cons.injEq, true_and, and_true] at hw
    have hsm : sum = (sumL (linesL xs) : Nat) := by
      have := congrArg atoi hw.2.2.2
      rw [atoi_itoa, atoi_itoa] at this
      exact Option.some.inj this
    rw [rb, hsm] at esum
    have esum' : sumL (linesL xs) = sumL ((linesL xs).set j c) := by omega
    have s1 : linesL xs = (linesL xs).take j ++ (linesL xs)[j] :: (linesL xs).drop (j + 1) := by rw [← List.drop_eq_getElem_cons hj, List.take_append_drop]
    have s2 : (linesL xs).set j c = (linesL xs).take j ++ c :: (linesL xs).drop (j + 1) := by rw [List.set_eq_take_append_cons_drop, if_pos hj]
    rw [s2] at esum'
    conv at esum' => lhs; rw [s1]
    exact hgj (sum_parts _ _ _ _ esum')
end Go.Proofs.YtabllmfncdedeabGreatDoor
