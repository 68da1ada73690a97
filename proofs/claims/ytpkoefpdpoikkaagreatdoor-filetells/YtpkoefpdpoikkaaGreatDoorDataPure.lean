/-
  Plain mathematics of a file of lines (rows, or keys): its text, what a text is, that a file is read as it was written, and that with one byte another one it is none.
-/
import Derived.Test.YtpkoefpdpoikkaaGreatDoorLinePure
import Derived.Test.YtpkoefpdpoikkaaGreatDoorCrcPure
namespace Go.Proofs.YtpkoefpdpoikkaaGreatDoor
open Go Go.Lib Go.Sort

def endsZ : List Int → Int × Int
  | [] => (0, 0)
  | z :: r => (r.foldl (fun a k => if k < a then k else a) z, r.foldl (fun a k => if a < k then k else a) z)

theorem foldlo_is : ∀ (r : List Int) (z : Int), (r.foldl (fun a k => if k < a then k else a) z ∈ z :: r) ∧ ∀ k ∈ z :: r, r.foldl (fun a k => if k < a then k else a) z ≤ k
  | [], z => by simp
  | k :: r, z => by
    rw [List.foldl_cons]
    obtain ⟨h1, h2⟩ := foldlo_is r (if k < z then k else z)
    generalize List.foldl (fun a k => if k < a then k else a) (if k < z then k else z) r = m at h1 h2 ⊢
    have hk := h2 (if k < z then k else z) List.mem_cons_self
    refine ⟨?_, fun j hj => ?_⟩
    · rw [List.mem_cons] at h1
      rcases h1 with h1 | h1
      · rw [h1]; split <;> simp
      · exact List.mem_cons_of_mem _ (List.mem_cons_of_mem _ h1)
    · simp only [List.mem_cons] at hj
      rcases hj with rfl | rfl | hj
      · split at hk <;> omega
      · split at hk <;> omega
      · exact h2 j (List.mem_cons_of_mem _ hj)

theorem foldhi_is : ∀ (r : List Int) (z : Int), (r.foldl (fun a k => if a < k then k else a) z ∈ z :: r) ∧ ∀ k ∈ z :: r, k ≤ r.foldl (fun a k => if a < k then k else a) z
  | [], z => by simp
  | k :: r, z => by
    rw [List.foldl_cons]
    obtain ⟨h1, h2⟩ := foldhi_is r (if z < k then k else z)
    generalize List.foldl (fun a k => if a < k then k else a) (if z < k then k else z) r = m at h1 h2 ⊢
    have hk := h2 (if z < k then k else z) List.mem_cons_self
    refine ⟨?_, fun j hj => ?_⟩
    · rw [List.mem_cons] at h1
      rcases h1 with h1 | h1
      · rw [h1]; split <;> simp
      · exact List.mem_cons_of_mem _ (List.mem_cons_of_mem _ h1)
    · simp only [List.mem_cons] at hj
      rcases hj with rfl | rfl | hj
      · split at hk <;> omega
      · split at hk <;> omega
      · exact h2 j (List.mem_cons_of_mem _ hj)

theorem ends_mem {zs : List Int} (h : zs ≠ []) : (endsZ zs).1 ∈ zs ∧ (endsZ zs).2 ∈ zs ∧ ∀ k ∈ zs, (endsZ zs).1 ≤ k ∧ k ≤ (endsZ zs).2 := by
  cases zs with
  | nil => exact absurd rfl h
  | cons z r => exact ⟨(foldlo_is r z).1, (foldhi_is r z).1, fun k hk => ⟨(foldlo_is r z).2 k hk, (foldhi_is r z).2 k hk⟩⟩

structure FK (β : Type) where
  word : List UInt8
  rd : List UInt8 → β × Nat
  bad : β → β → Bool
  key : β → Int
  text : β → List UInt8
  ok : β → Prop
  d : β

structure FK.Fine {β : Type} (k : FK β) : Prop where
  noend : ∀ x, k.ok x → ∀ c ∈ k.text x, c ≠ 10
  len : ∀ x, k.ok x → (k.text x).length ≤ 32
  back : ∀ x, k.ok x → k.rd (k.text x) = (x, 0)
  inn : ∀ x, k.ok x → inNum (k.key x) = true
  wlen : k.word.length ≤ 4
  wend : ∀ c ∈ k.word, c ≠ 10
  wblank : ∀ c ∈ k.word, c ≠ 32

def keysG {β : Type} (k : FK β) (xs : List β) : List Int := xs.map k.key

theorem ends_inG {β : Type} {k : FK β} (K : k.Fine) {xs : List β} (h : ∀ x ∈ xs, k.ok x) : inNum (endsZ (keysG k xs)).1 = true ∧ inNum (endsZ (keysG k xs)).2 = true := by
  by_cases hx : keysG k xs = []
  · rw [hx]; exact ⟨by decide, by decide⟩
  · obtain ⟨a1, a2, _⟩ := ends_mem hx
    have key : ∀ z ∈ keysG k xs, inNum z = true := fun z hz => by
      simp only [keysG, List.mem_map] at hz
      obtain ⟨x, hm, rfl⟩ := hz
      exact K.inn x (h x hm)
    exact ⟨key _ a1, key _ a2⟩

def headL (K : List UInt8) (n lo hi sum : Int) : List UInt8 := K ++ 32 :: (itoa n ++ 32 :: (itoa lo ++ 32 :: (itoa hi ++ 32 :: itoa sum)))

def linesG {β : Type} (k : FK β) (xs : List β) : List UInt8 := xs.flatMap fun x => k.text x ++ [10]

def fileG {β : Type} (k : FK β) (xs : List β) : List UInt8 := headL k.word xs.length (endsZ (keysG k xs)).1 (endsZ (keysG k xs)).2 (sumL (linesG k xs)) ++ 10 :: linesG k xs

def headO (K : List UInt8) (l : List UInt8) : Option (Int × Int × Int × Int) :=
  match words l with
  | [k, a, b, c, d] => if k = K then (match numO a, numO b, numO c, numO d with
    | some a, some b, some c, some d => some (a, b, c, d)
    | _, _, _, _ => none) else none
  | _ => none

def rowsG {β : Type} (k : FK β) : List (List UInt8) → Nat → List β → List β × Nat × Nat
  | [], _, acc => (acc, 0, 0)
  | [l], at_, acc => if l = [] then (acc, 0, 0) else ([], 1, at_)
  | l :: r, at_, acc => if (k.rd l).2 ≠ 0 then ([], (k.rd l).2, at_) else
    if acc ≠ [] ∧ k.bad (k.rd l).1 (acc.getLastD k.d) = true then ([], 9, at_) else rowsG k r (at_ + 1) (acc ++ [(k.rd l).1])

def endG {β : Type} (k : FK β) (n lo hi : Int) (R : List β × Nat × Nat) : List β × Nat × Option Nat :=
  if R.2.1 ≠ 0 then ([], R.2.1, some R.2.2) else if 40 < R.1.length then ([], 8, none) else
  if n = R.1.length ∧ lo = (endsZ (keysG k R.1)).1 ∧ hi = (endsZ (keysG k R.1)).2 then (R.1, 0, none) else ([], 3, none)

def readG {β : Type} (k : FK β) (s : List UInt8) : List β × Nat × Option Nat :=
  if 20000 < s.length then ([], 2, none) else
  if (Lib.cut s [10]).2.2 = false then ([], 1, none) else
  match headO k.word (Lib.cut s [10]).1 with
  | none => ([], 1, none)
  | some (n, lo, hi, sum) =>
    if sum ≠ sumL (Lib.cut s [10]).2.1 then ([], 10, none) else
    endG k n lo hi (rowsG k (pieces 10 (Lib.cut s [10]).2.1) 0 [])

theorem linesG_cons {β : Type} (k : FK β) (x : β) (xs : List β) : linesG k (x :: xs) = k.text x ++ 10 :: linesG k xs := by simp [linesG]
theorem linesG_snoc {β : Type} (k : FK β) (xs : List β) (x : β) : linesG k (xs ++ [x]) = linesG k xs ++ (k.text x ++ [10]) := by simp [linesG]

theorem piecesG {β : Type} {k : FK β} (K : k.Fine) : ∀ xs : List β, (∀ x ∈ xs, k.ok x) → pieces 10 (linesG k xs) = xs.map k.text ++ [[]]
  | [], _ => rfl
  | x :: xs, h => by
    rw [linesG_cons, pieces_append 10 _ _ (K.noend x (h x List.mem_cons_self)), piecesG K xs (fun y hy => h y (List.mem_cons_of_mem _ hy))]
    rfl

theorem rowsG_one {β : Type} (k : FK β) (l : List UInt8) (at_ : Nat) (acc : List β) : rowsG k [l] at_ acc = if l = [] then (acc, 0, 0) else ([], 1, at_) := rfl

theorem rowsG_cons {β : Type} (k : FK β) (l l2 : List UInt8) (r : List (List UInt8)) (at_ : Nat) (acc : List β) : rowsG k (l :: l2 :: r) at_ acc = if (k.rd l).2 ≠ 0 then ([], (k.rd l).2, at_) else
    if acc ≠ [] ∧ k.bad (k.rd l).1 (acc.getLastD k.d) = true then ([], 9, at_) else rowsG k (l2 :: r) (at_ + 1) (acc ++ [(k.rd l).1]) := rfl

theorem rowsG_lines {β : Type} {k : FK β} (K : k.Fine) : ∀ (xs acc : List β) (at_ : Nat), (∀ x ∈ xs, k.ok x) → (acc ++ xs).Pairwise (fun x y => k.bad y x = false) → rowsG k (xs.map k.text ++ [[]]) at_ acc = (acc ++ xs, 0, 0)
  | [], acc, at_, _, _ => by simp [rowsG]
  | x :: xs, acc, at_, h, hp => by
    have hr := K.back x (h x List.mem_cons_self)
    have hne : xs.map k.text ++ [[]] ≠ [] := by simp
    obtain ⟨l2, r, e⟩ := List.exists_cons_of_ne_nil hne
    rw [List.map_cons, List.cons_append, e, rowsG_cons, hr, if_neg (by simp)]
    have hno : ¬ (acc ≠ [] ∧ k.bad x (acc.getLastD k.d) = true) := by
      rintro ⟨h1, h2⟩
      have hm : acc.getLastD k.d ∈ acc := by
        rw [List.getLastD_eq_getLast?, List.getLast?_eq_some_getLast h1]
        exact List.getLast_mem h1
      have := (List.pairwise_append.1 hp).2.2 _ hm x List.mem_cons_self
      rw [this] at h2; cases h2
    dsimp only
    rw [if_neg hno, ← e]
    have := rowsG_lines K xs (acc ++ [x]) (at_ + 1) (fun y hy => h y (List.mem_cons_of_mem _ hy)) (by simpa using hp)
    simpa using this

theorem rowsG_le {β : Type} (k : FK β) (hr : ∀ l, (k.rd l).2 ≤ 12) : ∀ (ls : List (List UInt8)) (at_ : Nat) (acc : List β), (rowsG k ls at_ acc).2.1 ≤ 12
  | [], _, _ => by simp [rowsG]
  | [l], _, _ => by rw [rowsG_one]; split <;> simp
  | l :: l2 :: r, at_, acc => by
    rw [rowsG_cons]
    split
    · exact hr l
    · split
      · simp
      · exact rowsG_le k hr (l2 :: r) _ _

theorem readG_le {β : Type} (k : FK β) (hr : ∀ l, (k.rd l).2 ≤ 12) (s : List UInt8) : (readG k s).2.1 ≤ 12 ∧ (readG k s).1.length ≤ 40 := by
  unfold readG
  split
  · simp
  · split
    · simp
    · split
      · simp
      · split
        · simp
        · have h := rowsG_le k hr (pieces 10 (Lib.cut s [10]).2.1) 0 []
          generalize rowsG k (pieces 10 (Lib.cut s [10]).2.1) 0 [] = R at h
          unfold endG
          split
          · exact ⟨h, by simp⟩
          · split
            · simp
            · split
              · refine ⟨by simp, ?_⟩
                dsimp only; omega
              · simp

theorem head_no_end {K : List UInt8} (hK : ∀ c ∈ K, c ≠ 10) (n lo hi sum : Int) : ∀ c ∈ headL K n lo hi sum, c ≠ 10 := by
  intro c hc
  unfold headL at hc
  simp only [List.mem_append, List.mem_cons] at hc
  rcases hc with hc | rfl | hc | rfl | hc | rfl | hc | rfl | hc
  all_goals first | exact hK c hc | decide | exact itoa_no_end _ c hc

theorem head_words {K : List UInt8} (hK : ∀ c ∈ K, c ≠ 32) (n lo hi sum : Int) : words (headL K n lo hi sum) = [K, itoa n, itoa lo, itoa hi, itoa sum] := by
  unfold headL
  rw [words_append _ _ hK, words_append _ _ (itoa_no_blank _), words_append _ _ (itoa_no_blank _), words_append _ _ (itoa_no_blank _), words_none _ (itoa_no_blank _)]

theorem itoa_len11 (n : Int) (h0 : -1073741824 ≤ n) (h1 : n ≤ 4294967296) : (itoa n).length ≤ 11 := by
  unfold itoa
  split
  · have := digits_len 9 n.natAbs (by omega)
    simp; omega
  · have := digits_len 9 n.toNat (by omega)
    omega

theorem numO_of (n : Int) (h0 : -1073741824 ≤ n) (h1 : n ≤ 4294967296) : numO (itoa n) = some n := by
  unfold numO
  rw [if_pos (itoa_len11 n h0 h1), atoi_itoa]
  simp

theorem head_read {K : List UInt8} (hK : ∀ c ∈ K, c ≠ 32) (n lo hi sum : Int) (hn : 0 ≤ n ∧ n ≤ 1000) (hlo : inNum lo = true) (hhi : inNum hi = true) (hs : 0 ≤ sum ∧ sum < 4294967296) : headO K (headL K n lo hi sum) = some (n, lo, hi, sum) := by
  simp only [inNum, Bool.and_eq_true, decide_eq_true_eq] at hlo hhi
  unfold headO
  rw [head_words hK]
  simp only [if_pos, numO_of n (by omega) (by omega), numO_of lo (by omega) (by omega), numO_of hi (by omega) (by omega), numO_of sum (by omega) (by omega)]

theorem head_len {K : List UInt8} (hK : K.length ≤ 4) (n lo hi sum : Int) (hn : 0 ≤ n ∧ n ≤ 1000) (hlo : inNum lo = true) (hhi : inNum hi = true) (hs : 0 ≤ sum ∧ sum < 4294967296) : (headL K n lo hi sum).length ≤ 60 := by
  simp only [inNum, Bool.and_eq_true, decide_eq_true_eq] at hlo hhi
  have h1 := itoa_len11 n (by omega) (by omega)
  have h2 := itoa_len11 lo (by omega) (by omega)
  have h3 := itoa_len11 hi (by omega) (by omega)
  have h4 := itoa_len11 sum (by omega) (by omega)
  unfold headL
  simp only [List.length_append, List.length_cons]
  omega

theorem linesG_len {β : Type} {k : FK β} (K : k.Fine) : ∀ xs : List β, (∀ x ∈ xs, k.ok x) → (linesG k xs).length ≤ 33 * xs.length
  | [], _ => by simp [linesG]
  | x :: xs, h => by
    have h1 := linesG_len K xs (fun y hy => h y (List.mem_cons_of_mem _ hy))
    have h2 := K.len x (h x List.mem_cons_self)
    rw [linesG_cons]
    simp only [List.length_append, List.length_cons]
    omega

theorem fileG_len {β : Type} {k : FK β} (K : k.Fine) (xs : List β) (h : ∀ x ∈ xs, k.ok x) (hl : xs.length ≤ 40) : (fileG k xs).length ≤ 1400 := by
  have h1 := linesG_len K xs h
  obtain ⟨e1, e2⟩ := ends_inG K h
  have h2 := head_len K.wlen xs.length _ _ (sumL (linesG k xs)) (by omega) e1 e2 (by have := sumL_lt (linesG k xs); omega)
  unfold fileG
  simp only [List.length_append, List.length_cons]
  omega

theorem fileG_read {β : Type} {k : FK β} (K : k.Fine) (xs : List β) (h : ∀ x ∈ xs, k.ok x) (hl : xs.length ≤ 40) (hs : xs.Pairwise (fun x y => k.bad y x = false)) : readG k (fileG k xs) = (xs, 0, none) := by
  have hlen := fileG_len K xs h hl
  obtain ⟨e1, e2⟩ := ends_inG K h
  have hc := cut_at 10 (headL k.word xs.length (endsZ (keysG k xs)).1 (endsZ (keysG k xs)).2 (sumL (linesG k xs))) (linesG k xs) (head_no_end K.wend _ _ _ _)
  have hh := head_read K.wblank xs.length _ _ (sumL (linesG k xs)) (by omega) e1 e2 (by have := sumL_lt (linesG k xs); omega)
  have hr := rowsG_lines K xs [] 0 h (by simpa using hs)
  rw [← piecesG K xs h] at hr
  unfold readG
  rw [if_neg (by omega)]
  unfold fileG
  rw [hc]
  simp only [hh, hr, List.nil_append]
  simp [endG]
  omega

def kData : List UInt8 := [100, 97, 116, 97]

def dataK : FK Rw := ⟨kData, readO, fun x y => ltOf cfR x y, (·.2.1), textL, fun x => rowE x = 0, (bytesOf [], 0, 0)⟩

abbrev rowsO (ls : List (List UInt8)) (at_ : Nat) (acc : List Rw) : List Rw × Nat × Nat := rowsG dataK ls at_ acc
abbrev endO (n lo hi : Int) (R : List Rw × Nat × Nat) : List Rw × Nat × Option Nat := endG dataK n lo hi R
abbrev dataO (s : List UInt8) : List Rw × Nat × Option Nat := readG dataK s
abbrev keysR (xs : List Rw) : List Int := keysG dataK xs
theorem keys_snoc (xs : List Rw) (x : Rw) : keysR (xs ++ [x]) = keysR xs ++ [x.2.1] := by simp [keysG, dataK]

theorem rowsO_one (l : List UInt8) (at_ : Nat) (acc : List Rw) : rowsO [l] at_ acc = if l = [] then (acc, 0, 0) else ([], 1, at_) := rfl
theorem rowsO_cons (l l2 : List UInt8) (r : List (List UInt8)) (at_ : Nat) (acc : List Rw) : rowsO (l :: l2 :: r) at_ acc = if (readO l).2 ≠ 0 then ([], (readO l).2, at_) else
    if acc ≠ [] ∧ ltOf cfR (readO l).1 (acc.getLastD (bytesOf [], 0, 0)) = true then ([], 9, at_) else rowsO (l2 :: r) (at_ + 1) (acc ++ [(readO l).1]) := rfl
def kGone : List UInt8 := [103, 111, 110, 101]

def keyO (l : List UInt8) : Int × Nat := match numO l with
  | none => (0, 1)
  | some n => if inNum n then (n, 0) else (0, 2)

def goneK : FK Int := ⟨kGone, keyO, fun x y => decide (x ≤ y), fun x => x, itoa, fun x => inNum x = true, 0⟩

theorem gone_fine : goneK.Fine where
  noend := fun x _ => itoa_no_end x
  len := fun x h => by
    have h : inNum x = true := h
    simp only [inNum, Bool.and_eq_true, decide_eq_true_eq] at h
    have := itoa_len x (by omega) (by omega)
    show (itoa x).length ≤ 32
    omega
  back := fun x h => by
    have h : inNum x = true := h
    show keyO (itoa x) = (x, 0)
    unfold keyO
    rw [numO_itoa x h]
    simp [h]
  inn := fun x h => h
  wlen := by decide
  wend := by decide
  wblank := by decide

theorem keysG_gone (xs : List Int) : keysG goneK xs = xs := by simp [keysG, goneK]
end Go.Proofs.YtpkoefpdpoikkaaGreatDoor
