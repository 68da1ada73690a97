/-
  Plain mathematics of the numbers of snaps: their bounds, their text, what a text is.
-/
import Derived.Test.YtniipgaacdpncaaGreatDoorDataPure
namespace Go.Proofs.YtniipgaacdpncaaGreatDoor
open Go Go.Lib

def kMeta : List UInt8 := [109, 101, 116, 97]

def idB (z : Int) : Bool := decide (1 ≤ z) && decide (z ≤ 1073741824)
theorem idB_iff {z : Int} : idB z = true ↔ 1 ≤ z ∧ z ≤ 1073741824 := by
  simp only [idB, Bool.and_eq_true, decide_eq_true_eq]

/-- The first number that is out of bounds, or does not rise. -/
def idsG : Int → List Int → Nat → Nat × Option Nat
  | _, [], _ => (0, none)
  | p, z :: r, i => if idB z = false then (2, some i) else if z ≤ p then (9, some i) else idsG z r (i + 1)

/-- The fault of numbers of snaps. -/
def idsE (zs : List Int) : Nat × Option Nat := if zs = [] then (6, none) else if 40 < zs.length then (8, none) else idsG 0 zs 0

theorem idsG_vals : ∀ (zs : List Int) (p : Int) (i : Nat), idsG p zs i = (0, none) ∨ (∃ j, idsG p zs i = (2, some j)) ∨ ∃ j, idsG p zs i = (9, some j)
  | [], _, _ => Or.inl rfl
  | z :: r, p, i => by
    unfold idsG
    split
    · exact Or.inr (Or.inl ⟨i, rfl⟩)
    · split
      · exact Or.inr (Or.inr ⟨i, rfl⟩)
      · exact idsG_vals r z (i + 1)

theorem idsE_vals (zs : List Int) : (idsE zs).1 = 0 ∨ (idsE zs).1 = 2 ∨ (idsE zs).1 = 6 ∨ (idsE zs).1 = 8 ∨ (idsE zs).1 = 9 := by
  unfold idsE
  split
  · exact Or.inr (Or.inr (Or.inl rfl))
  · split
    · exact Or.inr (Or.inr (Or.inr (Or.inl rfl)))
    · rcases idsG_vals zs 0 0 with e | ⟨j, e⟩ | ⟨j, e⟩ <;> rw [e]
      · exact Or.inl rfl
      · exact Or.inr (Or.inl rfl)
      · exact Or.inr (Or.inr (Or.inr (Or.inr rfl)))
theorem idsE_le (zs : List Int) : (idsE zs).1 ≤ 12 := by rcases idsE_vals zs with h | h | h | h | h <;> omega

theorem idsG_ok : ∀ {zs : List Int} {p : Int} {i : Nat}, (idsG p zs i).1 = 0 → (∀ z ∈ zs, idB z = true) ∧ (∀ z ∈ zs, p < z) ∧ zs.Pairwise (· < ·)
  | [], _, _, _ => ⟨fun _ h => (nomatch h), fun _ h => (nomatch h), List.Pairwise.nil⟩
  | z :: r, p, i, h => by
    unfold idsG at h
    split at h
    · cases h
    · rename_i h1
      split at h
      · cases h
      · rename_i h2
        obtain ⟨a, b, c⟩ := idsG_ok h
        refine ⟨fun y hy => ?_, fun y hy => ?_, List.pairwise_cons.2 ⟨b, c⟩⟩
        · rcases List.mem_cons.1 hy with rfl | hy
          · simpa using h1
          · exact a y hy
        · rcases List.mem_cons.1 hy with rfl | hy
          · omega
          · have := b y hy; omega

theorem idsG_of : ∀ {zs : List Int} {p : Int} {i : Nat}, (∀ z ∈ zs, idB z = true) → (∀ z ∈ zs, p < z) → zs.Pairwise (· < ·) → idsG p zs i = (0, none)
  | [], _, _, _, _, _ => rfl
  | z :: r, p, i, h1, h2, h3 => by
    obtain ⟨h4, h5⟩ := List.pairwise_cons.1 h3
    unfold idsG
    rw [if_neg (by rw [h1 z List.mem_cons_self]; simp), if_neg (by have := h2 z List.mem_cons_self; omega)]
    exact idsG_of (fun y hy => h1 y (List.mem_cons_of_mem _ hy)) h4 h5

/-- Right numbers: some, not too many, in bounds, rising. -/
theorem ids_good {zs : List Int} : (idsE zs).1 = 0 ↔ zs ≠ [] ∧ zs.length ≤ 40 ∧ (∀ z ∈ zs, idB z = true) ∧ zs.Pairwise (· < ·) := by
  constructor
  · intro h
    unfold idsE at h
    split at h
    · cases h
    · rename_i h1
      split at h
      · cases h
      · rename_i h2
        obtain ⟨a, _, c⟩ := idsG_ok h
        exact ⟨h1, by omega, a, c⟩
  · rintro ⟨h1, h2, h3, h4⟩
    unfold idsE
    rw [if_neg h1, if_neg (by omega), idsG_of h3 (fun z hz => by have := idB_iff.1 (h3 z hz); omega) h4]
theorem ids_fine {zs : List Int} (h : (idsE zs).1 = 0) : idsE zs = (0, none) := by
  obtain ⟨h1, h2, h3, h4⟩ := ids_good.1 h
  unfold idsE
  rw [if_neg h1, if_neg (by omega), idsG_of h3 (fun z hz => by have := idB_iff.1 (h3 z hz); omega) h4]

/-- The number ahead of a place. -/
def aheadZ (zs : List Int) : Nat → Int
  | 0 => 0
  | n + 1 => zs.getD n 0
/-- What is left to be looked at. -/
def IdLeft (zs : List Int) (n : Nat) : Prop := idsG 0 zs 0 = idsG (aheadZ zs n) (zs.drop n) n
theorem idL_zero (zs : List Int) : IdLeft zs 0 := rfl
theorem idL_bound {zs : List Int} {n : Nat} (h : IdLeft zs n) (hn : n < zs.length) (e : idB zs[n] = false) : idsG 0 zs 0 = (2, some n) := by
  unfold IdLeft at h
  rw [h, List.drop_eq_getElem_cons hn]
  unfold idsG
  rw [if_pos e]
theorem idL_order {zs : List Int} {n : Nat} (h : IdLeft zs n) (hn : n < zs.length) (e : idB zs[n] = true) (o : zs[n] ≤ aheadZ zs n) : idsG 0 zs 0 = (9, some n) := by
  unfold IdLeft at h
  rw [h, List.drop_eq_getElem_cons hn]
  unfold idsG
  rw [if_neg (by rw [e]; simp), if_pos o]
theorem idL_succ {zs : List Int} {n : Nat} (h : IdLeft zs n) (hn : n < zs.length) (e : idB zs[n] = true) (o : ¬ zs[n] ≤ aheadZ zs n) : IdLeft zs (n + 1) := by
  unfold IdLeft at h ⊢
  rw [h]
  conv => lhs; rw [List.drop_eq_getElem_cons hn]
  conv => lhs; unfold idsG
  rw [if_neg (by rw [e]; simp), if_neg o]
  have : aheadZ zs (n + 1) = zs[n] := by simp [aheadZ, List.getD, hn]
  rw [this]
theorem idL_all {zs : List Int} (h : IdLeft zs zs.length) : idsG 0 zs 0 = (0, none) := by
  unfold IdLeft at h
  rw [h, List.drop_length]
  rfl

/-- The text of numbers of snaps. -/
def idsT (zs : List Int) : List UInt8 := zs.flatMap fun z => 32 :: itoa z
def idsL (zs : List Int) : List UInt8 := kMeta ++ idsT zs ++ [10]

theorem idsT_snoc (zs : List Int) (z : Int) : idsT (zs ++ [z]) = idsT zs ++ (32 :: itoa z) := by simp [idsT]
theorem idsT_take {zs : List Int} {n : Nat} (hn : n < zs.length) : idsT (zs.take (n + 1)) = idsT (zs.take n) ++ (32 :: itoa zs[n]) := by
  rw [List.take_succ_eq_append_getElem hn, idsT_snoc]

theorem idsT_words : ∀ (a : List UInt8) (zs : List Int), (∀ c ∈ a, c ≠ 32) → words (a ++ idsT zs) = a :: zs.map itoa
  | a, [], h => by simp [idsT, words_none a h]
  | a, z :: r, h => by
    have e : a ++ idsT (z :: r) = a ++ 32 :: (itoa z ++ idsT r) := by simp [idsT]
    rw [e, words_append _ _ h, idsT_words (itoa z) r (itoa_no_blank z)]
    rfl

theorem idsT_len : ∀ zs : List Int, (∀ z ∈ zs, idB z = true) → (idsT zs).length ≤ 12 * zs.length
  | [], _ => by simp [idsT]
  | z :: r, h => by
    have h1 := idsT_len r (fun y hy => h y (List.mem_cons_of_mem _ hy))
    have h2 := idB_iff.1 (h z List.mem_cons_self)
    have h3 := (numO_spelt (numO_of z (by omega) (by omega))).2
    have e : idsT (z :: r) = 32 :: (itoa z ++ idsT r) := by simp [idsT]
    rw [e]
    simp only [List.length_cons, List.length_append]
    omega

/-- Numbers of words. -/
def numsO : List (List UInt8) → Option (List Int)
  | [] => some []
  | w :: r => match numO w, numsO r with
    | some z, some zs => some (z :: zs)
    | _, _ => none

theorem numsO_bad : ∀ {ws : List (List UInt8)} {j : Nat} {t : List UInt8}, ws[j]? = some t → numO t = none → numsO ws = none
  | [], j, t, h, _ => by simp at h
  | w :: r, 0, t, h, hn => by
    obtain rfl : w = t := by simpa using h
    unfold numsO
    rw [hn]
  | w :: r, j + 1, t, h, hn => by
    have := numsO_bad (ws := r) (j := j) (t := t) (by simpa using h) hn
    unfold numsO
    rw [this]
    split <;> simp_all

theorem numsO_good : ∀ {ws : List (List UInt8)} {zs : List Int}, zs.length = ws.length → (∀ (j : Nat) (t : List UInt8), ws[j]? = some t → numO t = zs[j]?) → numsO ws = some zs
  | [], zs, h, _ => by
    obtain rfl : zs = [] := List.length_eq_zero_iff.1 h
    rfl
  | w :: r, [], h, _ => by simp at h
  | w :: r, z :: zs, h, hn => by
    have h1 := numsO_good (ws := r) (zs := zs) (by simpa using h) (fun j t ht => by simpa using hn (j + 1) t (by simpa using ht))
    have h0 : numO w = some z := by simpa using hn 0 w rfl
    unfold numsO
    rw [h0, h1]

theorem numsO_itoa : ∀ zs : List Int, (∀ z ∈ zs, idB z = true) → numsO (zs.map itoa) = some zs
  | [], _ => rfl
  | z :: r, h => by
    have h1 := numsO_itoa r (fun y hy => h y (List.mem_cons_of_mem _ hy))
    have h2 := idB_iff.1 (h z List.mem_cons_self)
    rw [List.map_cons]
    unfold numsO
    rw [numO_of z (by omega) (by omega), h1]

/-- What a text is: numbers of snaps, an error's number, its place. -/
def readI (l : List UInt8) : List Int × Nat × Option Nat := match words l.dropLast with
  | k :: ws => if l.getLast? = some 10 ∧ k = kMeta then match numsO ws with
      | some zs => if (idsE zs).1 ≠ 0 then ([], idsE zs) else (zs, 0, none)
      | none => ([], 1, none)
    else ([], 1, none)
  | [] => ([], 1, none)

/-- Numbers of snaps are read as they were written. -/
theorem ids_read {zs : List Int} (h : (idsE zs).1 = 0) : readI (idsL zs) = (zs, 0, none) := by
  obtain ⟨_, _, h3, _⟩ := ids_good.1 h
  unfold readI idsL
  rw [List.dropLast_concat, List.getLast?_concat, idsT_words kMeta zs (by decide)]
  dsimp only
  rw [if_pos ⟨rfl, rfl⟩, numsO_itoa zs h3]
  dsimp only
  rw [if_neg (by simpa using h)]

theorem readI_le (l : List UInt8) : (readI l).2.1 ≤ 12 := by
  unfold readI
  split
  · split
    · split
      · split
        · exact idsE_le _
        · exact Nat.zero_le _
      · exact (by decide : (1 : Nat) ≤ 12)
    · exact (by decide : (1 : Nat) ≤ 12)
  · exact (by decide : (1 : Nat) ≤ 12)

/-- One more. -/
def pushE (zs : List Int) (z : Int) : Nat × Option Nat := if (idsE zs).1 ≠ 0 then idsE zs else ((idsE (zs ++ [z])).1, none)
def pushI (zs : List Int) (z : Int) : List Int := if (pushE zs z).1 = 0 then zs ++ [z] else []
theorem pushE_le (zs : List Int) (z : Int) : (pushE zs z).1 ≤ 12 := by
  unfold pushE
  split
  · exact idsE_le _
  · exact idsE_le _

/-- Some, and the last one. -/
def keepF (zs some : List Int) : List Int := zs.dropLast.filter (fun z => some.contains z) ++ zs.getLast?.toList
def keepI (zs some : List Int) : List Int := if (idsE zs).1 = 0 then keepF zs some else []

theorem keep_last {zs some : List Int} (h : zs ≠ []) : (keepF zs some).getLastD 0 = zs.getLastD 0 := by
  unfold keepF
  rw [List.getLast?_eq_some_getLast h]
  simp [List.getLastD_eq_getLast?, List.getLast?_eq_some_getLast h]

theorem keep_sub (zs some : List Int) : (keepF zs some).Sublist zs := by
  unfold keepF
  rcases List.eq_nil_or_concat zs with rfl | ⟨ys, z, rfl⟩
  · simp
  · simp only [List.concat_eq_append, List.dropLast_concat, List.getLast?_concat, Option.toList_some]
    exact List.Sublist.append List.filter_sublist (List.Sublist.refl _)

/-- What is kept of right numbers is right. -/
theorem keep_right {zs some : List Int} (h : (idsE zs).1 = 0) : (idsE (keepF zs some)).1 = 0 := by
  obtain ⟨h1, h2, h3, h4⟩ := ids_good.1 h
  have hs := keep_sub zs some
  refine ids_good.2 ⟨fun e => ?_, by have := hs.length_le; omega, fun z hz => h3 z (hs.mem hz), h4.sublist hs⟩
  have := congrArg List.length e
  unfold keepF at this
  rw [List.getLast?_eq_some_getLast h1] at this
  simp at this

theorem readI_40 (l : List UInt8) : (readI l).1.length ≤ 40 := by
  unfold readI
  split
  · split
    · split
      · split
        · exact Nat.zero_le _
        · rename_i h
          exact (ids_good.1 (by simpa using h)).2.1
      · exact Nat.zero_le _
    · exact Nat.zero_le _
  · exact Nat.zero_le _

/-- What is kept of the first so many. -/
def keepP (zs some : List Int) (n : Nat) : List Int := if n < zs.length then (zs.take n).filter (fun z => some.contains z) else keepF zs some

theorem keepP_zero {zs some : List Int} (h : zs ≠ []) : keepP zs some 0 = [] := by
  unfold keepP
  rw [if_pos (List.length_pos_iff.2 h)]
  rfl
theorem keepP_in {zs some : List Int} {n : Nat} (hn : n < zs.length) (h : some.contains zs[n] = true ∨ n = zs.length - 1) : keepP zs some (n + 1) = keepP zs some n ++ [zs[n]] := by
  unfold keepP
  rw [if_pos hn]
  by_cases h1 : n + 1 < zs.length
  · rw [if_pos h1, List.take_succ_eq_append_getElem hn, List.filter_append]
    have h2 : some.contains zs[n] = true := by
      rcases h with h | h
      · exact h
      · omega
    simp only [List.filter_cons, List.filter_nil, h2, if_true]
  · rw [if_neg h1]
    have hne : zs ≠ [] := fun e => by rw [e] at hn; simp at hn
    have e : n = zs.length - 1 := by omega
    unfold keepF
    rw [List.getLast?_eq_some_getLast hne, List.getLast_eq_getElem, List.dropLast_eq_take]
    subst e
    rfl
theorem keepP_out {zs some : List Int} {n : Nat} (hn : n < zs.length) (h : some.contains zs[n] = false) (h1 : n ≠ zs.length - 1) : keepP zs some (n + 1) = keepP zs some n := by
  unfold keepP
  rw [if_pos hn, if_pos (by omega), List.take_succ_eq_append_getElem hn, List.filter_append]
  simp only [List.filter_cons, List.filter_nil, h, Bool.false_eq_true, if_false, List.append_nil]
theorem keepP_all {zs some : List Int} : keepP zs some zs.length = keepF zs some := by
  unfold keepP
  rw [if_neg (Nat.lt_irrefl _)]
theorem keepP_len (zs some : List Int) (n : Nat) : (keepP zs some n).length ≤ zs.length := by
  unfold keepP
  split
  · have h1 := List.length_filter_le (fun z => some.contains z) (zs.take n)
    rw [List.length_take] at h1
    omega
  · exact (keep_sub zs some).length_le
theorem keepI_len (zs some : List Int) : (keepI zs some).length ≤ zs.length := by
  unfold keepI
  split
  · exact (keep_sub zs some).length_le
  · exact Nat.zero_le _
theorem pushI_len (zs : List Int) (z : Int) : (pushI zs z).length ≤ zs.length + 1 := by
  unfold pushI
  split
  · simp
  · exact Nat.zero_le _
end Go.Proofs.YtniipgaacdpncaaGreatDoor
