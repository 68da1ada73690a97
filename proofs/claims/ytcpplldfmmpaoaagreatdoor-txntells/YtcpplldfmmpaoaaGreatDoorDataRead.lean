/-
  The contract of data.readHead: the four numbers of a head's line.
-/
import Derived.Test.YtcpplldfmmpaoaaGreatDoorDataPure
import Derived.Test.YtcpplldfmmpaoaaGreatDoorRowCut
import Derived.Lib.SlicesCompact
import Derived.Lib.Slices
import Derived.Shelf.SlSortCmp.QuietGrown
import Derived.Lib.AtoiErrMem
import Derived.Lib.LaidTab
import Derived.Laws.Rows
import Derived.Deep.OwnRows
import Derived.OneCell
import Derived.BigRegion
import Derived.Lib.QuietBelow
import Derived.Laws.BitsAll
import Derived.Laws.BitsAllLaws
import Derived.Laws.CopyRow
import Derived.Laws.Tables
import Derived.Deep.RegionHeld3
import Derived.Lib.JoinLaws
namespace Go.Proofs.YtcpplldfmmpaoaaGreatDoor
open Go Go.Lib

abbrev Fl := ByteArray × ByteArray × Int × Int × Int × Int

def cntB (n : Int) : Bool := decide (1 ≤ n) && decide (n ≤ 1073741824)

def kindL (g : Bool) : List UInt8 := if g then kGone else kData

def pathN (s : List UInt8) : Option Int := match numO s with
  | some n => if cntB n then some n else none
  | none => none

def pathO (s : List UInt8) : Option (Bool × Int) :=
  if s.take 5 = kData ++ [47] then (pathN (s.drop 5)).map fun n => (false, n) else
  if s.take 5 = kGone ++ [47] then (pathN (s.drop 5)).map fun n => (true, n) else none

theorem num_nil : numO [] = none := by
  cases h : numO [] with
  | none => rfl
  | some n =>
    have := (numO_spelt h).1
    unfold itoa at this
    split at this
    · cases this
    · exact absurd this (digits_ne _)

theorem take_kind (k w : List UInt8) (hk : k.length = 4) : (k ++ 47 :: w).take 5 = k ++ [47] ∧ (k ++ 47 :: w).drop 5 = w := by
  have e : k ++ 47 :: w = (k ++ [47]) ++ w := by simp
  have hl : (k ++ [47]).length = 5 := by simp [hk]
  rw [e]
  exact ⟨by rw [← hl, List.take_left], by rw [← hl, List.drop_left]⟩

theorem path_of (g : Bool) (w : List UInt8) : pathO (kindL g ++ 47 :: w) = (pathN w).map fun n => (g, n) := by
  obtain ⟨h1, h2⟩ := take_kind (kindL g) w (by cases g <;> rfl)
  unfold pathO
  rw [h1, h2]
  cases g
  · rw [if_pos (show kindL false ++ [47] = kData ++ [47] from rfl)]
  · rw [if_neg (by decide), if_pos (show kindL true ++ [47] = kGone ++ [47] from rfl)]

theorem path_some {s : List UInt8} {g : Bool} {n : Int} (h : pathO s = some (g, n)) : s = kindL g ++ 47 :: itoa n ∧ numO (itoa n) = some n ∧ cntB n = true := by
  have key : ∀ (k : List UInt8) (b : Bool), s.take 5 = k ++ [47] → (pathN (s.drop 5)).map (fun m => (b, m)) = some (g, n) → b = g ∧ s = k ++ 47 :: itoa n ∧ numO (itoa n) = some n ∧ cntB n = true := fun k b hk hp => by
    obtain ⟨m, hm, he⟩ := Option.map_eq_some_iff.1 hp
    simp only [Prod.mk.injEq] at he
    obtain ⟨rfl, rfl⟩ := he
    unfold pathN at hm
    split at hm
    · rename_i x hx
      split at hm
      · rename_i hc
        obtain rfl := Option.some.inj hm
        have hsp := (numO_spelt hx).1
        refine ⟨rfl, ?_, by rw [hsp]; exact hx, hc⟩
        rw [hsp]
        conv => lhs; rw [← List.take_append_drop 5 s, hk]
        simp
      · cases hm
    · cases hm
  unfold pathO at h
  split at h
  · rename_i hk
    obtain ⟨rfl, h'⟩ := key _ _ hk h
    exact h'
  · split at h
    · rename_i hk
      obtain ⟨rfl, h'⟩ := key _ _ hk h
      exact h'
    · cases h

theorem path_cut (s : List UInt8) : pathO s = if (Lib.cut s [47]).1 = kData then (pathN (Lib.cut s [47]).2.1).map fun n => (false, n) else
    if (Lib.cut s [47]).1 = kGone then (pathN (Lib.cut s [47]).2.1).map fun n => (true, n) else none := by
  rcases cut_cases 47 s with ⟨hn, hc⟩ | ⟨a, b, rfl, hn, hc⟩
  · rw [hc]
    have hp : pathN [] = none := by unfold pathN; rw [num_nil]
    have hnone : pathO s = none := by
      cases h : pathO s with
      | none => rfl
      | some p =>
        obtain ⟨g, n⟩ := p
        have := (path_some h).1
        exact absurd rfl (hn 47 (by rw [this]; simp))
    rw [hnone]
    dsimp only
    rw [hp]
    split
    · rfl
    · split <;> rfl
  · rw [hc]
    dsimp only
    by_cases h1 : a = kData
    · subst h1
      rw [if_pos rfl]
      exact path_of false b
    · rw [if_neg h1]
      by_cases h2 : a = kGone
      · subst h2
        rw [if_pos rfl]
        exact path_of true b
      · rw [if_neg h2]
        cases h : pathO (a ++ 47 :: b) with
        | none => rfl
        | some p =>
          obtain ⟨g, n⟩ := p
          have e := (path_some h).1
          have hk : ∀ c ∈ kindL g, c ≠ 47 := by cases g <;> decide
          have e1 := cut_at 47 a b hn
          rw [e, cut_at 47 _ _ hk] at e1
          simp only [Prod.mk.injEq, and_true] at e1
          cases g
          · exact absurd e1.1.symm h1
          · exact absurd e1.1.symm h2

theorem path_parts {s : List UInt8} (h : 6 ≤ s.length) : pathO s = if (s.take 4 = kData ∨ s.take 4 = kGone) ∧ s[4]? = some 47 then (pathN (s.drop 5)).map fun n => (decide (s.take 4 = kGone), n) else none := by
  have ht : ∀ k : List UInt8, k.length = 4 → (s.take 5 = k ++ [47] ↔ s.take 4 = k ∧ s[4]? = some 47) := fun k hk => by
    have e5 : s.take 5 = s.take 4 ++ [s[4]'(by omega)] := by rw [List.take_succ_eq_append_getElem (by omega)]
    rw [e5, List.getElem?_eq_getElem (by omega : 4 < s.length)]
    have hl : (s.take 4).length = k.length := by rw [List.length_take, hk]; omega
    constructor
    · intro e
      obtain ⟨e1, e2⟩ := List.append_inj e hl
      exact ⟨e1, by rw [List.singleton_inj.1 e2]⟩
    · rintro ⟨e1, e2⟩
      rw [e1, Option.some.inj e2]
  unfold pathO
  have d1 := ht kData rfl
  have d2 := ht kGone rfl
  by_cases h1 : s.take 5 = kData ++ [47]
  · have e1 := d1.1 h1
    rw [if_pos h1, if_pos ⟨Or.inl e1.1, e1.2⟩, e1.1]
    rfl
  · rw [if_neg h1]
    by_cases h2 : s.take 5 = kGone ++ [47]
    · have e2 := d2.1 h2
      rw [if_pos h2, if_pos ⟨Or.inr e2.1, e2.2⟩, e2.1]
      rfl
    · rw [if_neg h2, if_neg]
      rintro ⟨e | e, e'⟩
      · exact h1 (d1.2 ⟨e, e'⟩)
      · exact h2 (d2.2 ⟨e, e'⟩)

theorem path_short {s : List UInt8} (h : s.length < 6) : pathO s = none := by
  have e : s.drop 5 = [] := by rw [List.drop_eq_nil_iff]; omega
  have hp : pathN [] = none := by unfold pathN; rw [num_nil]
  unfold pathO
  rw [e, hp]
  split
  · rfl
  · split <;> rfl

def pathR (s : List UInt8) : List UInt8 × Int × Nat := match pathO s with
  | some (g, n) => (kindL g, n, 0)
  | none => ([], 0, 5)

def partB (g : Bool) (s : List UInt8) : Bool := if g then decide (s = [45]) else wordB 12 s

def bndB (f : Fl) : Bool := decide (1 ≤ f.2.2.1) && decide (f.2.2.1 ≤ 40) && inNum f.2.2.2.1 && inNum f.2.2.2.2.1 && decide (f.2.2.2.1 ≤ f.2.2.2.2.1) && cntB f.2.2.2.2.2

def fileE (f : Fl) : Nat := match pathO f.1.data.toList with
  | none => 5
  | some (g, _) => if partB g f.2.1.data.toList then (if bndB f then 0 else 2) else 4

def fileL (f : Fl) : List UInt8 := f.1.data.toList ++ 32 :: (f.2.1.data.toList ++ 32 :: (itoa f.2.2.1 ++ 32 :: (itoa f.2.2.2.1 ++ 32 :: (itoa f.2.2.2.2.1 ++ 32 :: itoa f.2.2.2.2.2))))

def zeroF : Fl := (bytesOf [], bytesOf [], 0, 0, 0, 0)

theorem fileE_le (f : Fl) : fileE f ≤ 5 := by
  unfold fileE
  split
  · omega
  · split
    · split <;> omega
    · omega

theorem file_good {f : Fl} (h : fileE f = 0) : ∃ g n, pathO f.1.data.toList = some (g, n) ∧ partB g f.2.1.data.toList = true ∧ bndB f = true := by
  unfold fileE at h
  split at h
  · cases h
  · rename_i g n hp
    split at h
    · rename_i hq
      split at h
      · rename_i hb
        exact ⟨g, n, hp, hq, hb⟩
      · cases h
    · cases h

theorem cnt_in {n : Int} (h : cntB n = true) : inNum n = true := by
  simp only [cntB, inNum, Bool.and_eq_true, decide_eq_true_eq] at h ⊢
  omega

theorem bnd_nums {f : Fl} (h : bndB f = true) : inNum f.2.2.1 = true ∧ inNum f.2.2.2.1 = true ∧ inNum f.2.2.2.2.1 = true ∧ inNum f.2.2.2.2.2 = true := by
  simp only [bndB, Bool.and_eq_true] at h
  refine ⟨?_, h.1.1.1.2, h.1.1.2, cnt_in h.2⟩
  have h1 := h.1.1.1.1
  simp only [decide_eq_true_eq] at h1
  simp only [inNum, Bool.and_eq_true, decide_eq_true_eq]
  omega

end Go.Proofs.YtcpplldfmmpaoaaGreatDoor
namespace Go.Proofs.YtcpplldfmmpaoaaGreatDoor
open Go Go.Lib

def pk (s : List UInt8) : Int := match pathO s with
  | some (g, n) => if g then 1073741824 + n else n
  | none => 0

theorem pk_some {s : List UInt8} {g : Bool} {n : Int} (h : pathO s = some (g, n)) : pk s = (if g then 1073741824 + n else n) ∧ 1 ≤ n ∧ n ≤ 1073741824 := by
  have hc := (path_some h).2.2
  simp only [cntB, Bool.and_eq_true, decide_eq_true_eq] at hc
  exact ⟨by unfold pk; rw [h], hc⟩

theorem pk_pos {s : List UInt8} (h : pathO s ≠ none) : 0 < pk s := by
  cases hp : pathO s with
  | none => exact absurd hp h
  | some p =>
    obtain ⟨g, n⟩ := p
    obtain ⟨e, h1, h2⟩ := pk_some hp
    rw [e]
    split <;> omega

theorem pk_inj {s t : List UInt8} (hs : pathO s ≠ none) (ht : pathO t ≠ none) (h : pk s = pk t) : s = t := by
  cases hp : pathO s with
  | none => exact absurd hp hs
  | some p =>
    cases hq : pathO t with
    | none => exact absurd hq ht
    | some q =>
      obtain ⟨g, n⟩ := p
      obtain ⟨k, m⟩ := q
      obtain ⟨e1, a1, a2⟩ := pk_some hp
      obtain ⟨e2, b1, b2⟩ := pk_some hq
      rw [e1, e2] at h
      have hg : g = k ∧ n = m := by
        cases g <;> cases k <;> simp only [if_true, Bool.false_eq_true, if_false] at h
        · exact ⟨rfl, h⟩
        · omega
        · omega
        · exact ⟨rfl, by omega⟩
      rw [(path_some hp).1, (path_some hq).1, hg.1, hg.2]

def fk (f : Fl) : Int := pk f.1.data.toList

theorem ok_path {f : Fl} (h : fileE f = 0) : pathO f.1.data.toList ≠ none := by
  obtain ⟨g, n, hp, _⟩ := file_good h
  rw [hp]; simp

theorem fk_pos {f : Fl} (h : fileE f = 0) : 0 < fk f := pk_pos (ok_path h)

def lstG : Int → List Fl → Nat → Nat × Option Nat
  | _, [], _ => (0, none)
  | prev, f :: r, i => if fileE f ≠ 0 then (fileE f, some i) else if fk f ≤ prev then (9, some i) else lstG (fk f) r (i + 1)

def listE (fs : List Fl) : Nat × Option Nat := if 60 < fs.length then (8, none) else lstG 0 fs 0

def Rises (prev : Int) (fs : List Fl) : Prop := (∀ f ∈ fs, fileE f = 0 ∧ prev < fk f) ∧ fs.Pairwise fun f g => fk f < fk g

theorem rises_cons {prev : Int} {f : Fl} {r : List Fl} : Rises prev (f :: r) ↔ fileE f = 0 ∧ prev < fk f ∧ Rises (fk f) r := by
  unfold Rises
  rw [List.pairwise_cons]
  constructor
  · rintro ⟨h1, h2, h3⟩
    have h0 := h1 f List.mem_cons_self
    exact ⟨h0.1, h0.2, fun g hg => ⟨(h1 g (List.mem_cons_of_mem _ hg)).1, h2 g hg⟩, h3⟩
  · rintro ⟨h1, h2, h3, h4⟩
    refine ⟨fun g hg => ?_, fun g hg => (h3 g hg).2, h4⟩
    rw [List.mem_cons] at hg
    rcases hg with rfl | hg
    · exact ⟨h1, h2⟩
    · have := h3 g hg
      exact ⟨this.1, by omega⟩

theorem lstG_ok : ∀ (fs : List Fl) (prev : Int) (i : Nat), (lstG prev fs i).1 = 0 ↔ Rises prev fs
  | [], prev, i => by simp [lstG, Rises]
  | f :: r, prev, i => by
    have ih := lstG_ok r (fk f) (i + 1)
    unfold lstG
    rw [rises_cons]
    split
    · rename_i h
      simp [h]
    · rename_i h
      have h0 : fileE f = 0 := by simpa using h
      split
      · rename_i h'
        simp [h0]; omega
      · rename_i h'
        rw [ih]
        simp [h0]; omega

theorem listE_ok {fs : List Fl} : (listE fs).1 = 0 ↔ fs.length ≤ 60 ∧ Rises 0 fs := by
  unfold listE
  split
  · rename_i h
    simp; omega
  · rename_i h
    rw [lstG_ok]
    simp; omega

theorem lstG_le : ∀ (fs : List Fl) (prev : Int) (i : Nat), (lstG prev fs i).1 ≤ 12
  | [], _, _ => by simp [lstG]
  | f :: r, prev, i => by
    unfold lstG
    have := fileE_le f
    split
    · dsimp only; omega
    · split
      · exact (by decide : (9 : Nat) ≤ 12)
      · exact lstG_le r _ _

def placeL (fs : List Fl) (f : Fl) : List Fl := fs.takeWhile (fun g => decide (fk g < fk f)) ++ f :: fs.dropWhile (fun g => decide (fk g < fk f))

end Go.Proofs.YtcpplldfmmpaoaaGreatDoor
namespace Go.Proofs.YtcpplldfmmpaoaaGreatDoor
open Go Go.Lib

abbrev Sn := Int × Int × Int × Int × Int × ByteArray × List Fl

def kStart : List UInt8 := [115, 116, 97, 114, 116]
def kAppend : List UInt8 := [97, 112, 112, 101, 110, 100]
def kDelete : List UInt8 := [100, 101, 108, 101, 116, 101]
def kRewrite : List UInt8 := [114, 101, 119, 114, 105, 116, 101]
def opB (s : List UInt8) : Bool := decide (s = kStart) || decide (s = kAppend) || decide (s = kDelete) || decide (s = kRewrite)

def sbndB (s : Sn) : Bool := decide (1 ≤ s.1) && decide (s.1 ≤ 1073741824) && decide (0 ≤ s.2.1) && decide (s.2.1 < s.1) && decide (0 ≤ s.2.2.1) && decide (s.2.2.1 ≤ 1073741824) && decide (0 ≤ s.2.2.2.1) && decide (s.2.2.2.1 ≤ 100000) && decide (0 ≤ s.2.2.2.2.1) && decide (s.2.2.2.2.1 ≤ 1073741824)

theorem sbnd_all {s : Sn} : sbndB s = true ↔ ((1 ≤ s.1 ∧ s.1 ≤ 1073741824) ∧ (0 ≤ s.2.1 ∧ s.2.1 < s.1)) ∧ ((0 ≤ s.2.2.1 ∧ s.2.2.1 ≤ 1073741824) ∧ (0 ≤ s.2.2.2.1 ∧ s.2.2.2.1 ≤ 100000)) ∧ 0 ≤ s.2.2.2.2.1 ∧ s.2.2.2.2.1 ≤ 1073741824 := by
  simp only [sbndB, Bool.and_eq_true, decide_eq_true_eq]
  constructor
  · rintro ⟨⟨⟨⟨⟨⟨⟨⟨⟨a, b⟩, c⟩, d⟩, e⟩, f⟩, g⟩, h⟩, i⟩, j⟩
    exact ⟨⟨⟨a, b⟩, c, d⟩, ⟨⟨e, f⟩, g, h⟩, i, j⟩
  · rintro ⟨⟨⟨a, b⟩, c, d⟩, ⟨⟨e, f⟩, g, h⟩, i, j⟩
    exact ⟨⟨⟨⟨⟨⟨⟨⟨⟨a, b⟩, c⟩, d⟩, e⟩, f⟩, g⟩, h⟩, i⟩, j⟩

def seqG (seq : Int) : List Fl → Nat → Nat × Option Nat
  | [], _ => (0, none)
  | f :: r, i => if seq < f.2.2.2.2.2 then (9, some i) else seqG seq r (i + 1)

def snapE (s : Sn) : Nat × Option Nat :=
  if sbndB s = false then (2, none) else if opB s.2.2.2.2.2.1.data.toList = false then (4, none) else
  if (listE s.2.2.2.2.2.2).1 ≠ 0 then listE s.2.2.2.2.2.2 else seqG s.2.2.1 s.2.2.2.2.2.2 0

theorem seqG_vals (seq : Int) : ∀ (fs : List Fl) (i : Nat), seqG seq fs i = (0, none) ∨ ∃ j, seqG seq fs i = (9, some j)
  | [], _ => Or.inl rfl
  | f :: r, i => by
    unfold seqG
    split
    · exact Or.inr ⟨i, rfl⟩
    · exact seqG_vals seq r (i + 1)

theorem snapE_le (s : Sn) : (snapE s).1 ≤ 12 := by
  unfold snapE
  split
  · exact (by decide : (2 : Nat) ≤ 12)
  · split
    · exact (by decide : (4 : Nat) ≤ 12)
    · split
      · unfold listE
        split
        · exact (by decide : (8 : Nat) ≤ 12)
        · exact lstG_le _ _ _
      · rcases seqG_vals s.2.2.1 s.2.2.2.2.2.2 0 with e | ⟨j, e⟩
        · rw [e]; exact Nat.zero_le _
        · rw [e]; exact (by decide : (9 : Nat) ≤ 12)

theorem snap_good {s : Sn} (h : (snapE s).1 = 0) : sbndB s = true ∧ opB s.2.2.2.2.2.1.data.toList = true ∧ (listE s.2.2.2.2.2.2).1 = 0 ∧ snapE s = (0, none) := by
  have h' := h
  unfold snapE at h ⊢
  by_cases h1 : sbndB s = false
  · rw [if_pos h1] at h; cases h
  · rw [if_neg h1] at h ⊢
    by_cases h2 : opB s.2.2.2.2.2.1.data.toList = false
    · rw [if_pos h2] at h; cases h
    · rw [if_neg h2] at h ⊢
      by_cases h3 : (listE s.2.2.2.2.2.2).1 ≠ 0
      · rw [if_pos h3] at h; exact absurd h h3
      · rw [if_neg h3] at h ⊢
        refine ⟨by simpa using h1, by simpa using h2, by simpa using h3, ?_⟩
        rcases seqG_vals s.2.2.1 s.2.2.2.2.2.2 0 with e | ⟨j, e⟩
        · exact e
        · rw [e] at h; cases h

def zeroS : Sn := (0, 0, 0, 0, 0, bytesOf [], [])

theorem file_short {f : Fl} (h : fileE f = 0) : (fileL f).length ≤ 100 := by
  obtain ⟨g, n, hp, hq, hb⟩ := file_good h
  have h1 : f.1.data.toList.length ≤ 16 := by
    rw [(path_some hp).1]
    have := (numO_spelt (path_some hp).2.1).2
    cases g <;> simp [kindL, kData, kGone] <;> omega
  have h2 : f.2.1.data.toList.length ≤ 12 := by
    unfold partB at hq
    cases g
    · simp only [Bool.false_eq_true, if_false, wordB, Bool.and_eq_true, decide_eq_true_eq] at hq
      omega
    · simp only [if_true, decide_eq_true_eq] at hq
      rw [hq]; decide
  obtain ⟨n1, n2, n3, n4⟩ := bnd_nums hb
  have q1 := (numO_spelt (numO_itoa _ n1)).2
  have q2 := (numO_spelt (numO_itoa _ n2)).2
  have q3 := (numO_spelt (numO_itoa _ n3)).2
  have q4 := (numO_spelt (numO_itoa _ n4)).2
  unfold fileL
  simp only [List.length_append, List.length_cons]
  omega

end Go.Proofs.YtcpplldfmmpaoaaGreatDoor
namespace Go.Proofs.YtcpplldfmmpaoaaGreatDoor
open Go.RowKit Go.Extern.Stop Go.Stop Go.Extern Go.Sort Go.Shelf Go.Lib

theorem nameByte_any (n : Int) (w : World) : Calls Tryz.prog 93 #[.int .u8 n] w fun e w' => e = .returned (.bool (nbI n)) ∧ w' = w := by
  by_cases h1 : 97 ≤ n
  · by_cases h2 : n ≤ 122
    · have hr : nbI n = true := by simp [nbI, h1, h2]
      rw [hr]
      go_enter Tryz.func93, Tryz.ntmps93
      go_wp2
      go_ret
      exact ⟨rfl, rfl⟩
    · have hr : nbI n = false := by simp [nbI]; omega
      rw [hr]
      have h3 : (48 : Int) ≤ n := by omega
      have h4 : ¬ n ≤ 57 := by omega
      go_enter Tryz.func93, Tryz.ntmps93
      go_wp2
      go_ret
      exact ⟨rfl, rfl⟩
  · by_cases h3 : 48 ≤ n
    · by_cases h4 : n ≤ 57
      · have hr : nbI n = true := by simp [nbI, h3, h4]
        rw [hr]
        go_enter Tryz.func93, Tryz.ntmps93
        go_wp2
        go_ret
        exact ⟨rfl, rfl⟩
      · have hr : nbI n = false := by simp [nbI]; omega
        rw [hr]
        go_enter Tryz.func93, Tryz.ntmps93
        go_wp2
        go_ret
        exact ⟨rfl, rfl⟩
    · have hr : nbI n = false := by simp [nbI]; omega
      rw [hr]
      go_enter Tryz.func93, Tryz.ntmps93
      go_wp2
      go_ret
      exact ⟨rfl, rfl⟩

theorem inBounds_any (n : Int) (w : World) : Calls Tryz.prog 48 #[.int .i64 n] w fun e w' => e = .returned (.bool (inNum n)) ∧ w' = w := by
  by_cases h1 : -1073741824 ≤ n
  · by_cases h2 : n ≤ 1073741824
    · have hr : inNum n = true := by simp [inNum, h1, h2]
      rw [hr]
      go_enter Tryz.func48, Tryz.ntmps48
      go_wp2
      go_ret
      exact ⟨rfl, rfl⟩
    · have hr : inNum n = false := by simp [inNum, h2]
      rw [hr]
      go_enter Tryz.func48, Tryz.ntmps48
      go_wp2
      go_ret
      exact ⟨rfl, rfl⟩
  · have hr : inNum n = false := by simp [inNum, h1]
    rw [hr]
    go_enter Tryz.func48, Tryz.ntmps48
    go_wp2
    go_ret
    exact ⟨rfl, rfl⟩

theorem size_list (s : ByteArray) : s.data.toList.length = s.size := by cases s; simp [ByteArray.size]

theorem byte_list (s : ByteArray) (k : Nat) (h : k < s.size) : s.data.toList[k]? = some s[k] := by
  cases s with | mk d => simp [ByteArray.size] at h; simp [h]; rfl

theorem all_succ {s : ByteArray} {n : Nat} (h : ∀ j c, j < n → s.data.toList[j]? = some c → nbI c.toNat = true) (hn : n < s.size) (e : nbI s[n].toNat = true) : ∀ j c, j < n + 1 → s.data.toList[j]? = some c → nbI c.toNat = true := fun j c hj hc => by
  rcases Nat.lt_or_ge j n with h' | h'
  · exact h j c h' hc
  · obtain rfl : j = n := by omega
    rw [byte_list s j hn] at hc
    rw [← Option.some.inj hc]; exact e

set_option maxHeartbeats 1000000 in
theorem word_any (s : ByteArray) (m : Nat) (w : World) (hs : s.size ≤ maxLen) (hm : m ≤ 1000) : Calls Tryz.prog 76 #[.string s, .int .i64 m] w fun e w' => e = .returned (.bool (wordB m s.data.toList)) ∧ w' = w := by
  unfold maxLen at hs
  have hsz := size_list s
  by_cases h1 : s.size < 1
  · have hr : wordB m s.data.toList = false := by simp only [wordB, hsz]; simp; omega
    rw [hr]
    clear hsz hr
    go_enter Tryz.func76, Tryz.ntmps76
    go_wp2
    go_ret
    exact ⟨rfl, rfl⟩
  · by_cases h2 : m < s.size
    · have hr : wordB m s.data.toList = false := by simp only [wordB, hsz]; simp; omega
      rw [hr]
      clear hsz hr
      go_enter Tryz.func76, Tryz.ntmps76
      go_wp2
      go_ret
      exact ⟨rfl, rfl⟩
    · generalize hr : wordB m s.data.toList = r
      have HR : Hid (wordB m s.data.toList = r) := hr
      have HS : Hid (s.data.toList.length = s.size) := hsz
      clear hr hsz
      go_enter Tryz.func76, Tryz.ntmps76
      go_wp2
      go_loop [5] (fun k => ∃ n : Nat, n ≤ s.size ∧ (∀ j c, j < n → s.data.toList[j]? = some c → nbI c.toNat = true) ∧ k = .int .i64 n) (fun k => s.size - (intOf k).toNat)
      case atStart => exact ⟨0, by omega, by omega, rfl⟩
      case round =>
        obtain ⟨n, hn, ht, rfl⟩ := hrel
        have HT : Hid (∀ j c, j < n → s.data.toList[j]? = some c → nbI c.toNat = true) := ht
        clear ht
        by_cases hlt : n < s.size
        · have hi : (n : Int) < (s.size : Int) := by omega
          have hb := nameByte_any (s[n].toNat : Int) w
          cases hv : nbI (s[n].toNat : Int)
          · rw [hv] at hb
            have hr : r = false := by
              rw [← HR.out]
              simp only [wordB, Bool.and_eq_false_iff]
              right
              rw [List.all_eq_false]
              exact ⟨s[n], List.mem_of_getElem? (byte_list s n hlt), by rw [hv]; simp⟩
            subst hr
            clear hv
            go_wp2_with (go_at_call 93; refine hb.mono ?_; rintro e w' ⟨rfl, rfl⟩)
            go_ret
            exact ⟨rfl, rfl⟩
          · rw [hv] at hb
            have HV : Hid (nbI (s[n].toNat : Int) = true) := hv
            clear hv
            go_wp2_with (go_at_call 93; refine hb.mono ?_; rintro e w' ⟨rfl, rfl⟩)
            go_round
            case rel => exact ⟨n + 1, by omega, all_succ HT.out hlt HV.out, by go_num⟩
            case measure => simp [intOf]; omega
        · have hr : r = true := by
            rw [← HR.out]
            simp only [wordB, Bool.and_eq_true, decide_eq_true_eq, List.all_eq_true]
            have := HS.out
            refine ⟨⟨by omega, by omega⟩, fun c hc => ?_⟩
            obtain ⟨k, hk⟩ := List.mem_iff_getElem?.1 hc
            have hk' : k < s.data.toList.length := by
              rcases Nat.lt_or_ge k s.data.toList.length with h | h
              · exact h
              · rw [List.getElem?_eq_none h] at hk; cases hk
            exact HT.out k c (by omega) hk
          subst hr
          have hn' : n = s.size := by omega
          subst hn'
          go_wp2
          go_ret
          exact ⟨rfl, rfl⟩

end Go.Proofs.YtcpplldfmmpaoaaGreatDoor
namespace Go.Proofs.YtcpplldfmmpaoaaGreatDoor
open Go.RowKit Go.Extern.Stop Go.Stop Go.Extern Go.Sort Go.Shelf Go.Lib

structure Env (w : World) (a : Nat → Addr) : Prop where
  text : w.cell? ⟨8, 0, none⟩ = some (.iface 195 (.pointer (some (a 0))))
  bound : w.cell? ⟨3, 0, none⟩ = some (.iface 195 (.pointer (some (a 1))))
  name : w.cell? ⟨9, 0, none⟩ = some (.iface 195 (.pointer (some (a 4))))
  maxl : ∃ m, w.cell? ⟨13, 0, none⟩ = some (.int .i64 m)
  syn : ∃ te pe, w.cell? ⟨14, 0, none⟩ = some (.iface te pe)
  tab : Lib.TabIs Tryz.prog w "internal/strconv.uint64pow10" .u64 Lib.pow10Tab

theorem tab_below {w w' : World} {n : String} {k : IntKind} {zs : List Int} (h : Lib.TabIs Tryz.prog w n k zs) (hb : Below w.heap.size w w') : Lib.TabIs Tryz.prog w' n k zs := by
  unfold Lib.TabIs World.var? at *
  cases hg : Tryz.prog.globalNamed n with
  | none => rw [hg] at h; simp at h
  | some g =>
    rw [hg] at h
    simp only [Option.bind_some] at h ⊢
    have hlt : g < w.heap.size := by
      rcases Nat.lt_or_ge g w.heap.size with h' | h'
      · exact h'
      · simp [Array.getElem?_eq_none h'] at h
    rw [hb.block g hlt]; exact h

theorem Env.below {w w' : World} {a : Nat → Addr} (h : Env w a) (hb : Below w.heap.size w w') : Env w' a where
  text := below_keep hb h.text
  bound := below_keep hb h.bound
  name := below_keep hb h.name
  maxl := let ⟨m, hm⟩ := h.maxl; ⟨m, below_keep hb hm⟩
  syn := let ⟨t, p, hm⟩ := h.syn; ⟨t, p, below_keep hb hm⟩
  tab := tab_below h.tab hb

structure EnvS (w : World) : Prop where
  maxl : ∃ m, w.cell? ⟨13, 0, none⟩ = some (.int .i64 m)
  syn : ∃ te pe, w.cell? ⟨14, 0, none⟩ = some (.iface te pe)
  tab : Lib.TabIs Tryz.prog w "internal/strconv.uint64pow10" .u64 Lib.pow10Tab

theorem EnvS.below {w w' : World} (h : EnvS w) (hb : Below w.heap.size w w') : EnvS w' where
  maxl := let ⟨m, hm⟩ := h.maxl; ⟨m, below_keep hb hm⟩
  syn := let ⟨t, p, hm⟩ := h.syn; ⟨t, p, below_keep hb hm⟩
  tab := tab_below h.tab hb
def errV (a : Nat → Addr) : Nat → Value
  | 0 => .nilIface
  | n + 1 => .iface 195 (.pointer (some (a n)))

theorem grow_below {w : World} (k : Nat) (os : Array Obj) : Below w.heap.size w (grow (w.drewN k) os) :=
  (below_drewN (Below.refl _ _) k).trans (show Below w.heap.size (w.drewN k) _ from below_grow (w := w.drewN k) os)

theorem itoa_any (n : Int) (w : World) (ht : Lib.TabIs Tryz.prog w "internal/strconv.uint64pow10" .u64 Lib.pow10Tab) (h0 : -9223372036854775808 ≤ n) (h1 : n ≤ 9223372036854775807) :
    Calls Tryz.prog 92 #[.int .i64 n] w fun e w' => e = .returned (.string (bytesOf (itoa n))) ∧ ∃ k os, w' = grow (w.drewN k) os :=
  Tryz.strconv_Itoa n h0 h1 w ht

def numR (s : List UInt8) : Value × Bool := match numO s with
  | some n => (.int .i64 n, true)
  | none => (.int .i64 0, false)

set_option maxHeartbeats 1000000 in
theorem number_s (s : ByteArray) (w : World) (h : EnvS w) (hs : s.size ≤ maxLen) :
    Calls Tryz.prog 75 #[.string s] w fun e w' => e = .returned (.tuple #[(numR s.data.toList).1, .bool (numR s.data.toList).2]) ∧ Below w.heap.size w w' := by
  unfold maxLen at hs
  have hsz := size_list s
  by_cases hl : 11 < s.size
  · have hr : numR s.data.toList = (.int .i64 0, false) := by
      unfold numR numO
      rw [if_neg (by omega)]
    rw [hr]
    clear hr hsz
    go_enter Tryz.func75, Tryz.ntmps75
    go_wp2
    go_ret2
    exact ⟨rfl, Below.refl _ _⟩
  · cases ha : atoi s.data.toList with
    | none =>
      have hr : numR s.data.toList = (.int .i64 0, false) := by
        unfold numR numO
        rw [if_pos (by omega), ha]
      rw [hr]
      obtain ⟨te, pe, hv⟩ := h.syn
      have hc := Tryz.strconv_Atoi_err s (by omega) ha (.iface te pe) w hv (Or.inr ⟨te, pe, rfl⟩)
      clear hr hsz ha hv
      go_enter Tryz.func75, Tryz.ntmps75
      go_wp2_with (go_at_call 91; refine hc.mono ?_; rintro e w' ⟨N, rfl, _, _, hb⟩)
      go_ret2
      exact ⟨rfl, hb⟩
    | some n =>
      have hc := Tryz.strconv_Atoi s n (by omega) ha w
      have hbd := atoi_bound ha (by omega)
      by_cases he : itoa n = s.data.toList
      · have hr : numR s.data.toList = (.int .i64 n, true) := by
          unfold numR numO
          rw [if_pos (by omega), ha]
          simp [he]
        rw [hr]
        have hse : bytesOf (itoa n) = s := by rw [he]; exact bytesOf_data s
        clear hr hsz ha he
        go_enter Tryz.func75, Tryz.ntmps75
        go_wp2_with (first
          | (go_at_call 91; refine hc.mono ?_; rintro e w1 ⟨rfl, t, rfl⟩)
          | (go_at_call 92; refine (itoa_any n _ (tab_below h.tab (bytesWorld_below w _ t)) (by omega) (by omega)).mono ?_; rintro e w2 ⟨rfl, k, os, rfl⟩; rw [hse]))
        go_ret2
        exact ⟨rfl, (bytesWorld_below w _ t).trans ((grow_below k os).mono (bytesWorld_below w _ t).size)⟩
      · have hr : numR s.data.toList = (.int .i64 0, false) := by
          unfold numR numO
          rw [if_pos (by omega), ha]
          simp [he]
        rw [hr]
        have hne : ((bytesOf (itoa n)).toList == s.toList) = false := by
          rw [ByteArray.toList_eq, ByteArray.toList_eq]
          simpa [bytesOf] using he
        clear hr hsz ha he
        go_enter Tryz.func75, Tryz.ntmps75
        go_wp2_with (first
          | (go_at_call 91; refine hc.mono ?_; rintro e w1 ⟨rfl, t, rfl⟩)
          | (go_at_call 92; refine (itoa_any n _ (tab_below h.tab (bytesWorld_below w _ t)) (by omega) (by omega)).mono ?_; rintro e w2 ⟨rfl, k, os, rfl⟩))
        go_ret2
        exact ⟨rfl, (bytesWorld_below w _ t).trans ((grow_below k os).mono (bytesWorld_below w _ t).size)⟩

end Go.Proofs.YtcpplldfmmpaoaaGreatDoor
namespace Go.Proofs.YtcpplldfmmpaoaaGreatDoor
open Go.RowKit Go.Extern.Stop Go.Stop Go.Extern Go.Sort Go.Shelf Go.Lib

theorem setCell_self {w : World} {b o : Nat} {v : Value} (h : w.cell? ⟨b, o, none⟩ = some v) : w.setCell ⟨b, o, none⟩ v = w := by
  have hm : (w.setCell ⟨b, o, none⟩ v).heap = w.heap := by
    unfold World.setCell
    apply Array.ext_getElem?
    intro i
    dsimp only
    rw [Array.getElem?_modify]
    split
    · rename_i e
      subst e
      unfold World.cell? at h
      dsimp only at h
      cases hh : w.heap[b]? with
      | none => rfl
      | some ob =>
        rw [hh] at h
        cases ob with
        | cells c t f =>
          simp only [Option.isSome_none, Bool.false_eq_true, if_false] at h
          simp only [Option.map_some, Option.isSome_none, Bool.false_eq_true, if_false, Option.some.injEq, Obj.cells.injEq, and_true]
          apply Array.ext_getElem?
          intro k
          rw [Array.getElem?_setIfInBounds]
          split
          · rename_i e; subst e
            split
            · exact h.symm
            · rename_i hlt; rw [Array.getElem?_eq_none (by omega)]
          · rfl
        | _ => simp at h
    · rfl
  cases w
  simp only [World.setCell] at hm ⊢
  rw [hm]

end Go.Proofs.YtcpplldfmmpaoaaGreatDoor
namespace Go.Proofs.YtcpplldfmmpaoaaGreatDoor
open Go.RowKit Go.Extern.Stop Go.Stop Go.Extern Go.Sort Go.Shelf Go.Lib

theorem eqB_of {s : ByteArray} {l : List UInt8} (h : s.data.toList = l) : (s.toList == l) = true := by
  rw [ByteArray.toList_eq]; simpa using h
theorem neB_of {s : ByteArray} {l : List UInt8} (h : s.data.toList ≠ l) : (s.toList == l) = false := by
  rw [ByteArray.toList_eq]; simpa using h

end Go.Proofs.YtcpplldfmmpaoaaGreatDoor
namespace Go.Proofs.YtcpplldfmmpaoaaGreatDoor
open Go.RowKit Go.Extern.Stop Go.Stop Go.Extern Go.Sort Go.Shelf Go.Lib

theorem bytes_len (l : List UInt8) : (bytesOf l).size = l.length := by rw [← size_list]; simp [bytesOf]

end Go.Proofs.YtcpplldfmmpaoaaGreatDoor
namespace Go.Proofs.YtcpplldfmmpaoaaGreatDoor
open Go.RowKit Go.Extern.Stop Go.Stop Go.Extern Go.Sort Go.Shelf Go.Lib

theorem eqBB {s t : ByteArray} (h : s.data.toList = t.data.toList) : (s.toList == t.toList) = true := by
  rw [ByteArray.toList_eq, ByteArray.toList_eq]; simpa using h
theorem neBB {s t : ByteArray} (h : s.data.toList ≠ t.data.toList) : (s.toList == t.toList) = false := by
  rw [ByteArray.toList_eq, ByteArray.toList_eq]; simpa using h

end Go.Proofs.YtcpplldfmmpaoaaGreatDoor
