/-
  The contracts of row.Name, row.Check, row.Number, row.Text and row.Read.
-/
import Derived.Test.YtdhkdjlgmbejnaaGreatDoorRowDrop
import Derived.Test.YtdhkdjlgmbejnaaGreatDoorDataPure
import Derived.Lib.SlicesCompact
import Derived.Lib.Slices
import Derived.Shelf.SlSortCmp.QuietGrown
namespace Go.Proofs.YtdhkdjlgmbejnaaGreatDoor
open Go.RowKit Go.Extern.Stop Go.Stop Go.Extern Go.Sort Go.Shelf Go.Lib

def riseZ (zs : List Int) : List Int := Lib.compact (sortZ zs)

theorem compact_up (d : Array Int) (hs : ∀ i j, i ≤ j → j < d.size → d[i]! ≤ d[j]!) : ∀ m, m ≤ d.size → (compactUpTo d m).Pairwise (· < ·) ∧ (∀ x, x ∈ compactUpTo d m ↔ ∃ j, j < m ∧ d[j]! = x) ∧ ∀ x ∈ compactUpTo d m, ∀ j, m ≤ j + 1 → j < d.size → x ≤ d[j]! := by
  intro m
  induction m with
  | zero => intro _; exact ⟨by simp [compactUpTo], by simp [compactUpTo], by simp [compactUpTo]⟩
  | succ m ih =>
    intro hm
    obtain ⟨h1, h2, h3⟩ := ih (by omega)
    rw [compactUpTo_succ]
    cases hk : keeps d m with
    | true =>
      simp only [if_true]
      have hlt : ∀ x ∈ compactUpTo d m, x < d[m]! := by
        intro x hx
        have hm0 : m ≠ 0 := by
          intro e; subst e
          obtain ⟨j, hj, _⟩ := (h2 x).1 hx
          omega
        simp only [keeps, decide_eq_true_eq] at hk
        rcases hk with hk | hk
        · exact absurd hk hm0
        · have a1 := h3 x hx (m - 1) (by omega) (by omega)
          have a2 := hs (m - 1) m (by omega) (by omega)
          omega
      refine ⟨List.pairwise_append.2 ⟨h1, List.pairwise_singleton _ _, fun x hx y hy => by rw [List.mem_singleton.1 hy]; exact hlt x hx⟩, fun x => ?_, fun x hx j hj1 hj2 => ?_⟩
      · rw [List.mem_append, List.mem_singleton, h2]
        constructor
        · rintro (⟨j, hj, e⟩ | e)
          · exact ⟨j, by omega, e⟩
          · exact ⟨m, by omega, e.symm⟩
        · rintro ⟨j, hj, e⟩
          rcases Nat.lt_or_ge j m with h | h
          · exact Or.inl ⟨j, h, e⟩
          · have : j = m := by omega
            subst this; exact Or.inr e.symm
      · rw [List.mem_append, List.mem_singleton] at hx
        have hmj := hs m j (by omega) hj2
        rcases hx with hx | hx
        · have := hlt x hx; omega
        · omega
    | false =>
      simp only [Bool.false_eq_true, if_false, List.append_nil]
      simp only [keeps, decide_eq_false_iff_not, not_or, ne_eq, Classical.not_not] at hk
      refine ⟨h1, fun x => ?_, fun x hx j hj1 hj2 => h3 x hx j (by omega) hj2⟩
      rw [h2]
      constructor
      · rintro ⟨j, hj, e⟩; exact ⟨j, by omega, e⟩
      · rintro ⟨j, hj, e⟩
        rcases Nat.lt_or_ge j m with h | h
        · exact ⟨j, h, e⟩
        · have : j = m := by omega
          subst this
          exact ⟨j - 1, by omega, by rw [← e, hk.2]⟩

theorem sortZ_get (zs : List Int) (i j : Nat) (hij : i ≤ j) (hj : j < (sortZ zs).toArray.size) : (sortZ zs).toArray[i]! ≤ (sortZ zs).toArray[j]! := by
  have hj' : j < (sortZ zs).length := by simpa using hj
  rw [getElem!_pos _ i (by omega), getElem!_pos _ j hj]
  simp only [List.getElem_toArray]
  rcases Nat.lt_or_eq_of_le hij with h | h
  · exact List.pairwise_iff_getElem.1 (sortZ_sorted zs) i j (by omega) hj' h
  · subst h; exact Int.le_refl _

theorem rise_sorted (zs : List Int) : (riseZ zs).Pairwise (· < ·) := by
  have h := compact_up (sortZ zs).toArray (sortZ_get zs) (sortZ zs).length (by simp)
  exact h.1
theorem rise_mem (zs : List Int) (x : Int) : x ∈ riseZ zs ↔ x ∈ zs := by
  have h := (compact_up (sortZ zs).toArray (sortZ_get zs) (sortZ zs).length (by simp)).2.1 x
  show x ∈ compactUpTo (sortZ zs).toArray (sortZ zs).length ↔ _
  rw [h, ← sortZ_mem zs x]
  constructor
  · rintro ⟨j, hj, e⟩
    rw [getElem!_pos _ j (by simpa using hj)] at e
    rw [← e]
    simp only [List.getElem_toArray]
    exact List.getElem_mem _
  · intro hx
    obtain ⟨j, hj, e⟩ := List.mem_iff_getElem.1 hx
    exact ⟨j, hj, by rw [getElem!_pos _ j (by simpa using hj)]; simpa using e⟩

theorem rise_unique : ∀ xs ys : List Int, xs.Pairwise (· < ·) → ys.Pairwise (· < ·) → (∀ x, x ∈ xs ↔ x ∈ ys) → xs = ys
  | [], [], _, _, _ => rfl
  | [], y :: ys, _, _, h => absurd ((h y).2 List.mem_cons_self) (by simp)
  | x :: xs, [], _, _, h => absurd ((h x).1 List.mem_cons_self) (by simp)
  | x :: xs, y :: ys, hx, hy, h => by
    obtain ⟨hx1, hx2⟩ := List.pairwise_cons.1 hx
    obtain ⟨hy1, hy2⟩ := List.pairwise_cons.1 hy
    have e : x = y := by
      have a := (h x).1 List.mem_cons_self
      have b := (h y).2 List.mem_cons_self
      rcases List.mem_cons.1 a with a | a
      · exact a
      · rcases List.mem_cons.1 b with b | b
        · exact b.symm
        · have := hx1 y b; have := hy1 x a; omega
    subst e
    rw [rise_unique xs ys hx2 hy2 fun z => ⟨fun hz => by
      rcases List.mem_cons.1 ((h z).1 (List.mem_cons_of_mem _ hz)) with q | q
      · have := hx1 z hz; omega
      · exact q, fun hz => by
      rcases List.mem_cons.1 ((h z).2 (List.mem_cons_of_mem _ hz)) with q | q
      · have := hy1 z hz; omega
      · exact q⟩]

theorem rise_is {xs zs : List Int} (h : xs.Pairwise (· < ·)) (hm : ∀ x, x ∈ xs ↔ x ∈ zs) : riseZ zs = xs :=
  rise_unique _ _ (rise_sorted zs) h fun x => (rise_mem zs x).trans (hm x).symm

theorem rise_len (zs : List Int) : (riseZ zs).length ≤ zs.length := by
  have h : (riseZ zs).length ≤ (sortZ zs).length := by
    unfold riseZ Lib.compact compactUpTo
    rw [List.length_map]
    refine Nat.le_trans (List.length_filter_le _ _) ?_
    simp
  rw [sortZ_len] at h
  exact h

theorem rise_nil : riseZ [] = [] := rise_is List.Pairwise.nil (fun _ => Iff.rfl)

theorem rise_good (zs : List Int) : (riseZ zs).Pairwise (fun x y => goneK.bad y x = false) := (rise_sorted zs).imp fun {a b} h => by
  show decide (b ≤ a) = false
  rw [decide_eq_false_iff_not]; omega

abbrev goneO (s : List UInt8) : List Int × Nat × Option Nat := readG goneK s
abbrev goneF (zs : List Int) : List UInt8 := fileG goneK zs
end Go.Proofs.YtdhkdjlgmbejnaaGreatDoor
namespace Go.Proofs.YtdhkdjlgmbejnaaGreatDoor
open Go Go.Lib

abbrev Fl := ByteArray × ByteArray × Int × Int × Int × Int

def cntB (n : Int) : Bool := decide (1 ≤ n) && decide (n ≤ 1073741824)

def kindL (g : Bool) : List UInt8 := if g then kGone else kData

def pathN (s : List UInt8) : Option Int := match numO s with
  | some n => if cntB n then some n else none
  | none => none

def pathO (s : List UInt8) : Option (Bool × Int) :=
  if s.take 5 = kData ++ [47] then (pathN (s.drop 5)).map fun n => (false, n) else
  if s.take 5 = kGone ++ [47] then (pathN (s.drop 5)).map fun n => (true, n) else none

theorem num_nil : numO [] = none := by
  cases h : numO [] with
  | none => rfl
  | some n =>
    have := (numO_spelt h).1
    unfold itoa at this
    split at this
    · cases this
    · exact absurd this (digits_ne _)

theorem take_kind (k w : List UInt8) (hk : k.length = 4) : (k ++ 47 :: w).take 5 = k ++ [47] ∧ (k ++ 47 :: w).drop 5 = w := by
  have e : k ++ 47 :: w = (k ++ [47]) ++ w := by simp
  have hl : (k ++ [47]).length = 5 := by simp [hk]
  rw [e]
  exact ⟨by rw [← hl, List.take_left], by rw [← hl, List.drop_left]⟩

theorem path_of (g : Bool) (w : List UInt8) : pathO (kindL g ++ 47 :: w) = (pathN w).map fun n => (g, n) := by
  obtain ⟨h1, h2⟩ := take_kind (kindL g) w (by cases g <;> rfl)
  unfold pathO
  rw [h1, h2]
  cases g
  · rw [if_pos (show kindL false ++ [47] = kData ++ [47] from rfl)]
  · rw [if_neg (by decide), if_pos (show kindL true ++ [47] = kGone ++ [47] from rfl)]

theorem path_some {s : List UInt8} {g : Bool} {n : Int} (h : pathO s = some (g, n)) : s = kindL g ++ 47 :: itoa n ∧ numO (itoa n) = some n ∧ cntB n = true := by
  have key : ∀ (k : List UInt8) (b : Bool), s.take 5 = k ++ [47] → (pathN (s.drop 5)).map (fun m => (b, m)) = some (g, n) → b = g ∧ s = k ++ 47 :: itoa n ∧ numO (itoa n) = some n ∧ cntB n = true := fun k b hk hp => by
    obtain ⟨m, hm, he⟩ := Option.map_eq_some_iff.1 hp
    simp only [Prod.mk.injEq] at he
    obtain ⟨rfl, rfl⟩ := he
    unfold pathN at hm
    split at hm
    · rename_i x hx
      split at hm
      · rename_i hc
        obtain rfl := Option.some.inj hm
        have hsp := (numO_spelt hx).1
        refine ⟨rfl, ?_, by rw [hsp]; exact hx, hc⟩
        rw [hsp]
        conv => lhs; rw [← List.take_append_drop 5 s, hk]
        simp
      · cases hm
    · cases hm
  unfold pathO at h
  split at h
  · rename_i hk
    obtain ⟨rfl, h'⟩ := key _ _ hk h
    exact h'
  · split at h
    · rename_i hk
      obtain ⟨rfl, h'⟩ := key _ _ hk h
      exact h'
    · cases h

theorem path_cut (s : List UInt8) : pathO s = if (Lib.cut s [47]).1 = kData then (pathN (Lib.cut s [47]).2.1).map fun n => (false, n) else
    if (Lib.cut s [47]).1 = kGone then (pathN (Lib.cut s [47]).2.1).map fun n => (true, n) else none := by
  rcases cut_cases 47 s with ⟨hn, hc⟩ | ⟨a, b, rfl, hn, hc⟩
  · rw [hc]
    have hp : pathN [] = none := by unfold pathN; rw [num_nil]
    have hnone : pathO s = none := by
      cases h : pathO s with
      | none => rfl
      | some p =>
        obtain ⟨g, n⟩ := p
        have := (path_some h).1
        exact absurd rfl (hn 47 (by rw [this]; simp))
    rw [hnone]
    dsimp only
    rw [hp]
    split
    · rfl
    · split <;> rfl
  · rw [hc]
    dsimp only
    by_cases h1 : a = kData
    · subst h1
      rw [if_pos rfl]
      exact path_of false b
    · rw [if_neg h1]
      by_cases h2 : a = kGone
      · subst h2
        rw [if_pos rfl]
        exact path_of true b
      · rw [if_neg h2]
        cases h : pathO (a ++ 47 :: b) with
        | none => rfl
        | some p =>
          obtain ⟨g, n⟩ := p
          have e := (path_some h).1
          have hk : ∀ c ∈ kindL g, c ≠ 47 := by cases g <;> decide
          have e1 := cut_at 47 a b hn
          rw [e, cut_at 47 _ _ hk] at e1
          simp only [Prod.mk.injEq, and_true] at e1
          cases g
          · exact absurd e1.1.symm h1
          · exact absurd e1.1.symm h2

theorem path_parts {s : List UInt8} (h : 6 ≤ s.length) : pathO s = if (s.take 4 = kData ∨ s.take 4 = kGone) ∧ s[4]? = some 47 then (pathN (s.drop 5)).map fun n => (decide (s.take 4 = kGone), n) else none := by
  have ht : ∀ k : List UInt8, k.length = 4 → (s.take 5 = k ++ [47] ↔ s.take 4 = k ∧ s[4]? = some 47) := fun k hk => by
    have e5 : s.take 5 = s.take 4 ++ [s[4]'(by omega)] := by rw [List.take_succ_eq_append_getElem (by omega)]
    rw [e5, List.getElem?_eq_getElem (by omega : 4 < s.length)]
    have hl : (s.take 4).length = k.length := by rw [List.length_take, hk]; omega
    constructor
    · intro e
      obtain ⟨e1, e2⟩ := List.append_inj e hl
      exact ⟨e1, by rw [List.singleton_inj.1 e2]⟩
    · rintro ⟨e1, e2⟩
      rw [e1, Option.some.inj e2]
  unfold pathO
  have d1 := ht kData rfl
  have d2 := ht kGone rfl
  by_cases h1 : s.take 5 = kData ++ [47]
  · have e1 := d1.1 h1
    rw [if_pos h1, if_pos ⟨Or.inl e1.1, e1.2⟩, e1.1]
    rfl
  · rw [if_neg h1]
    by_cases h2 : s.take 5 = kGone ++ [47]
    · have e2 := d2.1 h2
      rw [if_pos h2, if_pos ⟨Or.inr e2.1, e2.2⟩, e2.1]
      rfl
    · rw [if_neg h2, if_neg]
      rintro ⟨e | e, e'⟩
      · exact h1 (d1.2 ⟨e, e'⟩)
      · exact h2 (d2.2 ⟨e, e'⟩)

theorem path_short {s : List UInt8} (h : s.length < 6) : pathO s = none := by
  have e : s.drop 5 = [] := by rw [List.drop_eq_nil_iff]; omega
  have hp : pathN [] = none := by unfold pathN; rw [num_nil]
  unfold pathO
  rw [e, hp]
  split
  · rfl
  · split <;> rfl

def pathR (s : List UInt8) : List UInt8 × Int × Nat := match pathO s with
  | some (g, n) => (kindL g, n, 0)
  | none => ([], 0, 5)

def partB (g : Bool) (s : List UInt8) : Bool := if g then decide (s = [45]) else wordB 12 s

def bndB (f : Fl) : Bool := decide (1 ≤ f.2.2.1) && decide (f.2.2.1 ≤ 40) && inNum f.2.2.2.1 && inNum f.2.2.2.2.1 && decide (f.2.2.2.1 ≤ f.2.2.2.2.1) && cntB f.2.2.2.2.2

def fileE (f : Fl) : Nat := match pathO f.1.data.toList with
  | none => 5
  | some (g, _) => if partB g f.2.1.data.toList then (if bndB f then 0 else 2) else 4

def zeroF : Fl := (bytesOf [], bytesOf [], 0, 0, 0, 0)

def chkF (f : Fl) : Fl × Nat := if fileE f = 0 then (f, 0) else (zeroF, fileE f)

def keysF (g : Bool) (s : List UInt8) : List Int × Nat := if g then ((goneO s).1, (goneO s).2.1) else (keysR (dataO s).1, (dataO s).2.1)

def ofF (path part : ByteArray) (s : List UInt8) (seq : Int) : Fl × Nat := match pathO path.data.toList with
  | none => (zeroF, 5)
  | some (g, _) => if (keysF g s).2 = 0 then chkF (path, part, (keysF g s).1.length, (endsZ (keysF g s).1).1, (endsZ (keysF g s).1).2, seq) else (zeroF, (keysF g s).2)

theorem file_good {f : Fl} (h : fileE f = 0) : ∃ g n, pathO f.1.data.toList = some (g, n) ∧ partB g f.2.1.data.toList = true ∧ bndB f = true := by
  unfold fileE at h
  split at h
  · cases h
  · rename_i g n hp
    split at h
    · rename_i hq
      split at h
      · rename_i hb
        exact ⟨g, n, hp, hq, hb⟩
      · cases h
    · cases h

theorem min_ends {zs : List Int} (h : zs ≠ []) : Lib.minOf zs = (endsZ zs).1 ∧ Lib.maxOf zs = (endsZ zs).2 := by
  have f1 : ∀ (r : List Int) (z : Int), r.foldl min z = r.foldl (fun a k => if k < a then k else a) z := fun r => by
    induction r with
    | nil => intro z; rfl
    | cons k r ih =>
      intro z
      rw [List.foldl_cons, List.foldl_cons, ih]
      congr 1
      rw [Int.min_def]
      split <;> split <;> omega
  have f2 : ∀ (r : List Int) (z : Int), r.foldl max z = r.foldl (fun a k => if a < k then k else a) z := fun r => by
    induction r with
    | nil => intro z; rfl
    | cons k r ih =>
      intro z
      rw [List.foldl_cons, List.foldl_cons, ih]
      congr 1
      rw [Int.max_def]
      split <;> split <;> omega
  cases zs with
  | nil => exact absurd rfl h
  | cons z r =>
    unfold Lib.minOf Lib.maxOf
    simp only [List.headD_cons, List.foldl_cons, Int.min_self, Int.max_self]
    exact ⟨f1 r z, f2 r z⟩
end Go.Proofs.YtdhkdjlgmbejnaaGreatDoor
namespace Go.Proofs.YtdhkdjlgmbejnaaGreatDoor
open Go Go.Lib

def pk (s : List UInt8) : Int := match pathO s with
  | some (g, n) => if g then 1073741824 + n else n
  | none => 0

theorem pk_some {s : List UInt8} {g : Bool} {n : Int} (h : pathO s = some (g, n)) : pk s = (if g then 1073741824 + n else n) ∧ 1 ≤ n ∧ n ≤ 1073741824 := by
  have hc := (path_some h).2.2
  simp only [cntB, Bool.and_eq_true, decide_eq_true_eq] at hc
  exact ⟨by unfold pk; rw [h], hc⟩

theorem pk_pos {s : List UInt8} (h : pathO s ≠ none) : 0 < pk s := by
  cases hp : pathO s with
  | none => exact absurd hp h
  | some p =>
    obtain ⟨g, n⟩ := p
    obtain ⟨e, h1, h2⟩ := pk_some hp
    rw [e]
    split <;> omega

def fk (f : Fl) : Int := pk f.1.data.toList

theorem ok_path {f : Fl} (h : fileE f = 0) : pathO f.1.data.toList ≠ none := by
  obtain ⟨g, n, hp, _⟩ := file_good h
  rw [hp]; simp

theorem fk_pos {f : Fl} (h : fileE f = 0) : 0 < fk f := pk_pos (ok_path h)

def lstG : Int → List Fl → Nat → Nat × Option Nat
  | _, [], _ => (0, none)
  | prev, f :: r, i => if fileE f ≠ 0 then (fileE f, some i) else if fk f ≤ prev then (9, some i) else lstG (fk f) r (i + 1)

def listE (fs : List Fl) : Nat × Option Nat := if 60 < fs.length then (8, none) else lstG 0 fs 0

def Rises (prev : Int) (fs : List Fl) : Prop := (∀ f ∈ fs, fileE f = 0 ∧ prev < fk f) ∧ fs.Pairwise fun f g => fk f < fk g

theorem rises_cons {prev : Int} {f : Fl} {r : List Fl} : Rises prev (f :: r) ↔ fileE f = 0 ∧ prev < fk f ∧ Rises (fk f) r := by
  unfold Rises
  rw [List.pairwise_cons]
  constructor
  · rintro ⟨h1, h2, h3⟩
    have h0 := h1 f List.mem_cons_self
    exact ⟨h0.1, h0.2, fun g hg => ⟨(h1 g (List.mem_cons_of_mem _ hg)).1, h2 g hg⟩, h3⟩
  · rintro ⟨h1, h2, h3, h4⟩
    refine ⟨fun g hg => ?_, fun g hg => (h3 g hg).2, h4⟩
    rw [List.mem_cons] at hg
    rcases hg with rfl | hg
    · exact ⟨h1, h2⟩
    · have := h3 g hg
      exact ⟨this.1, by omega⟩

theorem lstG_ok : ∀ (fs : List Fl) (prev : Int) (i : Nat), (lstG prev fs i).1 = 0 ↔ Rises prev fs
  | [], prev, i => by simp [lstG, Rises]
  | f :: r, prev, i => by
    have ih := lstG_ok r (fk f) (i + 1)
    unfold lstG
    rw [rises_cons]
    split
    · rename_i h
      simp [h]
    · rename_i h
      have h0 : fileE f = 0 := by simpa using h
      split
      · rename_i h'
        simp [h0]; omega
      · rename_i h'
        rw [ih]
        simp [h0]; omega

theorem listE_ok {fs : List Fl} : (listE fs).1 = 0 ↔ fs.length ≤ 60 ∧ Rises 0 fs := by
  unfold listE
  split
  · rename_i h
    simp; omega
  · rename_i h
    rw [lstG_ok]
    simp; omega

def placeL (fs : List Fl) (f : Fl) : List Fl := fs.takeWhile (fun g => decide (fk g < fk f)) ++ f :: fs.dropWhile (fun g => decide (fk g < fk f))

end Go.Proofs.YtdhkdjlgmbejnaaGreatDoor
namespace Go.Proofs
open Go.Shelf
def Tryz.lays169_ren : Go.Shelf.Ren := ⟨fun | 169 => 115 | n => n, fun | 70 => 175 | 9 => 9 | 0 => 0 | 72 => 178 | 37 => 176 | 127 => 234 | 3 => 3 | 5 => 5 | n => n, fun | n => n⟩
theorem Tryz.lays169 : Go.Proofs.Lays.n169 Tryz.prog Tryz.lays169_ren := {
  mixed := by kernel_rfl
  f169 := Tryz.func115.trans (congrArg some (by kernel_rfl))
  t0 := Tryz.underlying0
  a0 := Tryz.isAgg0
  z0 := Tryz.sizeOf0
  v0 := Tryz.zeroValue0
  t3 := Tryz.underlying3
  a3 := Tryz.isAgg3
  z3 := Tryz.sizeOf3
  v3 := Tryz.zeroValue3
  t9 := Tryz.underlying9
  a9 := Tryz.isAgg9
  z9 := Tryz.sizeOf9
  v9 := Tryz.zeroValue9
  t37 := Tryz.underlying176
  a37 := Tryz.isAgg176
  z37 := Tryz.sizeOf176
  v37 := Tryz.zeroValue176
  t70 := Tryz.underlying175
  a70 := Tryz.isAgg175
  z70 := Tryz.sizeOf175
  v70 := Tryz.zeroValue175
  t72 := Tryz.underlying178
  a72 := Tryz.isAgg178
  z72 := Tryz.sizeOf178
  v72 := Tryz.zeroValue178
  t127 := Tryz.underlying234
  a127 := Tryz.isAgg234
  z127 := Tryz.sizeOf234
  v127 := Tryz.zeroValue234 }
theorem Tryz.Builder_Extra_169 : Builder.Extra Tryz.prog Tryz.lays169_ren := {
  sizeBuilder := by kernel_rfl
  liesBuilder := by kernel_rfl
  t5 := Tryz.underlying5
  a5 := Tryz.isAgg5
  z5 := Tryz.sizeOf5
  v5 := Tryz.zeroValue5
  infoByte := by kernel_rfl
  cellsByte := by kernel_rfl
  sizeByte := by kernel_rfl
  neB5 := by decide }
open Go.RowKit in
theorem Tryz.Builder_String_any (B b : Nat) (l : List UInt8) (w : World) (h : Lib.IsBuilder 178 5 B b (Lib.byteCells l) w) (hBw : B ≤ w.heap.size) :
    Calls Tryz.prog 115 #[.pointer (some ⟨b, 0, none⟩)] w fun e w' => e = .returned (.string ⟨l.toArray⟩) ∧ Below B w w' := Any.Builder_String_any Tryz.lays169 Tryz.Builder_Extra_169 B b l w h hBw
def Tryz.lays156_ren : Go.Shelf.Ren := ⟨fun | 156 => 168 | 165 => 202 | 166 => 114 | 169 => 115 | 240 => 166 | 241 => 223 | 276 => 200 | 277 => 240 | n => n, fun | 31 => 157 | 9 => 9 | 3 => 3 | 4 => 4 | 0 => 0 | 20 => 20 | 72 => 178 | 76 => 40 | 70 => 175 | 37 => 176 | 75 => 35 | 127 => 234 | 164 => 209 | 5 => 5 | 80 => 181 | n => n, fun | n => n⟩
theorem Tryz.lays156 : Go.Proofs.Lays.n156 Tryz.prog Tryz.lays156_ren := {
  mixed := by kernel_rfl
  f156 := Tryz.func168.trans (congrArg some (by kernel_rfl))
  f165 := Tryz.func202.trans (congrArg some (by kernel_rfl))
  f166 := Tryz.func114.trans (congrArg some (by kernel_rfl))
  f169 := Tryz.func115.trans (congrArg some (by kernel_rfl))
  f240 := Tryz.func166.trans (congrArg some (by kernel_rfl))
  f241 := Tryz.func223.trans (congrArg some (by kernel_rfl))
  f276 := Tryz.func200.trans (congrArg some (by kernel_rfl))
  f277 := Tryz.func240.trans (congrArg some (by kernel_rfl))
  t0 := Tryz.underlying0
  a0 := Tryz.isAgg0
  z0 := Tryz.sizeOf0
  v0 := Tryz.zeroValue0
  t3 := Tryz.underlying3
  a3 := Tryz.isAgg3
  z3 := Tryz.sizeOf3
  v3 := Tryz.zeroValue3
  t4 := Tryz.underlying4
  a4 := Tryz.isAgg4
  z4 := Tryz.sizeOf4
  v4 := Tryz.zeroValue4
  t9 := Tryz.underlying9
  a9 := Tryz.isAgg9
  z9 := Tryz.sizeOf9
  v9 := Tryz.zeroValue9
  t20 := Tryz.underlying20
  a20 := Tryz.isAgg20
  z20 := Tryz.sizeOf20
  v20 := Tryz.zeroValue20
  t31 := Tryz.underlying157
  a31 := Tryz.isAgg157
  z31 := Tryz.sizeOf157
  v31 := Tryz.zeroValue157
  t37 := Tryz.underlying176
  a37 := Tryz.isAgg176
  z37 := Tryz.sizeOf176
  v37 := Tryz.zeroValue176
  t70 := Tryz.underlying175
  a70 := Tryz.isAgg175
  z70 := Tryz.sizeOf175
  v70 := Tryz.zeroValue175
  t72 := Tryz.underlying178
  a72 := Tryz.isAgg178
  z72 := Tryz.sizeOf178
  v72 := Tryz.zeroValue178
  t75 := Tryz.underlying35
  a75 := Tryz.isAgg35
  z75 := Tryz.sizeOf35
  v75 := Tryz.zeroValue35
  t76 := Tryz.underlying40
  a76 := Tryz.isAgg40
  z76 := Tryz.sizeOf40
  v76 := Tryz.zeroValue40
  t127 := Tryz.underlying234
  a127 := Tryz.isAgg234
  z127 := Tryz.sizeOf234
  v127 := Tryz.zeroValue234
  t164 := Tryz.underlying209
  a164 := Tryz.isAgg209
  z164 := Tryz.sizeOf209
  v164 := Tryz.zeroValue209 }
theorem Tryz.Builder_Extra_156 : Builder.Extra Tryz.prog Tryz.lays156_ren := {
  sizeBuilder := by kernel_rfl
  liesBuilder := by kernel_rfl
  t5 := Tryz.underlying5
  a5 := Tryz.isAgg5
  z5 := Tryz.sizeOf5
  v5 := Tryz.zeroValue5
  infoByte := by kernel_rfl
  cellsByte := by kernel_rfl
  sizeByte := by kernel_rfl
  neB5 := by decide }
open Go.RowKit in
theorem Tryz.strings_Join (bk o c : Nat) (xs : List ByteArray) (sep : ByteArray) (w : World) (hcells : ∀ (j : Nat) x, xs[j]? = some x → w.cell? ⟨bk, o + j, none⟩ = some (.string x)) (hbk : bk < w.heap.size) (hN : xs.length ≤ 140737488355328) (hcap : xs.length ≤ c) (hlen : (Lib.join (xs.map (·.data.toList)) sep.data.toList).length ≤ 140737488355328) :
    Calls Tryz.prog 168 #[.slice (some ⟨bk, o, none⟩) xs.length c, .string sep] w fun e w' => e = .returned (.string ⟨(Lib.join (xs.map (·.data.toList)) sep.data.toList).toArray⟩) ∧ Below w.heap.size w w' := Any.strings_Join Tryz.lays156 Tryz.Builder_Extra_156 bk o c xs sep w hcells hbk hN hcap hlen
end Go.Proofs
namespace Go.Proofs.YtdhkdjlgmbejnaaGreatDoor
open Go.RowKit Go.Extern.Stop Go.Stop Go.Extern Go.Sort Go.Shelf Go.Lib

theorem nameByte_any (n : Int) (w : World) : Calls Tryz.prog 216 #[.int .u8 n] w fun e w' => e = .returned (.bool (nbI n)) ∧ w' = w := by
  by_cases h1 : 97 ≤ n
  · by_cases h2 : n ≤ 122
    · have hr : nbI n = true := by simp [nbI, h1, h2]
      rw [hr]
      go_enter Tryz.func216, Tryz.ntmps216
      go_wp2
      go_ret
      exact ⟨rfl, rfl⟩
    · have hr : nbI n = false := by simp [nbI]; omega
      rw [hr]
      have h3 : (48 : Int) ≤ n := by omega
      have h4 : ¬ n ≤ 57 := by omega
      go_enter Tryz.func216, Tryz.ntmps216
      go_wp2
      go_ret
      exact ⟨rfl, rfl⟩
  · by_cases h3 : 48 ≤ n
    · by_cases h4 : n ≤ 57
      · have hr : nbI n = true := by simp [nbI, h3, h4]
        rw [hr]
        go_enter Tryz.func216, Tryz.ntmps216
        go_wp2
        go_ret
        exact ⟨rfl, rfl⟩
      · have hr : nbI n = false := by simp [nbI]; omega
        rw [hr]
        go_enter Tryz.func216, Tryz.ntmps216
        go_wp2
        go_ret
        exact ⟨rfl, rfl⟩
    · have hr : nbI n = false := by simp [nbI]; omega
      rw [hr]
      go_enter Tryz.func216, Tryz.ntmps216
      go_wp2
      go_ret
      exact ⟨rfl, rfl⟩

theorem inBounds_any (n : Int) (w : World) : Calls Tryz.prog 61 #[.int .i64 n] w fun e w' => e = .returned (.bool (inNum n)) ∧ w' = w := by
  by_cases h1 : -1073741824 ≤ n
  · by_cases h2 : n ≤ 1073741824
    · have hr : inNum n = true := by simp [inNum, h1, h2]
      rw [hr]
      go_enter Tryz.func61, Tryz.ntmps61
      go_wp2
      go_ret
      exact ⟨rfl, rfl⟩
    · have hr : inNum n = false := by simp [inNum, h2]
      rw [hr]
      go_enter Tryz.func61, Tryz.ntmps61
      go_wp2
      go_ret
      exact ⟨rfl, rfl⟩
  · have hr : inNum n = false := by simp [inNum, h1]
    rw [hr]
    go_enter Tryz.func61, Tryz.ntmps61
    go_wp2
    go_ret
    exact ⟨rfl, rfl⟩

theorem size_list (s : ByteArray) : s.data.toList.length = s.size := by cases s; simp [ByteArray.size]

theorem byte_list (s : ByteArray) (k : Nat) (h : k < s.size) : s.data.toList[k]? = some s[k] := by
  cases s with | mk d => simp [ByteArray.size] at h; simp [h]; rfl

theorem all_succ {s : ByteArray} {n : Nat} (h : ∀ j c, j < n → s.data.toList[j]? = some c → nbI c.toNat = true) (hn : n < s.size) (e : nbI s[n].toNat = true) : ∀ j c, j < n + 1 → s.data.toList[j]? = some c → nbI c.toNat = true := fun j c hj hc => by
  rcases Nat.lt_or_ge j n with h' | h'
  · exact h j c h' hc
  · obtain rfl : j = n := by omega
    rw [byte_list s j hn] at hc
    rw [← Option.some.inj hc]; exact e

set_option maxHeartbeats 1000000 in
theorem word_any (s : ByteArray) (m : Nat) (w : World) (hs : s.size ≤ maxLen) (hm : m ≤ 1000) : Calls Tryz.prog 180 #[.string s, .int .i64 m] w fun e w' => e = .returned (.bool (wordB m s.data.toList)) ∧ w' = w := by
  unfold maxLen at hs
  have hsz := size_list s
  by_cases h1 : s.size < 1
  · have hr : wordB m s.data.toList = false := by simp only [wordB, hsz]; simp; omega
    rw [hr]
    clear hsz hr
    go_enter Tryz.func180, Tryz.ntmps180
    go_wp2
    go_ret
    exact ⟨rfl, rfl⟩
  · by_cases h2 : m < s.size
    · have hr : wordB m s.data.toList = false := by simp only [wordB, hsz]; simp; omega
      rw [hr]
      clear hsz hr
      go_enter Tryz.func180, Tryz.ntmps180
      go_wp2
      go_ret
      exact ⟨rfl, rfl⟩
    · generalize hr : wordB m s.data.toList = r
      have HR : Hid (wordB m s.data.toList = r) := hr
      have HS : Hid (s.data.toList.length = s.size) := hsz
      clear hr hsz
      go_enter Tryz.func180, Tryz.ntmps180
      go_wp2
      go_loop [5] (fun k => ∃ n : Nat, n ≤ s.size ∧ (∀ j c, j < n → s.data.toList[j]? = some c → nbI c.toNat = true) ∧ k = .int .i64 n) (fun k => s.size - (intOf k).toNat)
      case atStart => exact ⟨0, by omega, by omega, rfl⟩
      case round =>
        obtain ⟨n, hn, ht, rfl⟩ := hrel
        have HT : Hid (∀ j c, j < n → s.data.toList[j]? = some c → nbI c.toNat = true) := ht
        clear ht
        by_cases hlt : n < s.size
        · have hi : (n : Int) < (s.size : Int) := by omega
          have hb := nameByte_any (s[n].toNat : Int) w
          cases hv : nbI (s[n].toNat : Int)
          · rw [hv] at hb
            have hr : r = false := by
              rw [← HR.out]
              simp only [wordB, Bool.and_eq_false_iff]
              right
              rw [List.all_eq_false]
              exact ⟨s[n], List.mem_of_getElem? (byte_list s n hlt), by rw [hv]; simp⟩
            subst hr
            clear hv
            go_wp2_with (go_at_call 216; refine hb.mono ?_; rintro e w' ⟨rfl, rfl⟩)
            go_ret
            exact ⟨rfl, rfl⟩
          · rw [hv] at hb
            have HV : Hid (nbI (s[n].toNat : Int) = true) := hv
            clear hv
            go_wp2_with (go_at_call 216; refine hb.mono ?_; rintro e w' ⟨rfl, rfl⟩)
            go_round
            case rel => exact ⟨n + 1, by omega, all_succ HT.out hlt HV.out, by go_num⟩
            case measure => simp [intOf]; omega
        · have hr : r = true := by
            rw [← HR.out]
            simp only [wordB, Bool.and_eq_true, decide_eq_true_eq, List.all_eq_true]
            have := HS.out
            refine ⟨⟨by omega, by omega⟩, fun c hc => ?_⟩
            obtain ⟨k, hk⟩ := List.mem_iff_getElem?.1 hc
            have hk' : k < s.data.toList.length := by
              rcases Nat.lt_or_ge k s.data.toList.length with h | h
              · exact h
              · rw [List.getElem?_eq_none h] at hk; cases hk
            exact HT.out k c (by omega) hk
          subst hr
          have hn' : n = s.size := by omega
          subst hn'
          go_wp2
          go_ret
          exact ⟨rfl, rfl⟩

theorem name_any (s : ByteArray) (w : World) (hs : s.size ≤ maxLen) : Calls Tryz.prog 177 #[.string s] w fun e w' => e = .returned (.bool (nameB s.data.toList)) ∧ w' = w := by
  have hw : Calls Tryz.prog 180 #[.string s, .int .i64 8] w fun e w' => e = .returned (.bool (nameB s.data.toList)) ∧ w' = w := word_any s 8 w hs (by omega)
  go_enter Tryz.func177, Tryz.ntmps177
  go_wp2_with (go_at_call 180; refine hw.mono ?_; rintro e w' ⟨rfl, rfl⟩)
  go_ret
  exact ⟨rfl, rfl⟩
end Go.Proofs.YtdhkdjlgmbejnaaGreatDoor
