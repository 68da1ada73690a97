/-
  The contracts of the library that this seat takes, in plain words.
-/
import Derived.Test.YtpkoefpdpoikkaaGreatDoorRowSort
import Derived.Shelf.Abstract
import Derived.Test.YtpkoefpdpoikkaaGreatDoorIntShelf
import Derived.Test.YtpkoefpdpoikkaaGreatDoorDataPure
import Derived.Lib.SlicesCompact
import Derived.Lib.Slices
namespace Go.Proofs.YtpkoefpdpoikkaaGreatDoor
open Go.RowKit Go.Extern.Stop Go.Stop Go.Extern Go.Sort Go.Shelf Go.Lib

set_option maxHeartbeats 1000000 in
theorem less_any (x y : Rw) (w : World) :
    Calls Tryz.prog 167 #[.agg #[.string x.1, .int .i64 x.2.1, .int .i64 x.2.2], .agg #[.string y.1, .int .i64 y.2.1, .int .i64 y.2.2]] w fun e w' => e = .returned (.bool (ltOf cfR x y)) ∧ Below w.heap.size w w' := by
  have ho := order_any x y
  unfold ltOf
  generalize cfR x y = r at ho ⊢
  obtain ⟨xp, xk, xv⟩ := x
  obtain ⟨yp, yk, yv⟩ := y
  dsimp only at ho ⊢
  have hb0 : Below w.heap.size w ((w.alloc (.cells #[.string xp, .int .i64 xk, .int .i64 xv] 41)).alloc (.cells #[.string yp, .int .i64 yk, .int .i64 yv] 41)) := ((Below.refl _ _).alloc (Nat.le_refl _) _).alloc (by simp) _
  go_enter Tryz.func167, Tryz.ntmps167
  go_wp2_with (go_at_call 126; refine (ho _).mono ?_; rintro e w1 ⟨rfl, q, os, hw⟩)
  go_ret
  refine ⟨rfl, ?_⟩
  exact (below_drewN hb0 q).trans ((below_grow os).mono (below_drewN hb0 q).size)

set_option maxHeartbeats 1000000 in
theorem ownRows_any (v : Value) (xs : List Rw) (w : World) (h : RowsAt w v xs) (hl : xs.length ≤ 20000) :
    Calls Tryz.prog 17 #[v] w fun e w' => ∃ v', e = .returned v' ∧ w'.ownsRow w.heap.size 41 3 v' xs.length (flatR xs) ∧ Below w.heap.size w w' := by
  rcases h with ⟨p, c, rfl, rfl⟩ | ⟨b, o, cap, rfl, hc⟩
  · cases p with
    | none =>
      clear hl
      go_enter Tryz.func17, Tryz.ntmps17
      go_wp2
      go_ret
      exact ⟨_, rfl, World.ownsRow_nil _ _ _ _, Below.refl _ _⟩
    | some ad =>
      obtain ⟨i0, hi, hz, hs, hby⟩ := Tryz.rowInfo
      clear hl
      go_enter Tryz.func17, Tryz.ntmps17
      go_wp2_with (at_builtin; refine wpList_append_own _ rfl _ _ 24 rfl w.heap.size 41 i0 (.agg #[.string ⟨#[]⟩, .int .i64 0, .int .i64 0]) 3 32 Tryz.underlying24 hi hz hs hby rfl (by decide) _ _ _ rfl (World.ownsRow_nil w w.heap.size 41 3) ad 0 c [] rfl ?qc1 ?qc2 ?qc3 ?qc4 ?qc5 ?qc6 ?_)
      case qc1 => rfl
      case qc2 => intro j u hj; simp at hj
      case qc3 => intro u hu; cases hu
      case qc4 => decide
      case qc5 => decide
      case qc6 => exact Nat.le_refl _
      intro v' w1 hown hgrow hnil
      go_wp2
      go_ret
      refine ⟨v', rfl, by simpa [flatR] using hown, ?_⟩
      exact (Below.refl _ w).grown hgrow (Nat.le_refl _) (by intro k hk; simp [Value.ownBlock] at hk)
  · obtain ⟨i0, hi, hz, hs, hby⟩ := Tryz.rowInfo
    have A : Hid (RowCells w b o xs) := hc
    clear hc
    generalize hL : xs.length = L at hl ⊢
    have HL : Hid (xs.length = L) := hL
    clear hL
    go_enter Tryz.func17, Tryz.ntmps17
    go_wp2_with (at_builtin; refine wpList_append_own _ rfl _ _ 24 rfl w.heap.size 41 i0 (.agg #[.string ⟨#[]⟩, .int .i64 0, .int .i64 0]) 3 32 Tryz.underlying24 hi hz hs hby rfl (by decide) _ _ _ rfl (World.ownsRow_nil w w.heap.size 41 3) ⟨b, o, none⟩ L cap (flatR xs) rfl ?qc1 ?qc2 ?qc3 ?qc4 ?qc5 ?qc6 ?_)
    case qc1 => rw [flat_len, HL.out]
    case qc2 =>
      intro j u hj
      rw [Addr.add_lit]
      exact cells_of_flat A.out j u hj
    case qc3 => exact flat_one xs
    case qc4 => rw [Nat.zero_add]; unfold maxLen; omega
    case qc5 => rw [Nat.zero_add]; omega
    case qc6 => exact Nat.le_refl _
    intro v' w1 hown hgrow hnil
    go_wp2
    go_ret
    refine ⟨v', rfl, by simpa using hown, ?_⟩
    exact (Below.refl _ w).grown hgrow (Nat.le_refl _) (by intro k hk; simp [Value.ownBlock] at hk)
end Go.Proofs.YtpkoefpdpoikkaaGreatDoor
namespace Go.Proofs.YtpkoefpdpoikkaaGreatDoor
open Go.RowKit Go.Extern.Stop Go.Stop Go.Extern Go.Sort Go.Shelf Go.Lib

theorem own_below {w w' : World} {base : Nat} {e : TypeId} {size : Nat} {v : Value} {n : Nat} {xs : List Value} (h : w.ownsRow base e size v n xs) (hb : Below w.heap.size w w') : w'.ownsRow base e size v n xs := by
  obtain ⟨h1, h2⟩ := h
  refine ⟨h1, ?_⟩
  rcases h2 with h2 | ⟨g, cap, cur, hv, hg, hc, r⟩
  · exact Or.inl h2
  · refine Or.inr ⟨g, cap, cur, hv, hg, ?_, r⟩
    have hlt : g < w.heap.size := by
      rcases Nat.lt_or_ge g w.heap.size with h' | h'
      · exact h'
      · rw [Array.getElem?_eq_none h'] at hc; cases hc
    rw [hb.block g hlt]; exact hc

theorem flat_single (x : Rw) : flatR [x] = encR x := by simp [flatR]

end Go.Proofs.YtpkoefpdpoikkaaGreatDoor
namespace Go.Proofs.YtpkoefpdpoikkaaGreatDoor
open Go.RowKit Go.Extern.Stop Go.Stop Go.Extern Go.Sort Go.Shelf Go.Lib

def KeysAt (w : World) (v : Value) (zs : List Int) : Prop :=
  (∃ p c, v = .slice p 0 c ∧ zs = []) ∨ ∃ b o cap, v = .slice (some ⟨b, o, none⟩) zs.length cap ∧ ∀ j (h : j < zs.length), w.cell? ⟨b, o + j, none⟩ = some (.int .i64 zs[j])

theorem KeysAt.below {w w' : World} {v : Value} {zs : List Int} (h : KeysAt w v zs) (hb : Below w.heap.size w w') : KeysAt w' v zs := by
  rcases h with h | ⟨b, o, cap, hv, hc⟩
  · exact Or.inl h
  · exact Or.inr ⟨b, o, cap, hv, fun j hj => below_keep hb (hc j hj)⟩

theorem getD_of {zs : List Int} {j : Nat} (h : j < zs.length) : zs.getD j 0 = zs[j] := by simp [List.getD, List.getElem?_eq_getElem h]

theorem cloneInts_any (v : Value) (zs : List Int) (w : World) (h : KeysAt w v zs) (hl : zs.length ≤ 20000) :
    Calls Tryz.prog 146 #[v] w fun e w' => ∃ v', e = .returned v' ∧ w'.ownsRow w.heap.size 3 1 v' zs.length (zs.map (Value.int .i64)) ∧ Below w.heap.size w w' := by
  rcases h with ⟨p, c, rfl, rfl⟩ | ⟨b, o, cap, rfl, hc⟩
  · cases p with
    | none =>
      refine (Tryz.slices_Clone_int_nil 0 c w).mono fun e w' ⟨he, hw⟩ => ⟨_, he, World.ownsRow_nil _ _ _ _, ?_⟩
      subst hw; exact Below.refl _ _
    | some ad => exact (Tryz.slices_Clone_int_zero ad c w).mono fun e w' ⟨v', he, ho, _, hb⟩ => ⟨v', he, ho, hb⟩
  · refine (Tryz.slices_Clone_int b o zs.length cap zs w (Nat.le_refl _) (by omega) (fun j hj => by rw [getD_of hj]; exact hc j hj)).mono fun e w' ⟨v', he, ho, _, hb⟩ => ⟨v', he, ?_, hb⟩
    rw [List.take_length] at ho
    exact ho

def sortZ (zs : List Int) : List Int := zs.mergeSort fun x y => decide (x ≤ y)
theorem sortZ_len (zs : List Int) : (sortZ zs).length = zs.length := by simp [sortZ]
theorem sortZ_mem (zs : List Int) (x : Int) : x ∈ sortZ zs ↔ x ∈ zs := (List.mergeSort_perm _ _).mem_iff
theorem sortZ_sorted (zs : List Int) : (sortZ zs).Pairwise (· ≤ ·) := by
  have h := List.pairwise_mergeSort (le := fun x y : Int => decide (x ≤ y)) (fun a b c h1 h2 => by simp at *; omega) (fun a b => by simp; omega) zs
  exact h.imp fun h => by simpa using h

end Go.Proofs.YtpkoefpdpoikkaaGreatDoor
namespace Go.Proofs.YtpkoefpdpoikkaaGreatDoor
open Go.RowKit Go.Extern.Stop Go.Stop Go.Extern Go.Sort Go.Shelf Go.Lib

def riseZ (zs : List Int) : List Int := Lib.compact (sortZ zs)

theorem compact_up (d : Array Int) (hs : ∀ i j, i ≤ j → j < d.size → d[i]! ≤ d[j]!) : ∀ m, m ≤ d.size → (compactUpTo d m).Pairwise (· < ·) ∧ (∀ x, x ∈ compactUpTo d m ↔ ∃ j, j < m ∧ d[j]! = x) ∧ ∀ x ∈ compactUpTo d m, ∀ j, m ≤ j + 1 → j < d.size → x ≤ d[j]! := by
  intro m
  induction m with
  | zero => intro _; exact ⟨by simp [compactUpTo], by simp [compactUpTo], by simp [compactUpTo]⟩
  | succ m ih =>
    intro hm
    obtain ⟨h1, h2, h3⟩ := ih (by omega)
    rw [compactUpTo_succ]
    cases hk : keeps d m with
    | true =>
      simp only [if_true]
      have hlt : ∀ x ∈ compactUpTo d m, x < d[m]! := by
        intro x hx
        have hm0 : m ≠ 0 := by
          intro e; subst e
          obtain ⟨j, hj, _⟩ := (h2 x).1 hx
          omega
        simp only [keeps, decide_eq_true_eq] at hk
        rcases hk with hk | hk
        · exact absurd hk hm0
        · have a1 := h3 x hx (m - 1) (by omega) (by omega)
          have a2 := hs (m - 1) m (by omega) (by omega)
          omega
      refine ⟨List.pairwise_append.2 ⟨h1, List.pairwise_singleton _ _, fun x hx y hy => by rw [List.mem_singleton.1 hy]; exact hlt x hx⟩, fun x => ?_, fun x hx j hj1 hj2 => ?_⟩
      · rw [List.mem_append, List.mem_singleton, h2]
        constructor
        · rintro (⟨j, hj, e⟩ | e)
          · exact ⟨j, by omega, e⟩
          · exact ⟨m, by omega, e.symm⟩
        · rintro ⟨j, hj, e⟩
          rcases Nat.lt_or_ge j m with h | h
          · exact Or.inl ⟨j, h, e⟩
          · have : j = m := by omega
            subst this; exact Or.inr e.symm
      · rw [List.mem_append, List.mem_singleton] at hx
        have hmj := hs m j (by omega) hj2
        rcases hx with hx | hx
        · have := hlt x hx; omega
        · omega
    | false =>
      simp only [Bool.false_eq_true, if_false, List.append_nil]
      simp only [keeps, decide_eq_false_iff_not, not_or, ne_eq, Classical.not_not] at hk
      refine ⟨h1, fun x => ?_, fun x hx j hj1 hj2 => h3 x hx j (by omega) hj2⟩
      rw [h2]
      constructor
      · rintro ⟨j, hj, e⟩; exact ⟨j, by omega, e⟩
      · rintro ⟨j, hj, e⟩
        rcases Nat.lt_or_ge j m with h | h
        · exact ⟨j, h, e⟩
        · have : j = m := by omega
          subst this
          exact ⟨j - 1, by omega, by rw [← e, hk.2]⟩

theorem sortZ_get (zs : List Int) (i j : Nat) (hij : i ≤ j) (hj : j < (sortZ zs).toArray.size) : (sortZ zs).toArray[i]! ≤ (sortZ zs).toArray[j]! := by
  have hj' : j < (sortZ zs).length := by simpa using hj
  rw [getElem!_pos _ i (by omega), getElem!_pos _ j hj]
  simp only [List.getElem_toArray]
  rcases Nat.lt_or_eq_of_le hij with h | h
  · exact List.pairwise_iff_getElem.1 (sortZ_sorted zs) i j (by omega) hj' h
  · subst h; exact Int.le_refl _

theorem rise_sorted (zs : List Int) : (riseZ zs).Pairwise (· < ·) := by
  have h := compact_up (sortZ zs).toArray (sortZ_get zs) (sortZ zs).length (by simp)
  exact h.1
theorem rise_mem (zs : List Int) (x : Int) : x ∈ riseZ zs ↔ x ∈ zs := by
  have h := (compact_up (sortZ zs).toArray (sortZ_get zs) (sortZ zs).length (by simp)).2.1 x
  show x ∈ compactUpTo (sortZ zs).toArray (sortZ zs).length ↔ _
  rw [h, ← sortZ_mem zs x]
  constructor
  · rintro ⟨j, hj, e⟩
    rw [getElem!_pos _ j (by simpa using hj)] at e
    rw [← e]
    simp only [List.getElem_toArray]
    exact List.getElem_mem _
  · intro hx
    obtain ⟨j, hj, e⟩ := List.mem_iff_getElem.1 hx
    exact ⟨j, hj, by rw [getElem!_pos _ j (by simpa using hj)]; simpa using e⟩

theorem rise_unique : ∀ xs ys : List Int, xs.Pairwise (· < ·) → ys.Pairwise (· < ·) → (∀ x, x ∈ xs ↔ x ∈ ys) → xs = ys
  | [], [], _, _, _ => rfl
  | [], y :: ys, _, _, h => absurd ((h y).2 List.mem_cons_self) (by simp)
  | x :: xs, [], _, _, h => absurd ((h x).1 List.mem_cons_self) (by simp)
  | x :: xs, y :: ys, hx, hy, h => by
    obtain ⟨hx1, hx2⟩ := List.pairwise_cons.1 hx
    obtain ⟨hy1, hy2⟩ := List.pairwise_cons.1 hy
    have e : x = y := by
      have a := (h x).1 List.mem_cons_self
      have b := (h y).2 List.mem_cons_self
      rcases List.mem_cons.1 a with a | a
      · exact a
      · rcases List.mem_cons.1 b with b | b
        · exact b.symm
        · have := hx1 y b; have := hy1 x a; omega
    subst e
    rw [rise_unique xs ys hx2 hy2 fun z => ⟨fun hz => by
      rcases List.mem_cons.1 ((h z).1 (List.mem_cons_of_mem _ hz)) with q | q
      · have := hx1 z hz; omega
      · exact q, fun hz => by
      rcases List.mem_cons.1 ((h z).2 (List.mem_cons_of_mem _ hz)) with q | q
      · have := hy1 z hz; omega
      · exact q⟩]

theorem rise_is {xs zs : List Int} (h : xs.Pairwise (· < ·)) (hm : ∀ x, x ∈ xs ↔ x ∈ zs) : riseZ zs = xs :=
  rise_unique _ _ (rise_sorted zs) h fun x => (rise_mem zs x).trans (hm x).symm

theorem rise_len (zs : List Int) : (riseZ zs).length ≤ zs.length := by
  have h : (riseZ zs).length ≤ (sortZ zs).length := by
    unfold riseZ Lib.compact compactUpTo
    rw [List.length_map]
    refine Nat.le_trans (List.length_filter_le _ _) ?_
    simp
  rw [sortZ_len] at h
  exact h

theorem rise_nil : riseZ [] = [] := rise_is List.Pairwise.nil (fun _ => Iff.rfl)

theorem rise_good (zs : List Int) : (riseZ zs).Pairwise (fun x y => goneK.bad y x = false) := (rise_sorted zs).imp fun {a b} h => by
  show decide (b ≤ a) = false
  rw [decide_eq_false_iff_not]; omega

abbrev goneO (s : List UInt8) : List Int × Nat × Option Nat := readG goneK s
abbrev goneF (zs : List Int) : List UInt8 := fileG goneK zs
end Go.Proofs.YtpkoefpdpoikkaaGreatDoor
namespace Go.Proofs.YtpkoefpdpoikkaaGreatDoor
open Go Go.Lib

abbrev Fl := ByteArray × ByteArray × Int × Int × Int × Int

def cntB (n : Int) : Bool := decide (1 ≤ n) && decide (n ≤ 1073741824)

def kindL (g : Bool) : List UInt8 := if g then kGone else kData

def pathN (s : List UInt8) : Option Int := match numO s with
  | some n => if cntB n then some n else none
  | none => none

def pathO (s : List UInt8) : Option (Bool × Int) :=
  if s.take 5 = kData ++ [47] then (pathN (s.drop 5)).map fun n => (false, n) else
  if s.take 5 = kGone ++ [47] then (pathN (s.drop 5)).map fun n => (true, n) else none

theorem num_nil : numO [] = none := by
  cases h : numO [] with
  | none => rfl
  | some n =>
    have := (numO_spelt h).1
    unfold itoa at this
    split at this
    · cases this
    · exact absurd this (digits_ne _)

theorem take_kind (k w : List UInt8) (hk : k.length = 4) : (k ++ 47 :: w).take 5 = k ++ [47] ∧ (k ++ 47 :: w).drop 5 = w := by
  have e : k ++ 47 :: w = (k ++ [47]) ++ w := by simp
  have hl : (k ++ [47]).length = 5 := by simp [hk]
  rw [e]
  exact ⟨by rw [← hl, List.take_left], by rw [← hl, List.drop_left]⟩

theorem path_of (g : Bool) (w : List UInt8) : pathO (kindL g ++ 47 :: w) = (pathN w).map fun n => (g, n) := by
  obtain ⟨h1, h2⟩ := take_kind (kindL g) w (by cases g <;> rfl)
  unfold pathO
  rw [h1, h2]
  cases g
  · rw [if_pos (show kindL false ++ [47] = kData ++ [47] from rfl)]
  · rw [if_neg (by decide), if_pos (show kindL true ++ [47] = kGone ++ [47] from rfl)]

theorem path_some {s : List UInt8} {g : Bool} {n : Int} (h : pathO s = some (g, n)) : s = kindL g ++ 47 :: itoa n ∧ numO (itoa n) = some n ∧ cntB n = true := by
  have key : ∀ (k : List UInt8) (b : Bool), s.take 5 = k ++ [47] → (pathN (s.drop 5)).map (fun m => (b, m)) = some (g, n) → b = g ∧ s = k ++ 47 :: itoa n ∧ numO (itoa n) = some n ∧ cntB n = true := fun k b hk hp => by
    obtain ⟨m, hm, he⟩ := Option.map_eq_some_iff.1 hp
    simp only [Prod.mk.injEq] at he
    obtain ⟨rfl, rfl⟩ := he
    unfold pathN at hm
    split at hm
    · rename_i x hx
      split at hm
      · rename_i hc
        obtain rfl := Option.some.inj hm
        have hsp := (numO_spelt hx).1
        refine ⟨rfl, ?_, by rw [hsp]; exact hx, hc⟩
        rw [hsp]
        conv => lhs; rw [← List.take_append_drop 5 s, hk]
        simp
      · cases hm
    · cases hm
  unfold pathO at h
  split at h
  · rename_i hk
    obtain ⟨rfl, h'⟩ := key _ _ hk h
    exact h'
  · split at h
    · rename_i hk
      obtain ⟨rfl, h'⟩ := key _ _ hk h
      exact h'
    · cases h

theorem path_cut (s : List UInt8) : pathO s = if (Lib.cut s [47]).1 = kData then (pathN (Lib.cut s [47]).2.1).map fun n => (false, n) else
    if (Lib.cut s [47]).1 = kGone then (pathN (Lib.cut s [47]).2.1).map fun n => (true, n) else none := by
  rcases cut_cases 47 s with ⟨hn, hc⟩ | ⟨a, b, rfl, hn, hc⟩
  · rw [hc]
    have hp : pathN [] = none := by unfold pathN; rw [num_nil]
    have hnone : pathO s = none := by
      cases h : pathO s with
      | none => rfl
      | some p =>
        obtain ⟨g, n⟩ := p
        have := (path_some h).1
        exact absurd rfl (hn 47 (by rw [this]; simp))
    rw [hnone]
    dsimp only
    rw [hp]
    split
    · rfl
    · split <;> rfl
  · rw [hc]
    dsimp only
    by_cases h1 : a = kData
    · subst h1
      rw [if_pos rfl]
      exact path_of false b
    · rw [if_neg h1]
      by_cases h2 : a = kGone
      · subst h2
        rw [if_pos rfl]
        exact path_of true b
      · rw [if_neg h2]
        cases h : pathO (a ++ 47 :: b) with
        | none => rfl
        | some p =>
          obtain ⟨g, n⟩ := p
          have e := (path_some h).1
          have hk : ∀ c ∈ kindL g, c ≠ 47 := by cases g <;> decide
          have e1 := cut_at 47 a b hn
          rw [e, cut_at 47 _ _ hk] at e1
          simp only [Prod.mk.injEq, and_true] at e1
          cases g
          · exact absurd e1.1.symm h1
          · exact absurd e1.1.symm h2

def pathR (s : List UInt8) : List UInt8 × Int × Nat := match pathO s with
  | some (g, n) => (kindL g, n, 0)
  | none => ([], 0, 5)

def partB (g : Bool) (s : List UInt8) : Bool := if g then decide (s = [45]) else wordB 12 s

def bndB (f : Fl) : Bool := decide (1 ≤ f.2.2.1) && decide (f.2.2.1 ≤ 40) && inNum f.2.2.2.1 && inNum f.2.2.2.2.1 && decide (f.2.2.2.1 ≤ f.2.2.2.2.1) && cntB f.2.2.2.2.2

def fileE (f : Fl) : Nat := match pathO f.1.data.toList with
  | none => 5
  | some (g, _) => if partB g f.2.1.data.toList then (if bndB f then 0 else 2) else 4

def fileL (f : Fl) : List UInt8 := f.1.data.toList ++ 32 :: (f.2.1.data.toList ++ 32 :: (itoa f.2.2.1 ++ 32 :: (itoa f.2.2.2.1 ++ 32 :: (itoa f.2.2.2.2.1 ++ 32 :: itoa f.2.2.2.2.2))))

def fileB (f : Fl) : ByteArray := if fileE f = 0 then bytesOf (fileL f) else bytesOf []

def zeroF : Fl := (bytesOf [], bytesOf [], 0, 0, 0, 0)

def chkF (f : Fl) : Fl × Nat := if fileE f = 0 then (f, 0) else (zeroF, fileE f)

def readF (s : List UInt8) : Fl × Nat := match words s with
  | [p, q, a, b, c, d] => (match numO a, numO b, numO c, numO d with
    | some n, some lo, some hi, some seq => chkF (bytesOf p, bytesOf q, n, lo, hi, seq)
    | _, _, _, _ => (zeroF, 1))
  | _ => (zeroF, 1)

def keysF (g : Bool) (s : List UInt8) : List Int × Nat := if g then ((goneO s).1, (goneO s).2.1) else (keysR (dataO s).1, (dataO s).2.1)

def ofF (path part : ByteArray) (s : List UInt8) (seq : Int) : Fl × Nat := match pathO path.data.toList with
  | none => (zeroF, 5)
  | some (g, _) => if (keysF g s).2 = 0 then chkF (path, part, (keysF g s).1.length, (endsZ (keysF g s).1).1, (endsZ (keysF g s).1).2, seq) else (zeroF, (keysF g s).2)

theorem file_good {f : Fl} (h : fileE f = 0) : ∃ g n, pathO f.1.data.toList = some (g, n) ∧ partB g f.2.1.data.toList = true ∧ bndB f = true := by
  unfold fileE at h
  split at h
  · cases h
  · rename_i g n hp
    split at h
    · rename_i hq
      split at h
      · rename_i hb
        exact ⟨g, n, hp, hq, hb⟩
      · cases h
    · cases h

theorem cnt_in {n : Int} (h : cntB n = true) : inNum n = true := by
  simp only [cntB, inNum, Bool.and_eq_true, decide_eq_true_eq] at h ⊢
  omega

theorem bnd_nums {f : Fl} (h : bndB f = true) : inNum f.2.2.1 = true ∧ inNum f.2.2.2.1 = true ∧ inNum f.2.2.2.2.1 = true ∧ inNum f.2.2.2.2.2 = true := by
  simp only [bndB, Bool.and_eq_true] at h
  refine ⟨?_, h.1.1.1.2, h.1.1.2, cnt_in h.2⟩
  have h1 := h.1.1.1.1
  simp only [decide_eq_true_eq] at h1
  simp only [inNum, Bool.and_eq_true, decide_eq_true_eq]
  omega

theorem path_no_blank {s : List UInt8} {g : Bool} {n : Int} (h : pathO s = some (g, n)) : ∀ c ∈ s, c ≠ 32 := by
  intro c hc
  rw [(path_some h).1, List.mem_append, List.mem_cons] at hc
  rcases hc with hc | rfl | hc
  · exact (show ∀ c ∈ kindL g, c ≠ 32 by cases g <;> decide) c hc
  · decide
  · exact itoa_no_blank n c hc

theorem part_no_blank {s : List UInt8} {g : Bool} (h : partB g s = true) : ∀ c ∈ s, c ≠ 32 := by
  unfold partB at h
  cases g
  · exact word_no_blank (by simpa using h)
  · simp only [if_true, decide_eq_true_eq] at h
    subst h
    decide

theorem file_words {f : Fl} (h : fileE f = 0) : words (fileL f) = [f.1.data.toList, f.2.1.data.toList, itoa f.2.2.1, itoa f.2.2.2.1, itoa f.2.2.2.2.1, itoa f.2.2.2.2.2] := by
  obtain ⟨g, n, hp, hq, _⟩ := file_good h
  unfold fileL
  rw [words_append _ _ (path_no_blank hp), words_append _ _ (part_no_blank hq), words_append _ _ (itoa_no_blank _), words_append _ _ (itoa_no_blank _), words_append _ _ (itoa_no_blank _), words_none _ (itoa_no_blank _)]

theorem readF_text {f : Fl} (h : fileE f = 0) : readF (fileL f) = (f, 0) := by
  obtain ⟨g, n, hp, hq, hb⟩ := file_good h
  obtain ⟨b1, b2, b3, b4⟩ := bnd_nums hb
  unfold readF
  rw [file_words h]
  dsimp only
  rw [numO_itoa _ b1, numO_itoa _ b2, numO_itoa _ b3, numO_itoa _ b4, bytesOf_data, bytesOf_data]
  dsimp only
  unfold chkF
  have e : ((f.1, f.2.1, f.2.2.1, f.2.2.2.1, f.2.2.2.2.1, f.2.2.2.2.2) : Fl) = f := rfl
  rw [e, if_pos h]

theorem min_ends {zs : List Int} (h : zs ≠ []) : Lib.minOf zs = (endsZ zs).1 ∧ Lib.maxOf zs = (endsZ zs).2 := by
  have f1 : ∀ (r : List Int) (z : Int), r.foldl min z = r.foldl (fun a k => if k < a then k else a) z := fun r => by
    induction r with
    | nil => intro z; rfl
    | cons k r ih =>
      intro z
      rw [List.foldl_cons, List.foldl_cons, ih]
      congr 1
      rw [Int.min_def]
      split <;> split <;> omega
  have f2 : ∀ (r : List Int) (z : Int), r.foldl max z = r.foldl (fun a k => if a < k then k else a) z := fun r => by
    induction r with
    | nil => intro z; rfl
    | cons k r ih =>
      intro z
      rw [List.foldl_cons, List.foldl_cons, ih]
      congr 1
      rw [Int.max_def]
      split <;> split <;> omega
  cases zs with
  | nil => exact absurd rfl h
  | cons z r =>
    unfold Lib.minOf Lib.maxOf
    simp only [List.headD_cons, List.foldl_cons, Int.min_self, Int.max_self]
    exact ⟨f1 r z, f2 r z⟩
end Go.Proofs.YtpkoefpdpoikkaaGreatDoor
namespace Go.Proofs
open Go.Shelf
def Tryz.lays169_ren : Go.Shelf.Ren := ⟨fun | 169 => 90 | n => n, fun | 70 => 128 | 9 => 9 | 0 => 0 | 72 => 130 | 37 => 81 | 127 => 178 | 3 => 3 | 5 => 5 | n => n, fun | n => n⟩
theorem Tryz.lays169 : Go.Proofs.Lays.n169 Tryz.prog Tryz.lays169_ren := {
  mixed := by kernel_rfl
  f169 := Tryz.func90.trans (congrArg some (by kernel_rfl))
  t0 := Tryz.underlying0
  a0 := Tryz.isAgg0
  z0 := Tryz.sizeOf0
  v0 := Tryz.zeroValue0
  t3 := Tryz.underlying3
  a3 := Tryz.isAgg3
  z3 := Tryz.sizeOf3
  v3 := Tryz.zeroValue3
  t9 := Tryz.underlying9
  a9 := Tryz.isAgg9
  z9 := Tryz.sizeOf9
  v9 := Tryz.zeroValue9
  t37 := Tryz.underlying81
  a37 := Tryz.isAgg81
  z37 := Tryz.sizeOf81
  v37 := Tryz.zeroValue81
  t70 := Tryz.underlying128
  a70 := Tryz.isAgg128
  z70 := Tryz.sizeOf128
  v70 := Tryz.zeroValue128
  t72 := Tryz.underlying130
  a72 := Tryz.isAgg130
  z72 := Tryz.sizeOf130
  v72 := Tryz.zeroValue130
  t127 := Tryz.underlying178
  a127 := Tryz.isAgg178
  z127 := Tryz.sizeOf178
  v127 := Tryz.zeroValue178 }
theorem Tryz.Builder_Extra_169 : Builder.Extra Tryz.prog Tryz.lays169_ren := {
  sizeBuilder := by kernel_rfl
  liesBuilder := by kernel_rfl
  t5 := Tryz.underlying5
  a5 := Tryz.isAgg5
  z5 := Tryz.sizeOf5
  v5 := Tryz.zeroValue5
  infoByte := by kernel_rfl
  cellsByte := by kernel_rfl
  sizeByte := by kernel_rfl
  neB5 := by decide }
open Go.RowKit in
theorem Tryz.Builder_String_any (B b : Nat) (l : List UInt8) (w : World) (h : Lib.IsBuilder 130 5 B b (Lib.byteCells l) w) (hBw : B ≤ w.heap.size) :
    Calls Tryz.prog 90 #[.pointer (some ⟨b, 0, none⟩)] w fun e w' => e = .returned (.string ⟨l.toArray⟩) ∧ Below B w w' := Any.Builder_String_any Tryz.lays169 Tryz.Builder_Extra_169 B b l w h hBw
def Tryz.lays156_ren : Go.Shelf.Ren := ⟨fun | 156 => 62 | 165 => 117 | 166 => 89 | 169 => 90 | 240 => 136 | 241 => 151 | 276 => 176 | 277 => 186 | n => n, fun | 31 => 97 | 9 => 9 | 3 => 3 | 4 => 4 | 0 => 0 | 20 => 20 | 72 => 130 | 76 => 131 | 70 => 128 | 37 => 81 | 75 => 29 | 127 => 178 | 164 => 203 | 5 => 5 | 80 => 133 | n => n, fun | n => n⟩
theorem Tryz.lays156 : Go.Proofs.Lays.n156 Tryz.prog Tryz.lays156_ren := {
  mixed := by kernel_rfl
  f156 := Tryz.func62.trans (congrArg some (by kernel_rfl))
  f165 := Tryz.func117.trans (congrArg some (by kernel_rfl))
  f166 := Tryz.func89.trans (congrArg some (by kernel_rfl))
  f169 := Tryz.func90.trans (congrArg some (by kernel_rfl))
  f240 := Tryz.func136.trans (congrArg some (by kernel_rfl))
  f241 := Tryz.func151.trans (congrArg some (by kernel_rfl))
  f276 := Tryz.func176.trans (congrArg some (by kernel_rfl))
  f277 := Tryz.func186.trans (congrArg some (by kernel_rfl))
  t0 := Tryz.underlying0
  a0 := Tryz.isAgg0
  z0 := Tryz.sizeOf0
  v0 := Tryz.zeroValue0
  t3 := Tryz.underlying3
  a3 := Tryz.isAgg3
  z3 := Tryz.sizeOf3
  v3 := Tryz.zeroValue3
  t4 := Tryz.underlying4
  a4 := Tryz.isAgg4
  z4 := Tryz.sizeOf4
  v4 := Tryz.zeroValue4
  t9 := Tryz.underlying9
  a9 := Tryz.isAgg9
  z9 := Tryz.sizeOf9
  v9 := Tryz.zeroValue9
  t20 := Tryz.underlying20
  a20 := Tryz.isAgg20
  z20 := Tryz.sizeOf20
  v20 := Tryz.zeroValue20
  t31 := Tryz.underlying97
  a31 := Tryz.isAgg97
  z31 := Tryz.sizeOf97
  v31 := Tryz.zeroValue97
  t37 := Tryz.underlying81
  a37 := Tryz.isAgg81
  z37 := Tryz.sizeOf81
  v37 := Tryz.zeroValue81
  t70 := Tryz.underlying128
  a70 := Tryz.isAgg128
  z70 := Tryz.sizeOf128
  v70 := Tryz.zeroValue128
  t72 := Tryz.underlying130
  a72 := Tryz.isAgg130
  z72 := Tryz.sizeOf130
  v72 := Tryz.zeroValue130
  t75 := Tryz.underlying29
  a75 := Tryz.isAgg29
  z75 := Tryz.sizeOf29
  v75 := Tryz.zeroValue29
  t76 := Tryz.underlying131
  a76 := Tryz.isAgg131
  z76 := Tryz.sizeOf131
  v76 := Tryz.zeroValue131
  t127 := Tryz.underlying178
  a127 := Tryz.isAgg178
  z127 := Tryz.sizeOf178
  v127 := Tryz.zeroValue178
  t164 := Tryz.underlying203
  a164 := Tryz.isAgg203
  z164 := Tryz.sizeOf203
  v164 := Tryz.zeroValue203 }
theorem Tryz.Builder_Extra_156 : Builder.Extra Tryz.prog Tryz.lays156_ren := {
  sizeBuilder := by kernel_rfl
  liesBuilder := by kernel_rfl
  t5 := Tryz.underlying5
  a5 := Tryz.isAgg5
  z5 := Tryz.sizeOf5
  v5 := Tryz.zeroValue5
  infoByte := by kernel_rfl
  cellsByte := by kernel_rfl
  sizeByte := by kernel_rfl
  neB5 := by decide }
open Go.RowKit in
theorem Tryz.strings_Join (bk o c : Nat) (xs : List ByteArray) (sep : ByteArray) (w : World) (hcells : ∀ (j : Nat) x, xs[j]? = some x → w.cell? ⟨bk, o + j, none⟩ = some (.string x)) (hbk : bk < w.heap.size) (hN : xs.length ≤ 140737488355328) (hcap : xs.length ≤ c) (hlen : (Lib.join (xs.map (·.data.toList)) sep.data.toList).length ≤ 140737488355328) :
    Calls Tryz.prog 62 #[.slice (some ⟨bk, o, none⟩) xs.length c, .string sep] w fun e w' => e = .returned (.string ⟨(Lib.join (xs.map (·.data.toList)) sep.data.toList).toArray⟩) ∧ Below w.heap.size w w' := Any.strings_Join Tryz.lays156 Tryz.Builder_Extra_156 bk o c xs sep w hcells hbk hN hcap hlen
end Go.Proofs
