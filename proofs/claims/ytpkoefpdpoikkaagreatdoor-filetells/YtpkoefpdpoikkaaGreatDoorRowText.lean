/-
  The contracts of row.Name, row.Check, row.Number, row.Text and row.Read.
-/
import Derived.Test.YtpkoefpdpoikkaaGreatDoorGonePure
import Derived.Lib.Slices
import Derived.Shelf.SlSortCmp.QuietGrown
namespace Go.Proofs.YtpkoefpdpoikkaaGreatDoor
open Go Go.Lib

abbrev Fl := ByteArray × ByteArray × Int × Int × Int × Int

def cntB (n : Int) : Bool := decide (1 ≤ n) && decide (n ≤ 1073741824)

def kindL (g : Bool) : List UInt8 := if g then kGone else kData

def pathN (s : List UInt8) : Option Int := match numO s with
  | some n => if cntB n then some n else none
  | none => none

def pathO (s : List UInt8) : Option (Bool × Int) :=
  if s.take 5 = kData ++ [47] then (pathN (s.drop 5)).map fun n => (false, n) else
  if s.take 5 = kGone ++ [47] then (pathN (s.drop 5)).map fun n => (true, n) else none

theorem num_nil : numO [] = none := by
  cases h : numO [] with
  | none => rfl
  | some n =>
    have := (numO_spelt h).1
    unfold itoa at this
    split at this
    · cases this
    · exact absurd this (digits_ne _)

theorem take_kind (k w : List UInt8) (hk : k.length = 4) : (k ++ 47 :: w).take 5 = k ++ [47] ∧ (k ++ 47 :: w).drop 5 = w := by
  have e : k ++ 47 :: w = (k ++ [47]) ++ w := by simp
  have hl : (k ++ [47]).length = 5 := by simp [hk]
  rw [e]
  exact ⟨by rw [← hl, List.take_left], by rw [← hl, List.drop_left]⟩

theorem path_of (g : Bool) (w : List UInt8) : pathO (kindL g ++ 47 :: w) = (pathN w).map fun n => (g, n) := by
  obtain ⟨h1, h2⟩ := take_kind (kindL g) w (by cases g <;> rfl)
  unfold pathO
  rw [h1, h2]
  cases g
  · rw [if_pos (show kindL false ++ [47] = kData ++ [47] from rfl)]
  · rw [if_neg (by decide), if_pos (show kindL true ++ [47] = kGone ++ [47] from rfl)]

theorem path_some {s : List UInt8} {g : Bool} {n : Int} (h : pathO s = some (g, n)) : s = kindL g ++ 47 :: itoa n ∧ numO (itoa n) = some n ∧ cntB n = true := by
  have key : ∀ (k : List UInt8) (b : Bool), s.take 5 = k ++ [47] → (pathN (s.drop 5)).map (fun m => (b, m)) = some (g, n) → b = g ∧ s = k ++ 47 :: itoa n ∧ numO (itoa n) = some n ∧ cntB n = true := fun k b hk hp => by
    obtain ⟨m, hm, he⟩ := Option.map_eq_some_iff.1 hp
    simp only [Prod.mk.injEq] at he
    obtain ⟨rfl, rfl⟩ := he
    unfold pathN at hm
    split at hm
    · rename_i x hx
      split at hm
      · rename_i hc
        obtain rfl := Option.some.inj hm
        have hsp := (numO_spelt hx).1
        refine ⟨rfl, ?_, by rw [hsp]; exact hx, hc⟩
        rw [hsp]
        conv => lhs; rw [← List.take_append_drop 5 s, hk]
        simp
      · cases hm
    · cases hm
  unfold pathO at h
  split at h
  · rename_i hk
    obtain ⟨rfl, h'⟩ := key _ _ hk h
    exact h'
  · split at h
    · rename_i hk
      obtain ⟨rfl, h'⟩ := key _ _ hk h
      exact h'
    · cases h

theorem path_cut (s : List UInt8) : pathO s = if (Lib.cut s [47]).1 = kData then (pathN (Lib.cut s [47]).2.1).map fun n => (false, n) else
    if (Lib.cut s [47]).1 = kGone then (pathN (Lib.cut s [47]).2.1).map fun n => (true, n) else none := by
  rcases cut_cases 47 s with ⟨hn, hc⟩ | ⟨a, b, rfl, hn, hc⟩
  · rw [hc]
    have hp : pathN [] = none := by unfold pathN; rw [num_nil]
    have hnone : pathO s = none := by
      cases h : pathO s with
      | none => rfl
      | some p =>
        obtain ⟨g, n⟩ := p
        have := (path_some h).1
        exact absurd rfl (hn 47 (by rw [this]; simp))
    rw [hnone]
    dsimp only
    rw [hp]
    split
    · rfl
    · split <;> rfl
  · rw [hc]
    dsimp only
    by_cases h1 : a = kData
    · subst h1
      rw [if_pos rfl]
      exact path_of false b
    · rw [if_neg h1]
      by_cases h2 : a = kGone
      · subst h2
        rw [if_pos rfl]
        exact path_of true b
      · rw [if_neg h2]
        cases h : pathO (a ++ 47 :: b) with
        | none => rfl
        | some p =>
          obtain ⟨g, n⟩ := p
          have e := (path_some h).1
          have hk : ∀ c ∈ kindL g, c ≠ 47 := by cases g <;> decide
          have e1 := cut_at 47 a b hn
          rw [e, cut_at 47 _ _ hk] at e1
          simp only [Prod.mk.injEq, and_true] at e1
          cases g
          · exact absurd e1.1.symm h1
          · exact absurd e1.1.symm h2

theorem path_parts {s : List UInt8} (h : 6 ≤ s.length) : pathO s = if (s.take 4 = kData ∨ s.take 4 = kGone) ∧ s[4]? = some 47 then (pathN (s.drop 5)).map fun n => (decide (s.take 4 = kGone), n) else none := by
  have ht : ∀ k : List UInt8, k.length = 4 → (s.take 5 = k ++ [47] ↔ s.take 4 = k ∧ s[4]? = some 47) := fun k hk => by
    have e5 : s.take 5 = s.take 4 ++ [s[4]'(by omega)] := by rw [List.take_succ_eq_append_getElem (by omega)]
    rw [e5, List.getElem?_eq_getElem (by omega : 4 < s.length)]
    have hl : (s.take 4).length = k.length := by rw [List.length_take, hk]; omega
    constructor
    · intro e
      obtain ⟨e1, e2⟩ := List.append_inj e hl
      exact ⟨e1, by rw [List.singleton_inj.1 e2]⟩
    · rintro ⟨e1, e2⟩
      rw [e1, Option.some.inj e2]
  unfold pathO
  have d1 := ht kData rfl
  have d2 := ht kGone rfl
  by_cases h1 : s.take 5 = kData ++ [47]
  · have e1 := d1.1 h1
    rw [if_pos h1, if_pos ⟨Or.inl e1.1, e1.2⟩, e1.1]
    rfl
  · rw [if_neg h1]
    by_cases h2 : s.take 5 = kGone ++ [47]
    · have e2 := d2.1 h2
      rw [if_pos h2, if_pos ⟨Or.inr e2.1, e2.2⟩, e2.1]
      rfl
    · rw [if_neg h2, if_neg]
      rintro ⟨e | e, e'⟩
      · exact h1 (d1.2 ⟨e, e'⟩)
      · exact h2 (d2.2 ⟨e, e'⟩)

theorem path_short {s : List UInt8} (h : s.length < 6) : pathO s = none := by
  have e : s.drop 5 = [] := by rw [List.drop_eq_nil_iff]; omega
  have hp : pathN [] = none := by unfold pathN; rw [num_nil]
  unfold pathO
  rw [e, hp]
  split
  · rfl
  · split <;> rfl

def pathR (s : List UInt8) : List UInt8 × Int × Nat := match pathO s with
  | some (g, n) => (kindL g, n, 0)
  | none => ([], 0, 5)

def partB (g : Bool) (s : List UInt8) : Bool := if g then decide (s = [45]) else wordB 12 s

def bndB (f : Fl) : Bool := decide (1 ≤ f.2.2.1) && decide (f.2.2.1 ≤ 40) && inNum f.2.2.2.1 && inNum f.2.2.2.2.1 && decide (f.2.2.2.1 ≤ f.2.2.2.2.1) && cntB f.2.2.2.2.2

def fileE (f : Fl) : Nat := match pathO f.1.data.toList with
  | none => 5
  | some (g, _) => if partB g f.2.1.data.toList then (if bndB f then 0 else 2) else 4

def fileL (f : Fl) : List UInt8 := f.1.data.toList ++ 32 :: (f.2.1.data.toList ++ 32 :: (itoa f.2.2.1 ++ 32 :: (itoa f.2.2.2.1 ++ 32 :: (itoa f.2.2.2.2.1 ++ 32 :: itoa f.2.2.2.2.2))))

def fileB (f : Fl) : ByteArray := if fileE f = 0 then bytesOf (fileL f) else bytesOf []

def zeroF : Fl := (bytesOf [], bytesOf [], 0, 0, 0, 0)

def chkF (f : Fl) : Fl × Nat := if fileE f = 0 then (f, 0) else (zeroF, fileE f)

def readF (s : List UInt8) : Fl × Nat := match words s with
  | [p, q, a, b, c, d] => (match numO a, numO b, numO c, numO d with
    | some n, some lo, some hi, some seq => chkF (bytesOf p, bytesOf q, n, lo, hi, seq)
    | _, _, _, _ => (zeroF, 1))
  | _ => (zeroF, 1)

def keysF (g : Bool) (s : List UInt8) : List Int × Nat := if g then ((goneO s).1, (goneO s).2.1) else (keysR (dataO s).1, (dataO s).2.1)

def ofF (path part : ByteArray) (s : List UInt8) (seq : Int) : Fl × Nat := match pathO path.data.toList with
  | none => (zeroF, 5)
  | some (g, _) => if (keysF g s).2 = 0 then chkF (path, part, (keysF g s).1.length, (endsZ (keysF g s).1).1, (endsZ (keysF g s).1).2, seq) else (zeroF, (keysF g s).2)

theorem fileE_le (f : Fl) : fileE f ≤ 5 := by
  unfold fileE
  split
  · omega
  · split
    · split <;> omega
    · omega

theorem file_good {f : Fl} (h : fileE f = 0) : ∃ g n, pathO f.1.data.toList = some (g, n) ∧ partB g f.2.1.data.toList = true ∧ bndB f = true := by
  unfold fileE at h
  split at h
  · cases h
  · rename_i g n hp
    split at h
    · rename_i hq
      split at h
      · rename_i hb
        exact ⟨g, n, hp, hq, hb⟩
      · cases h
    · cases h

theorem cnt_in {n : Int} (h : cntB n = true) : inNum n = true := by
  simp only [cntB, inNum, Bool.and_eq_true, decide_eq_true_eq] at h ⊢
  omega

theorem bnd_nums {f : Fl} (h : bndB f = true) : inNum f.2.2.1 = true ∧ inNum f.2.2.2.1 = true ∧ inNum f.2.2.2.2.1 = true ∧ inNum f.2.2.2.2.2 = true := by
  simp only [bndB, Bool.and_eq_true] at h
  refine ⟨?_, h.1.1.1.2, h.1.1.2, cnt_in h.2⟩
  have h1 := h.1.1.1.1
  simp only [decide_eq_true_eq] at h1
  simp only [inNum, Bool.and_eq_true, decide_eq_true_eq]
  omega

theorem min_ends {zs : List Int} (h : zs ≠ []) : Lib.minOf zs = (endsZ zs).1 ∧ Lib.maxOf zs = (endsZ zs).2 := by
  have f1 : ∀ (r : List Int) (z : Int), r.foldl min z = r.foldl (fun a k => if k < a then k else a) z := fun r => by
    induction r with
    | nil => intro z; rfl
    | cons k r ih =>
      intro z
      rw [List.foldl_cons, List.foldl_cons, ih]
      congr 1
      rw [Int.min_def]
      split <;> split <;> omega
  have f2 : ∀ (r : List Int) (z : Int), r.foldl max z = r.foldl (fun a k => if a < k then k else a) z := fun r => by
    induction r with
    | nil => intro z; rfl
    | cons k r ih =>
      intro z
      rw [List.foldl_cons, List.foldl_cons, ih]
      congr 1
      rw [Int.max_def]
      split <;> split <;> omega
  cases zs with
  | nil => exact absurd rfl h
  | cons z r =>
    unfold Lib.minOf Lib.maxOf
    simp only [List.headD_cons, List.foldl_cons, Int.min_self, Int.max_self]
    exact ⟨f1 r z, f2 r z⟩
end Go.Proofs.YtpkoefpdpoikkaaGreatDoor
namespace Go.Proofs
open Go.Shelf
def Tryz.lays169_ren : Go.Shelf.Ren := ⟨fun | 169 => 90 | n => n, fun | 70 => 128 | 9 => 9 | 0 => 0 | 72 => 130 | 37 => 81 | 127 => 178 | 3 => 3 | 5 => 5 | n => n, fun | n => n⟩
theorem Tryz.lays169 : Go.Proofs.Lays.n169 Tryz.prog Tryz.lays169_ren := {
  mixed := by kernel_rfl
  f169 := Tryz.func90.trans (congrArg some (by kernel_rfl))
  t0 := Tryz.underlying0
  a0 := Tryz.isAgg0
  z0 := Tryz.sizeOf0
  v0 := Tryz.zeroValue0
  t3 := Tryz.underlying3
  a3 := Tryz.isAgg3
  z3 := Tryz.sizeOf3
  v3 := Tryz.zeroValue3
  t9 := Tryz.underlying9
  a9 := Tryz.isAgg9
  z9 := Tryz.sizeOf9
  v9 := Tryz.zeroValue9
  t37 := Tryz.underlying81
  a37 := Tryz.isAgg81
  z37 := Tryz.sizeOf81
  v37 := Tryz.zeroValue81
  t70 := Tryz.underlying128
  a70 := Tryz.isAgg128
  z70 := Tryz.sizeOf128
  v70 := Tryz.zeroValue128
  t72 := Tryz.underlying130
  a72 := Tryz.isAgg130
  z72 := Tryz.sizeOf130
  v72 := Tryz.zeroValue130
  t127 := Tryz.underlying178
  a127 := Tryz.isAgg178
  z127 := Tryz.sizeOf178
  v127 := Tryz.zeroValue178 }
theorem Tryz.Builder_Extra_169 : Builder.Extra Tryz.prog Tryz.lays169_ren := {
  sizeBuilder := by kernel_rfl
  liesBuilder := by kernel_rfl
  t5 := Tryz.underlying5
  a5 := Tryz.isAgg5
  z5 := Tryz.sizeOf5
  v5 := Tryz.zeroValue5
  infoByte := by kernel_rfl
  cellsByte := by kernel_rfl
  sizeByte := by kernel_rfl
  neB5 := by decide }
open Go.RowKit in
theorem Tryz.Builder_String_any (B b : Nat) (l : List UInt8) (w : World) (h : Lib.IsBuilder 130 5 B b (Lib.byteCells l) w) (hBw : B ≤ w.heap.size) :
    Calls Tryz.prog 90 #[.pointer (some ⟨b, 0, none⟩)] w fun e w' => e = .returned (.string ⟨l.toArray⟩) ∧ Below B w w' := Any.Builder_String_any Tryz.lays169 Tryz.Builder_Extra_169 B b l w h hBw
def Tryz.lays156_ren : Go.Shelf.Ren := ⟨fun | 156 => 62 | 165 => 117 | 166 => 89 | 169 => 90 | 240 => 136 | 241 => 151 | 276 => 176 | 277 => 186 | n => n, fun | 31 => 97 | 9 => 9 | 3 => 3 | 4 => 4 | 0 => 0 | 20 => 20 | 72 => 130 | 76 => 131 | 70 => 128 | 37 => 81 | 75 => 29 | 127 => 178 | 164 => 203 | 5 => 5 | 80 => 133 | n => n, fun | n => n⟩
theorem Tryz.lays156 : Go.Proofs.Lays.n156 Tryz.prog Tryz.lays156_ren := {
  mixed := by kernel_rfl
  f156 := Tryz.func62.trans (congrArg some (by kernel_rfl))
  f165 := Tryz.func117.trans (congrArg some (by kernel_rfl))
  f166 := Tryz.func89.trans (congrArg some (by kernel_rfl))
  f169 := Tryz.func90.trans (congrArg some (by kernel_rfl))
  f240 := Tryz.func136.trans (congrArg some (by kernel_rfl))
  f241 := Tryz.func151.trans (congrArg some (by kernel_rfl))
  f276 := Tryz.func176.trans (congrArg some (by kernel_rfl))
  f277 := Tryz.func186.trans (congrArg some (by kernel_rfl))
  t0 := Tryz.underlying0
  a0 := Tryz.isAgg0
  z0 := Tryz.sizeOf0
  v0 := Tryz.zeroValue0
  t3 := Tryz.underlying3
  a3 := Tryz.isAgg3
  z3 := Tryz.sizeOf3
  v3 := Tryz.zeroValue3
  t4 := Tryz.underlying4
  a4 := Tryz.isAgg4
  z4 := Tryz.sizeOf4
  v4 := Tryz.zeroValue4
  t9 := Tryz.underlying9
  a9 := Tryz.isAgg9
  z9 := Tryz.sizeOf9
  v9 := Tryz.zeroValue9
  t20 := Tryz.underlying20
  a20 := Tryz.isAgg20
  z20 := Tryz.sizeOf20
  v20 := Tryz.zeroValue20
  t31 := Tryz.underlying97
  a31 := Tryz.isAgg97
  z31 := Tryz.sizeOf97
  v31 := Tryz.zeroValue97
  t37 := Tryz.underlying81
  a37 := Tryz.isAgg81
  z37 := Tryz.sizeOf81
  v37 := Tryz.zeroValue81
  t70 := Tryz.underlying128
  a70 := Tryz.isAgg128
  z70 := Tryz.sizeOf128
  v70 := Tryz.zeroValue128
  t72 := Tryz.underlying130
  a72 := Tryz.isAgg130
  z72 := Tryz.sizeOf130
  v72 := Tryz.zeroValue130
  t75 := Tryz.underlying29
  a75 := Tryz.isAgg29
  z75 := Tryz.sizeOf29
  v75 := Tryz.zeroValue29
  t76 := Tryz.underlying131
  a76 := Tryz.isAgg131
  z76 := Tryz.sizeOf131
  v76 := Tryz.zeroValue131
  t127 := Tryz.underlying178
  a127 := Tryz.isAgg178
  z127 := Tryz.sizeOf178
  v127 := Tryz.zeroValue178
  t164 := Tryz.underlying203
  a164 := Tryz.isAgg203
  z164 := Tryz.sizeOf203
  v164 := Tryz.zeroValue203 }
theorem Tryz.Builder_Extra_156 : Builder.Extra Tryz.prog Tryz.lays156_ren := {
  sizeBuilder := by kernel_rfl
  liesBuilder := by kernel_rfl
  t5 := Tryz.underlying5
  a5 := Tryz.isAgg5
  z5 := Tryz.sizeOf5
  v5 := Tryz.zeroValue5
  infoByte := by kernel_rfl
  cellsByte := by kernel_rfl
  sizeByte := by kernel_rfl
  neB5 := by decide }
open Go.RowKit in
theorem Tryz.strings_Join (bk o c : Nat) (xs : List ByteArray) (sep : ByteArray) (w : World) (hcells : ∀ (j : Nat) x, xs[j]? = some x → w.cell? ⟨bk, o + j, none⟩ = some (.string x)) (hbk : bk < w.heap.size) (hN : xs.length ≤ 140737488355328) (hcap : xs.length ≤ c) (hlen : (Lib.join (xs.map (·.data.toList)) sep.data.toList).length ≤ 140737488355328) :
    Calls Tryz.prog 62 #[.slice (some ⟨bk, o, none⟩) xs.length c, .string sep] w fun e w' => e = .returned (.string ⟨(Lib.join (xs.map (·.data.toList)) sep.data.toList).toArray⟩) ∧ Below w.heap.size w w' := Any.strings_Join Tryz.lays156 Tryz.Builder_Extra_156 bk o c xs sep w hcells hbk hN hcap hlen
end Go.Proofs
namespace Go.Proofs.YtpkoefpdpoikkaaGreatDoor
open Go.RowKit Go.Extern.Stop Go.Stop Go.Extern Go.Sort Go.Shelf Go.Lib

theorem nameByte_any (n : Int) (w : World) : Calls Tryz.prog 149 #[.int .u8 n] w fun e w' => e = .returned (.bool (nbI n)) ∧ w' = w := by
  by_cases h1 : 97 ≤ n
  · by_cases h2 : n ≤ 122
    · have hr : nbI n = true := by simp [nbI, h1, h2]
      rw [hr]
      go_enter Tryz.func149, Tryz.ntmps149
      go_wp2
      go_ret
      exact ⟨rfl, rfl⟩
    · have hr : nbI n = false := by simp [nbI]; omega
      rw [hr]
      have h3 : (48 : Int) ≤ n := by omega
      have h4 : ¬ n ≤ 57 := by omega
      go_enter Tryz.func149, Tryz.ntmps149
      go_wp2
      go_ret
      exact ⟨rfl, rfl⟩
  · by_cases h3 : 48 ≤ n
    · by_cases h4 : n ≤ 57
      · have hr : nbI n = true := by simp [nbI, h3, h4]
        rw [hr]
        go_enter Tryz.func149, Tryz.ntmps149
        go_wp2
        go_ret
        exact ⟨rfl, rfl⟩
      · have hr : nbI n = false := by simp [nbI]; omega
        rw [hr]
        go_enter Tryz.func149, Tryz.ntmps149
        go_wp2
        go_ret
        exact ⟨rfl, rfl⟩
    · have hr : nbI n = false := by simp [nbI]; omega
      rw [hr]
      go_enter Tryz.func149, Tryz.ntmps149
      go_wp2
      go_ret
      exact ⟨rfl, rfl⟩

theorem inBounds_any (n : Int) (w : World) : Calls Tryz.prog 59 #[.int .i64 n] w fun e w' => e = .returned (.bool (inNum n)) ∧ w' = w := by
  by_cases h1 : -1073741824 ≤ n
  · by_cases h2 : n ≤ 1073741824
    · have hr : inNum n = true := by simp [inNum, h1, h2]
      rw [hr]
      go_enter Tryz.func59, Tryz.ntmps59
      go_wp2
      go_ret
      exact ⟨rfl, rfl⟩
    · have hr : inNum n = false := by simp [inNum, h2]
      rw [hr]
      go_enter Tryz.func59, Tryz.ntmps59
      go_wp2
      go_ret
      exact ⟨rfl, rfl⟩
  · have hr : inNum n = false := by simp [inNum, h1]
    rw [hr]
    go_enter Tryz.func59, Tryz.ntmps59
    go_wp2
    go_ret
    exact ⟨rfl, rfl⟩

theorem size_list (s : ByteArray) : s.data.toList.length = s.size := by cases s; simp [ByteArray.size]

theorem byte_list (s : ByteArray) (k : Nat) (h : k < s.size) : s.data.toList[k]? = some s[k] := by
  cases s with | mk d => simp [ByteArray.size] at h; simp [h]; rfl

theorem all_succ {s : ByteArray} {n : Nat} (h : ∀ j c, j < n → s.data.toList[j]? = some c → nbI c.toNat = true) (hn : n < s.size) (e : nbI s[n].toNat = true) : ∀ j c, j < n + 1 → s.data.toList[j]? = some c → nbI c.toNat = true := fun j c hj hc => by
  rcases Nat.lt_or_ge j n with h' | h'
  · exact h j c h' hc
  · obtain rfl : j = n := by omega
    rw [byte_list s j hn] at hc
    rw [← Option.some.inj hc]; exact e

set_option maxHeartbeats 1000000 in
theorem word_any (s : ByteArray) (m : Nat) (w : World) (hs : s.size ≤ maxLen) (hm : m ≤ 1000) : Calls Tryz.prog 115 #[.string s, .int .i64 m] w fun e w' => e = .returned (.bool (wordB m s.data.toList)) ∧ w' = w := by
  unfold maxLen at hs
  have hsz := size_list s
  by_cases h1 : s.size < 1
  · have hr : wordB m s.data.toList = false := by simp only [wordB, hsz]; simp; omega
    rw [hr]
    clear hsz hr
    go_enter Tryz.func115, Tryz.ntmps115
    go_wp2
    go_ret
    exact ⟨rfl, rfl⟩
  · by_cases h2 : m < s.size
    · have hr : wordB m s.data.toList = false := by simp only [wordB, hsz]; simp; omega
      rw [hr]
      clear hsz hr
      go_enter Tryz.func115, Tryz.ntmps115
      go_wp2
      go_ret
      exact ⟨rfl, rfl⟩
    · generalize hr : wordB m s.data.toList = r
      have HR : Hid (wordB m s.data.toList = r) := hr
      have HS : Hid (s.data.toList.length = s.size) := hsz
      clear hr hsz
      go_enter Tryz.func115, Tryz.ntmps115
      go_wp2
      go_loop [5] (fun k => ∃ n : Nat, n ≤ s.size ∧ (∀ j c, j < n → s.data.toList[j]? = some c → nbI c.toNat = true) ∧ k = .int .i64 n) (fun k => s.size - (intOf k).toNat)
      case atStart => exact ⟨0, by omega, by omega, rfl⟩
      case round =>
        obtain ⟨n, hn, ht, rfl⟩ := hrel
        have HT : Hid (∀ j c, j < n → s.data.toList[j]? = some c → nbI c.toNat = true) := ht
        clear ht
        by_cases hlt : n < s.size
        · have hi : (n : Int) < (s.size : Int) := by omega
          have hb := nameByte_any (s[n].toNat : Int) w
          cases hv : nbI (s[n].toNat : Int)
          · rw [hv] at hb
            have hr : r = false := by
              rw [← HR.out]
              simp only [wordB, Bool.and_eq_false_iff]
              right
              rw [List.all_eq_false]
              exact ⟨s[n], List.mem_of_getElem? (byte_list s n hlt), by rw [hv]; simp⟩
            subst hr
            clear hv
            go_wp2_with (go_at_call 149; refine hb.mono ?_; rintro e w' ⟨rfl, rfl⟩)
            go_ret
            exact ⟨rfl, rfl⟩
          · rw [hv] at hb
            have HV : Hid (nbI (s[n].toNat : Int) = true) := hv
            clear hv
            go_wp2_with (go_at_call 149; refine hb.mono ?_; rintro e w' ⟨rfl, rfl⟩)
            go_round
            case rel => exact ⟨n + 1, by omega, all_succ HT.out hlt HV.out, by go_num⟩
            case measure => simp [intOf]; omega
        · have hr : r = true := by
            rw [← HR.out]
            simp only [wordB, Bool.and_eq_true, decide_eq_true_eq, List.all_eq_true]
            have := HS.out
            refine ⟨⟨by omega, by omega⟩, fun c hc => ?_⟩
            obtain ⟨k, hk⟩ := List.mem_iff_getElem?.1 hc
            have hk' : k < s.data.toList.length := by
              rcases Nat.lt_or_ge k s.data.toList.length with h | h
              · exact h
              · rw [List.getElem?_eq_none h] at hk; cases hk
            exact HT.out k c (by omega) hk
          subst hr
          have hn' : n = s.size := by omega
          subst hn'
          go_wp2
          go_ret
          exact ⟨rfl, rfl⟩

theorem name_any (s : ByteArray) (w : World) (hs : s.size ≤ maxLen) : Calls Tryz.prog 121 #[.string s] w fun e w' => e = .returned (.bool (nameB s.data.toList)) ∧ w' = w := by
  have hw : Calls Tryz.prog 115 #[.string s, .int .i64 8] w fun e w' => e = .returned (.bool (nameB s.data.toList)) ∧ w' = w := word_any s 8 w hs (by omega)
  go_enter Tryz.func121, Tryz.ntmps121
  go_wp2_with (go_at_call 115; refine hw.mono ?_; rintro e w' ⟨rfl, rfl⟩)
  go_ret
  exact ⟨rfl, rfl⟩
end Go.Proofs.YtpkoefpdpoikkaaGreatDoor
