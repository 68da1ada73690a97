/-
  The contracts of data.eachLine and data.ReadLines, for any kind of file: the lines of a body, one behind the other, each handed to the function that takes it.
-/
import Derived.Shelf.GgSortFunc.RowK
import Derived.Shelf.SlSortCmp.NoneTotal
import Derived.Ground.SlsfProg
import Derived.Lib.OwnBridge
import Derived.Shelf.Abstract
import Derived.Test.YtpkoefpdpoikkaaGreatDoorDataPure
import Derived.Lib.SlicesCompact
import Derived.Lib.Slices
import Derived.Test.YtpkoefpdpoikkaaGreatDoorFaulted
import Derived.Laws.Rows
import Derived.Deep.OwnRows
import Derived.OneCell
import Derived.BigRegion
import Derived.Lib.QuietBelow
import Derived.Laws.BitsAll
import Derived.Laws.BitsAllLaws
import Derived.Laws.CopyRow
import Derived.Laws.Tables
import Derived.Deep.RegionHeld3
import Derived.Lib.JoinLaws
import Derived.Maps.AppendAt
import Derived.Deep.Onto
namespace Go.Proofs.YtpkoefpdpoikkaaGreatDoor
open Go.RowKit Go.Extern.Stop Go.Stop Go.Extern Go.Sort Go.Shelf Go.Lib

theorem own_below {w w' : World} {base : Nat} {e : TypeId} {size : Nat} {v : Value} {n : Nat} {xs : List Value} (h : w.ownsRow base e size v n xs) (hb : Below w.heap.size w w') : w'.ownsRow base e size v n xs := by
  obtain ⟨h1, h2⟩ := h
  refine ⟨h1, ?_⟩
  rcases h2 with h2 | ⟨g, cap, cur, hv, hg, hc, r⟩
  · exact Or.inl h2
  · refine Or.inr ⟨g, cap, cur, hv, hg, ?_, r⟩
    have hlt : g < w.heap.size := by
      rcases Nat.lt_or_ge g w.heap.size with h' | h'
      · exact h'
      · rw [Array.getElem?_eq_none h'] at hc; cases hc
    rw [hb.block g hlt]; exact hc

end Go.Proofs.YtpkoefpdpoikkaaGreatDoor
namespace Go.Proofs.YtpkoefpdpoikkaaGreatDoor
open Go.RowKit Go.Extern.Stop Go.Stop Go.Extern Go.Sort Go.Shelf Go.Lib

def KeysAt (w : World) (v : Value) (zs : List Int) : Prop :=
  (∃ p c, v = .slice p 0 c ∧ zs = []) ∨ ∃ b o cap, v = .slice (some ⟨b, o, none⟩) zs.length cap ∧ ∀ j (h : j < zs.length), w.cell? ⟨b, o + j, none⟩ = some (.int .i64 zs[j])

end Go.Proofs.YtpkoefpdpoikkaaGreatDoor
namespace Go.Proofs.YtpkoefpdpoikkaaGreatDoor
open Go Go.Lib

abbrev Fl := ByteArray × ByteArray × Int × Int × Int × Int

def cntB (n : Int) : Bool := decide (1 ≤ n) && decide (n ≤ 1073741824)

def kindL (g : Bool) : List UInt8 := if g then kGone else kData

def pathN (s : List UInt8) : Option Int := match numO s with
  | some n => if cntB n then some n else none
  | none => none

def pathO (s : List UInt8) : Option (Bool × Int) :=
  if s.take 5 = kData ++ [47] then (pathN (s.drop 5)).map fun n => (false, n) else
  if s.take 5 = kGone ++ [47] then (pathN (s.drop 5)).map fun n => (true, n) else none

theorem num_nil : numO [] = none := by
  cases h : numO [] with
  | none => rfl
  | some n =>
    have := (numO_spelt h).1
    unfold itoa at this
    split at this
    · cases this
    · exact absurd this (digits_ne _)

theorem take_kind (k w : List UInt8) (hk : k.length = 4) : (k ++ 47 :: w).take 5 = k ++ [47] ∧ (k ++ 47 :: w).drop 5 = w := by
  have e : k ++ 47 :: w = (k ++ [47]) ++ w := by simp
  have hl : (k ++ [47]).length = 5 := by simp [hk]
  rw [e]
  exact ⟨by rw [← hl, List.take_left], by rw [← hl, List.drop_left]⟩

theorem path_of (g : Bool) (w : List UInt8) : pathO (kindL g ++ 47 :: w) = (pathN w).map fun n => (g, n) := by
  obtain ⟨h1, h2⟩ := take_kind (kindL g) w (by cases g <;> rfl)
  unfold pathO
  rw [h1, h2]
  cases g
  · rw [if_pos (show kindL false ++ [47] = kData ++ [47] from rfl)]
  · rw [if_neg (by decide), if_pos (show kindL true ++ [47] = kGone ++ [47] from rfl)]

theorem path_some {s : List UInt8} {g : Bool} {n : Int} (h : pathO s = some (g, n)) : s = kindL g ++ 47 :: itoa n ∧ numO (itoa n) = some n ∧ cntB n = true := by
  have key : ∀ (k : List UInt8) (b : Bool), s.take 5 = k ++ [47] → (pathN (s.drop 5)).map (fun m => (b, m)) = some (g, n) → b = g ∧ s = k ++ 47 :: itoa n ∧ numO (itoa n) = some n ∧ cntB n = true := fun k b hk hp => by
    obtain ⟨m, hm, he⟩ := Option.map_eq_some_iff.1 hp
    simp only [Prod.mk.injEq] at he
    obtain ⟨rfl, rfl⟩ := he
    unfold pathN at hm
    split at hm
    · rename_i x hx
      split at hm
      · rename_i hc
        obtain rfl := Option.some.inj hm
        have hsp := (numO_spelt hx).1
        refine ⟨rfl, ?_, by rw [hsp]; exact hx, hc⟩
        rw [hsp]
        conv => lhs; rw [← List.take_append_drop 5 s, hk]
        simp
      · cases hm
    · cases hm
  unfold pathO at h
  split at h
  · rename_i hk
    obtain ⟨rfl, h'⟩ := key _ _ hk h
    exact h'
  · split at h
    · rename_i hk
      obtain ⟨rfl, h'⟩ := key _ _ hk h
      exact h'
    · cases h

theorem path_cut (s : List UInt8) : pathO s = if (Lib.cut s [47]).1 = kData then (pathN (Lib.cut s [47]).2.1).map fun n => (false, n) else
    if (Lib.cut s [47]).1 = kGone then (pathN (Lib.cut s [47]).2.1).map fun n => (true, n) else none := by
  rcases cut_cases 47 s with ⟨hn, hc⟩ | ⟨a, b, rfl, hn, hc⟩
  · rw [hc]
    have hp : pathN [] = none := by unfold pathN; rw [num_nil]
    have hnone : pathO s = none := by
      cases h : pathO s with
      | none => rfl
      | some p =>
        obtain ⟨g, n⟩ := p
        have := (path_some h).1
        exact absurd rfl (hn 47 (by rw [this]; simp))
    rw [hnone]
    dsimp only
    rw [hp]
    split
    · rfl
    · split <;> rfl
  · rw [hc]
    dsimp only
    by_cases h1 : a = kData
    · subst h1
      rw [if_pos rfl]
      exact path_of false b
    · rw [if_neg h1]
      by_cases h2 : a = kGone
      · subst h2
        rw [if_pos rfl]
        exact path_of true b
      · rw [if_neg h2]
        cases h : pathO (a ++ 47 :: b) with
        | none => rfl
        | some p =>
          obtain ⟨g, n⟩ := p
          have e := (path_some h).1
          have hk : ∀ c ∈ kindL g, c ≠ 47 := by cases g <;> decide
          have e1 := cut_at 47 a b hn
          rw [e, cut_at 47 _ _ hk] at e1
          simp only [Prod.mk.injEq, and_true] at e1
          cases g
          · exact absurd e1.1.symm h1
          · exact absurd e1.1.symm h2

theorem path_parts {s : List UInt8} (h : 6 ≤ s.length) : pathO s = if (s.take 4 = kData ∨ s.take 4 = kGone) ∧ s[4]? = some 47 then (pathN (s.drop 5)).map fun n => (decide (s.take 4 = kGone), n) else none := by
  have ht : ∀ k : List UInt8, k.length = 4 → (s.take 5 = k ++ [47] ↔ s.take 4 = k ∧ s[4]? = some 47) := fun k hk => by
    have e5 : s.take 5 = s.take 4 ++ [s[4]'(by omega)] := by rw [List.take_succ_eq_append_getElem (by omega)]
    rw [e5, List.getElem?_eq_getElem (by omega : 4 < s.length)]
    have hl : (s.take 4).length = k.length := by rw [List.length_take, hk]; omega
    constructor
    · intro e
      obtain ⟨e1, e2⟩ := List.append_inj e hl
      exact ⟨e1, by rw [List.singleton_inj.1 e2]⟩
    · rintro ⟨e1, e2⟩
      rw [e1, Option.some.inj e2]
  unfold pathO
  have d1 := ht kData rfl
  have d2 := ht kGone rfl
  by_cases h1 : s.take 5 = kData ++ [47]
  · have e1 := d1.1 h1
    rw [if_pos h1, if_pos ⟨Or.inl e1.1, e1.2⟩, e1.1]
    rfl
  · rw [if_neg h1]
    by_cases h2 : s.take 5 = kGone ++ [47]
    · have e2 := d2.1 h2
      rw [if_pos h2, if_pos ⟨Or.inr e2.1, e2.2⟩, e2.1]
      rfl
    · rw [if_neg h2, if_neg]
      rintro ⟨e | e, e'⟩
      · exact h1 (d1.2 ⟨e, e'⟩)
      · exact h2 (d2.2 ⟨e, e'⟩)

theorem path_short {s : List UInt8} (h : s.length < 6) : pathO s = none := by
  have e : s.drop 5 = [] := by rw [List.drop_eq_nil_iff]; omega
  have hp : pathN [] = none := by unfold pathN; rw [num_nil]
  unfold pathO
  rw [e, hp]
  split
  · rfl
  · split <;> rfl

def pathR (s : List UInt8) : List UInt8 × Int × Nat := match pathO s with
  | some (g, n) => (kindL g, n, 0)
  | none => ([], 0, 5)

def partB (g : Bool) (s : List UInt8) : Bool := if g then decide (s = [45]) else wordB 12 s

def bndB (f : Fl) : Bool := decide (1 ≤ f.2.2.1) && decide (f.2.2.1 ≤ 40) && inNum f.2.2.2.1 && inNum f.2.2.2.2.1 && decide (f.2.2.2.1 ≤ f.2.2.2.2.1) && cntB f.2.2.2.2.2

def fileE (f : Fl) : Nat := match pathO f.1.data.toList with
  | none => 5
  | some (g, _) => if partB g f.2.1.data.toList then (if bndB f then 0 else 2) else 4

def fileL (f : Fl) : List UInt8 := f.1.data.toList ++ 32 :: (f.2.1.data.toList ++ 32 :: (itoa f.2.2.1 ++ 32 :: (itoa f.2.2.2.1 ++ 32 :: (itoa f.2.2.2.2.1 ++ 32 :: itoa f.2.2.2.2.2))))

def fileB (f : Fl) : ByteArray := if fileE f = 0 then bytesOf (fileL f) else bytesOf []

def zeroF : Fl := (bytesOf [], bytesOf [], 0, 0, 0, 0)

def chkF (f : Fl) : Fl × Nat := if fileE f = 0 then (f, 0) else (zeroF, fileE f)

def readF (s : List UInt8) : Fl × Nat := match words s with
  | [p, q, a, b, c, d] => (match numO a, numO b, numO c, numO d with
    | some n, some lo, some hi, some seq => chkF (bytesOf p, bytesOf q, n, lo, hi, seq)
    | _, _, _, _ => (zeroF, 1))
  | _ => (zeroF, 1)

theorem fileE_le (f : Fl) : fileE f ≤ 5 := by
  unfold fileE
  split
  · omega
  · split
    · split <;> omega
    · omega

theorem file_good {f : Fl} (h : fileE f = 0) : ∃ g n, pathO f.1.data.toList = some (g, n) ∧ partB g f.2.1.data.toList = true ∧ bndB f = true := by
  unfold fileE at h
  split at h
  · cases h
  · rename_i g n hp
    split at h
    · rename_i hq
      split at h
      · rename_i hb
        exact ⟨g, n, hp, hq, hb⟩
      · cases h
    · cases h

theorem cnt_in {n : Int} (h : cntB n = true) : inNum n = true := by
  simp only [cntB, inNum, Bool.and_eq_true, decide_eq_true_eq] at h ⊢
  omega

theorem bnd_nums {f : Fl} (h : bndB f = true) : inNum f.2.2.1 = true ∧ inNum f.2.2.2.1 = true ∧ inNum f.2.2.2.2.1 = true ∧ inNum f.2.2.2.2.2 = true := by
  simp only [bndB, Bool.and_eq_true] at h
  refine ⟨?_, h.1.1.1.2, h.1.1.2, cnt_in h.2⟩
  have h1 := h.1.1.1.1
  simp only [decide_eq_true_eq] at h1
  simp only [inNum, Bool.and_eq_true, decide_eq_true_eq]
  omega

end Go.Proofs.YtpkoefpdpoikkaaGreatDoor
namespace Go.Proofs
open Go.Shelf
def Tryz.lays169_ren : Go.Shelf.Ren := ⟨fun | 169 => 90 | n => n, fun | 70 => 128 | 9 => 9 | 0 => 0 | 72 => 130 | 37 => 81 | 127 => 178 | 3 => 3 | 5 => 5 | n => n, fun | n => n⟩
theorem Tryz.lays169 : Go.Proofs.Lays.n169 Tryz.prog Tryz.lays169_ren := {
  mixed := by kernel_rfl
  f169 := Tryz.func90.trans (congrArg some (by kernel_rfl))
  t0 := Tryz.underlying0
  a0 := Tryz.isAgg0
  z0 := Tryz.sizeOf0
  v0 := Tryz.zeroValue0
  t3 := Tryz.underlying3
  a3 := Tryz.isAgg3
  z3 := Tryz.sizeOf3
  v3 := Tryz.zeroValue3
  t9 := Tryz.underlying9
  a9 := Tryz.isAgg9
  z9 := Tryz.sizeOf9
  v9 := Tryz.zeroValue9
  t37 := Tryz.underlying81
  a37 := Tryz.isAgg81
  z37 := Tryz.sizeOf81
  v37 := Tryz.zeroValue81
  t70 := Tryz.underlying128
  a70 := Tryz.isAgg128
  z70 := Tryz.sizeOf128
  v70 := Tryz.zeroValue128
  t72 := Tryz.underlying130
  a72 := Tryz.isAgg130
  z72 := Tryz.sizeOf130
  v72 := Tryz.zeroValue130
  t127 := Tryz.underlying178
  a127 := Tryz.isAgg178
  z127 := Tryz.sizeOf178
  v127 := Tryz.zeroValue178 }
theorem Tryz.Builder_Extra_169 : Builder.Extra Tryz.prog Tryz.lays169_ren := {
  sizeBuilder := by kernel_rfl
  liesBuilder := by kernel_rfl
  t5 := Tryz.underlying5
  a5 := Tryz.isAgg5
  z5 := Tryz.sizeOf5
  v5 := Tryz.zeroValue5
  infoByte := by kernel_rfl
  cellsByte := by kernel_rfl
  sizeByte := by kernel_rfl
  neB5 := by decide }
open Go.RowKit in
theorem Tryz.Builder_String_any (B b : Nat) (l : List UInt8) (w : World) (h : Lib.IsBuilder 130 5 B b (Lib.byteCells l) w) (hBw : B ≤ w.heap.size) :
    Calls Tryz.prog 90 #[.pointer (some ⟨b, 0, none⟩)] w fun e w' => e = .returned (.string ⟨l.toArray⟩) ∧ Below B w w' := Any.Builder_String_any Tryz.lays169 Tryz.Builder_Extra_169 B b l w h hBw
def Tryz.lays156_ren : Go.Shelf.Ren := ⟨fun | 156 => 62 | 165 => 117 | 166 => 89 | 169 => 90 | 240 => 136 | 241 => 151 | 276 => 176 | 277 => 186 | n => n, fun | 31 => 97 | 9 => 9 | 3 => 3 | 4 => 4 | 0 => 0 | 20 => 20 | 72 => 130 | 76 => 131 | 70 => 128 | 37 => 81 | 75 => 29 | 127 => 178 | 164 => 203 | 5 => 5 | 80 => 133 | n => n, fun | n => n⟩
theorem Tryz.lays156 : Go.Proofs.Lays.n156 Tryz.prog Tryz.lays156_ren := {
  mixed := by kernel_rfl
  f156 := Tryz.func62.trans (congrArg some (by kernel_rfl))
  f165 := Tryz.func117.trans (congrArg some (by kernel_rfl))
  f166 := Tryz.func89.trans (congrArg some (by kernel_rfl))
  f169 := Tryz.func90.trans (congrArg some (by kernel_rfl))
  f240 := Tryz.func136.trans (congrArg some (by kernel_rfl))
  f241 := Tryz.func151.trans (congrArg some (by kernel_rfl))
  f276 := Tryz.func176.trans (congrArg some (by kernel_rfl))
  f277 := Tryz.func186.trans (congrArg some (by kernel_rfl))
  t0 := Tryz.underlying0
  a0 := Tryz.isAgg0
  z0 := Tryz.sizeOf0
  v0 := Tryz.zeroValue0
  t3 := Tryz.underlying3
  a3 := Tryz.isAgg3
  z3 := Tryz.sizeOf3
  v3 := Tryz.zeroValue3
  t4 := Tryz.underlying4
  a4 := Tryz.isAgg4
  z4 := Tryz.sizeOf4
  v4 := Tryz.zeroValue4
  t9 := Tryz.underlying9
  a9 := Tryz.isAgg9
  z9 := Tryz.sizeOf9
  v9 := Tryz.zeroValue9
  t20 := Tryz.underlying20
  a20 := Tryz.isAgg20
  z20 := Tryz.sizeOf20
  v20 := Tryz.zeroValue20
  t31 := Tryz.underlying97
  a31 := Tryz.isAgg97
  z31 := Tryz.sizeOf97
  v31 := Tryz.zeroValue97
  t37 := Tryz.underlying81
  a37 := Tryz.isAgg81
  z37 := Tryz.sizeOf81
  v37 := Tryz.zeroValue81
  t70 := Tryz.underlying128
  a70 := Tryz.isAgg128
  z70 := Tryz.sizeOf128
  v70 := Tryz.zeroValue128
  t72 := Tryz.underlying130
  a72 := Tryz.isAgg130
  z72 := Tryz.sizeOf130
  v72 := Tryz.zeroValue130
  t75 := Tryz.underlying29
  a75 := Tryz.isAgg29
  z75 := Tryz.sizeOf29
  v75 := Tryz.zeroValue29
  t76 := Tryz.underlying131
  a76 := Tryz.isAgg131
  z76 := Tryz.sizeOf131
  v76 := Tryz.zeroValue131
  t127 := Tryz.underlying178
  a127 := Tryz.isAgg178
  z127 := Tryz.sizeOf178
  v127 := Tryz.zeroValue178
  t164 := Tryz.underlying203
  a164 := Tryz.isAgg203
  z164 := Tryz.sizeOf203
  v164 := Tryz.zeroValue203 }
theorem Tryz.Builder_Extra_156 : Builder.Extra Tryz.prog Tryz.lays156_ren := {
  sizeBuilder := by kernel_rfl
  liesBuilder := by kernel_rfl
  t5 := Tryz.underlying5
  a5 := Tryz.isAgg5
  z5 := Tryz.sizeOf5
  v5 := Tryz.zeroValue5
  infoByte := by kernel_rfl
  cellsByte := by kernel_rfl
  sizeByte := by kernel_rfl
  neB5 := by decide }
open Go.RowKit in
theorem Tryz.strings_Join (bk o c : Nat) (xs : List ByteArray) (sep : ByteArray) (w : World) (hcells : ∀ (j : Nat) x, xs[j]? = some x → w.cell? ⟨bk, o + j, none⟩ = some (.string x)) (hbk : bk < w.heap.size) (hN : xs.length ≤ 140737488355328) (hcap : xs.length ≤ c) (hlen : (Lib.join (xs.map (·.data.toList)) sep.data.toList).length ≤ 140737488355328) :
    Calls Tryz.prog 62 #[.slice (some ⟨bk, o, none⟩) xs.length c, .string sep] w fun e w' => e = .returned (.string ⟨(Lib.join (xs.map (·.data.toList)) sep.data.toList).toArray⟩) ∧ Below w.heap.size w w' := Any.strings_Join Tryz.lays156 Tryz.Builder_Extra_156 bk o c xs sep w hcells hbk hN hcap hlen
end Go.Proofs
namespace Go.Proofs.YtpkoefpdpoikkaaGreatDoor
open Go.RowKit Go.Extern.Stop Go.Stop Go.Extern Go.Sort Go.Shelf Go.Lib

theorem words_len : ∀ (l : List UInt8), ∀ x ∈ words l, x.length ≤ l.length
  | [], x, h => by simp [words] at h; simp [h]
  | c :: r, x, h => by
    have ih := words_len r
    unfold words at h
    split at h
    · rw [List.mem_cons] at h
      rcases h with rfl | h
      · simp
      · have := ih x h; simp; omega
    · split at h
      · simp at h; simp [h]
      · rename_i w ws hw
        rw [hw] at ih
        rw [List.mem_cons] at h
        rcases h with rfl | h
        · have := ih w List.mem_cons_self; simp; omega
        · have := ih x (List.mem_cons_of_mem _ h); simp; omega

theorem setCell_self {w : World} {b o : Nat} {v : Value} (h : w.cell? ⟨b, o, none⟩ = some v) : w.setCell ⟨b, o, none⟩ v = w := by
  have hm : (w.setCell ⟨b, o, none⟩ v).heap = w.heap := by
    unfold World.setCell
    apply Array.ext_getElem?
    intro i
    dsimp only
    rw [Array.getElem?_modify]
    split
    · rename_i e
      subst e
      unfold World.cell? at h
      dsimp only at h
      cases hh : w.heap[b]? with
      | none => rfl
      | some ob =>
        rw [hh] at h
        cases ob with
        | cells c t f =>
          simp only [Option.isSome_none, Bool.false_eq_true, if_false] at h
          simp only [Option.map_some, Option.isSome_none, Bool.false_eq_true, if_false, Option.some.injEq, Obj.cells.injEq, and_true]
          apply Array.ext_getElem?
          intro k
          rw [Array.getElem?_setIfInBounds]
          split
          · rename_i e; subst e
            split
            · exact h.symm
            · rename_i hlt; rw [Array.getElem?_eq_none (by omega)]
          · rfl
        | _ => simp at h
    · rfl
  cases w
  simp only [World.setCell] at hm ⊢
  rw [hm]

def TxAt (w : World) (v : Value) (ts : List ByteArray) : Prop :=
  ∃ b, v = .slice (some ⟨b, 0, none⟩) ts.length ts.length ∧ ∀ j (h : j < ts.length), w.cell? ⟨b, j, none⟩ = some (.string ts[j])

theorem splitTx_any (s : ByteArray) (w : World) (a : Nat → Addr) (h : Env0 w a) (hs : s.size < 4294967281) :
    Calls Tryz.prog 63 #[.string s, .string ⟨#[32]⟩] w fun e w' => ∃ v ts, e = .returned v ∧ TxAt w' v ts ∧ ts.map (·.data.toList) = words s.data.toList ∧ Below w.heap.size w w' := by
  obtain ⟨m, hm⟩ := h.maxl
  have hsp := Tryz.strings_Split s sp m _ hs hm (by decide)
  obtain ⟨hw1, hw2⟩ := split_words s.size s (Nat.le_refl _)
  have hl : (splitB sp 0 (countB s sp) s).length = countB s sp + 1 := by
    have := congrArg List.length hw1
    simp only [List.length_map] at this
    omega
  refine hsp.mono fun e w' ⟨he, hw⟩ => ⟨_, splitB sp 0 (countB s sp) s, he, ⟨w.heap.size, by rw [hl], fun j hj => ?_⟩, hw1, ?_⟩
  · rw [hw, cell_of_row _ _ _ _ _ _ (heap_alloc_new _ _)]
    simp [hj]
  · rw [hw]; exact (Below.refl _ _).alloc (Nat.le_refl _) _

theorem Tryz.numsInfo : (Tryz.prog.info? 3).map (fun i => (i.zero, i.size, i.bytes)) = some (some (.int .i64 0), 1, 8) := by kernel_rfl

def NumsRow (w : World) (e : Ending) (ts : List ByteArray) : Prop :=
  (∃ (zs : List Int) (g : Nat), zs.length = ts.length ∧ (∀ (j : Nat) (t : ByteArray), ts[j]? = some t → numO t.data.toList = zs[j]?) ∧ e = .returned (.tuple #[.slice (some ⟨g, 0, none⟩) ts.length ts.length, .bool true]) ∧ ∀ j (h : j < zs.length), w.cell? ⟨g, j, none⟩ = some (.int .i64 zs[j])) ∨
  (∃ (j : Nat) (t : ByteArray), ts[j]? = some t ∧ numO t.data.toList = none ∧ e = .returned (.tuple #[.slice none 0 0, .bool false]))

def NumsRowN (B : Nat) (w : World) (e : Ending) (ts : List ByteArray) : Prop :=
  (∃ (zs : List Int) (g : Nat), zs.length = ts.length ∧ (∀ (j : Nat) (t : ByteArray), ts[j]? = some t → numO t.data.toList = zs[j]?) ∧ e = .returned (.tuple #[.slice (some ⟨g, 0, none⟩) ts.length ts.length, .bool true]) ∧ (∀ j (h : j < zs.length), w.cell? ⟨g, j, none⟩ = some (.int .i64 zs[j])) ∧ B ≤ g) ∨
  (∃ (j : Nat) (t : ByteArray), ts[j]? = some t ∧ numO t.data.toList = none ∧ e = .returned (.tuple #[.slice none 0 0, .bool false]))
theorem NumsRowN.weak {B : Nat} {w : World} {e : Ending} {ts : List ByteArray} (h : NumsRowN B w e ts) : NumsRow w e ts := by
  rcases h with ⟨zs, g, h1, h2, h3, h4, _⟩ | h
  · exact Or.inl ⟨zs, g, h1, h2, h3, h4⟩
  · exact Or.inr h

theorem made_get (z : Value) (n j : Nat) (h : j < n) : (madeCells #[z] n)[j]? = some z := by
  unfold madeCells
  simp [h, Nat.mod_one]

set_option maxRecDepth 100000 in
set_option maxHeartbeats 4000000 in
theorem numbers_new (b o cap : Nat) (ts : List ByteArray) (w : World) (a : Nat → Addr) (h : Env0 w a) (hc : ∀ j (h : j < ts.length), w.cell? ⟨b, o + j, none⟩ = some (.string ts[j])) (hs : ∀ t ∈ ts, t.size ≤ maxLen) (hl : ts.length ≤ 20000) :
    Calls Tryz.prog 64 #[.slice (some ⟨b, o, none⟩) ts.length cap] w fun e w' => NumsRowN w.heap.size w' e ts ∧ Below w.heap.size w w' := by
  have HC : Hid (∀ j (h : j < ts.length), w.cell? ⟨b, o + j, none⟩ = some (.string ts[j])) := hc
  have HS : Hid (∀ t ∈ ts, t.size ≤ maxLen) := hs
  obtain ⟨L, hL⟩ : ∃ L, ts.length = L := ⟨_, rfl⟩
  have HX : Hid (ts.length = L) := hL
  rw [hL] at hl ⊢
  clear hL hc hs
  have hmk := fun W => run_make_row' (P := Tryz.prog) 93 3 (.int .i64 0) 8 Tryz.underlying93 Tryz.numsInfo rfl .i64 .i64 L (by omega) (by omega) W
  have hal : Below w.heap.size w (w.alloc (.cells (madeCells #[.int .i64 0] L) 3)) := (Below.refl _ _).alloc (Nat.le_refl _) _
  have hblk := heap_alloc_new w (.cells (madeCells #[.int .i64 0] L) 3)
  have hmd : ∀ j, j < L → (madeCells #[.int .i64 0] L)[j]? = some (.int .i64 0) := fun j hj => made_get _ _ _ hj
  have MD : Hid (∀ j, j < L → (madeCells #[.int .i64 0] L)[j]? = some (.int .i64 0)) := hmd
  clear hmd
  go_enter Tryz.func64, Tryz.ntmps64
  go_wp2
  go_loopw [14] (fun k wr => ∃ (n : Nat) (zs : List Int) (arr : Array Value), n ≤ L ∧ k = .int .i64 n ∧ Below w.heap.size w wr ∧ zs.length = n ∧ (∀ j t, j < n → ts[j]? = some t → numO t.data.toList = zs[j]?) ∧ wr.heap[w.heap.size]? = some (.cells arr 3 (0, 0)) ∧ (∀ j, j < L → ∃ u, arr[j]? = some u) ∧ ∀ j (h : j < zs.length), arr[j]? = some (.int .i64 zs[j])) (fun k _ => L - (intOf k).toNat)
  case atStart => exact ⟨0, [], _, by omega, rfl, hal, rfl, fun j t h => absurd h (Nat.not_lt_zero _), hblk, fun j hj => ⟨_, MD.out j hj⟩, fun j h => absurd h (Nat.not_lt_zero _)⟩
  case round =>
    clear hal hblk hmk
    obtain ⟨n, zs, arr, hn, rfl, hb, hzl, hzs, hbk, har, hgo⟩ := hrel
    have HB : Hid (wr.heap[w.heap.size]? = some (.cells arr 3 (0, 0))) := hbk
    have HZL : Hid (zs.length = n) := hzl
    have HZS : Hid (∀ j t, j < n → ts[j]? = some t → numO t.data.toList = zs[j]?) := hzs
    have HAR : Hid (∀ j, j < L → ∃ u, arr[j]? = some u) := har
    have HGO : Hid (∀ j (h : j < zs.length), arr[j]? = some (.int .i64 zs[j])) := hgo
    clear hbk hzl hzs har hgo
    by_cases hlt : n < L
    · have hltx : n < ts.length := by rw [HX.out]; exact hlt
      have c1 := below_keep hb (HC.out n hltx)
      have HG : Hid (ts[n]? = some ts[n]) := List.getElem?_eq_getElem hltx
      have hnum := number_any ts[n] wr a (h.below hb) (HS.out _ (List.getElem_mem _))
      generalize ts[n] = t at c1 HG hnum
      unfold numR at hnum
      have hi : (n : Int) < (L : Int) := by omega
      have hi0' : (0 : Int) ≤ (n : Int) := by omega
      clear hltx
      cases hk : numO t.data.toList with
      | none =>
        rw [hk] at hnum
        dsimp only at hnum
        have HK : Hid (numO t.data.toList = none) := hk
        clear hk
        go_wp2_with fail
        refine hnum.mono ?_
        rintro e w3 ⟨rfl, hb3⟩
        clear hnum
        have hB3 : Below w.heap.size w w3 := hb.trans (hb3.mono hb.size)
        go_wp2
        go_ret2
        exact ⟨Or.inr ⟨n, t, HG.out, HK.out, rfl⟩, hB3⟩
      | some x =>
        rw [hk] at hnum
        dsimp only at hnum
        have HK : Hid (numO t.data.toList = some x) := hk
        clear hk
        go_wp2_with fail
        refine hnum.mono ?_
        rintro e w3 ⟨rfl, hb3⟩
        clear hnum
        have hB3 : Below w.heap.size w w3 := hb.trans (hb3.mono hb.size)
        have hbk3 : w3.heap[w.heap.size]? = some (.cells arr 3 (0, 0)) := (hb3.block _ (lt_of_block HB.out)).trans HB.out
        obtain ⟨u, hu⟩ := HAR.out n hlt
        have hcu : w3.cell? ⟨w.heap.size, n, none⟩ = some u := by rw [cell_of_row _ _ _ _ _ _ hbk3]; exact hu
        have hfz : w3.frozen? ⟨w.heap.size, n, none⟩ = false := frozen_of_row _ _ _ _ _ hbk3
        have hset := heap_setCell_same w3 w.heap.size n arr 3 (.int .i64 x) hbk3
        have HSET : Hid ((w3.setCell ⟨w.heap.size, n, none⟩ (.int .i64 x)).heap[w.heap.size]? = some (.cells (arr.setIfInBounds n (.int .i64 x)) 3 (0, 0))) := hset
        have HN : Hid (n < arr.size) := by
          show n < arr.size
          rcases Nat.lt_or_ge n arr.size with h' | h'
          · exact h'
          · rw [Array.getElem?_eq_none h'] at hu; cases hu
        have hB4 : Below w.heap.size w (w3.setCell ⟨w.heap.size, n, none⟩ (.int .i64 x)) := hB3.setCell (Nat.le_refl _) _
        clear hset hbk3 hu
        go_wp2
        go_roundw
        case rel =>
          refine ⟨n + 1, zs ++ [x], _, by omega, by go_num, hB4, by rw [List.length_append, HZL.out]; rfl, fun j t' hj ht' => ?_, HSET.out, fun j hj => ?_, fun j hj => ?_⟩
          · rcases Nat.lt_or_ge j n with h' | h'
            · rw [HZS.out j t' h' ht', List.getElem?_append_left (by rw [HZL.out]; exact h')]
            · obtain rfl : j = n := by omega
              rw [HG.out] at ht'
              rw [← Option.some.inj ht', HK.out, List.getElem?_append_right (by rw [HZL.out]; exact Nat.le_refl _), HZL.out, Nat.sub_self]
              rfl
          · rw [Array.getElem?_setIfInBounds]
            split
            · rw [if_pos HN.out]; exact ⟨_, rfl⟩
            · exact HAR.out j hj
          · rw [Array.getElem?_setIfInBounds]
            split
            · rename_i e
              subst e
              rw [if_pos HN.out, List.getElem_append_right (by rw [HZL.out]; exact Nat.le_refl _)]
              simp
            · rename_i e
              have hj' : j < zs.length := by rw [List.length_append] at hj; simp at hj; have := HZL.out; omega
              rw [List.getElem_append_left hj']
              exact HGO.out j hj'
        case measure => simp [intOf]; omega
    · obtain rfl : n = L := by omega
      go_wp2
      go_ret2
      refine ⟨Or.inl ⟨zs, w.heap.size, by rw [HZL.out, HX.out], fun j t ht => HZS.out j t (by
        rw [← HX.out]
        rcases Nat.lt_or_ge j ts.length with h | h
        · exact h
        · rw [List.getElem?_eq_none h] at ht; cases ht) ht, by rw [HX.out]; rfl, fun j hj => ?_, Nat.le_refl _⟩, hb⟩
      rw [cell_of_row _ _ _ _ _ _ HB.out]
      exact HGO.out j hj

theorem numbers_any (b o cap : Nat) (ts : List ByteArray) (w : World) (a : Nat → Addr) (h : Env0 w a) (hc : ∀ j (h : j < ts.length), w.cell? ⟨b, o + j, none⟩ = some (.string ts[j])) (hs : ∀ t ∈ ts, t.size ≤ maxLen) (hl : ts.length ≤ 20000) :
    Calls Tryz.prog 64 #[.slice (some ⟨b, o, none⟩) ts.length cap] w fun e w' => NumsRow w' e ts ∧ Below w.heap.size w w' :=
  (numbers_new b o cap ts w a h hc hs hl).mono fun _ _ ⟨h1, h2⟩ => ⟨h1.weak, h2⟩
end Go.Proofs.YtpkoefpdpoikkaaGreatDoor
namespace Go.Proofs.YtpkoefpdpoikkaaGreatDoor
open Go.RowKit Go.Extern.Stop Go.Stop Go.Extern Go.Sort Go.Shelf Go.Lib

theorem eqB_of {s : ByteArray} {l : List UInt8} (h : s.data.toList = l) : (s.toList == l) = true := by
  rw [ByteArray.toList_eq]; simpa using h
theorem neB_of {s : ByteArray} {l : List UInt8} (h : s.data.toList ≠ l) : (s.toList == l) = false := by
  rw [ByteArray.toList_eq]; simpa using h

end Go.Proofs.YtpkoefpdpoikkaaGreatDoor
namespace Go.Proofs.YtpkoefpdpoikkaaGreatDoor
open Go.RowKit Go.Extern.Stop Go.Stop Go.Extern Go.Sort Go.Shelf Go.Lib

theorem bytes_len (l : List UInt8) : (bytesOf l).size = l.length := by rw [← size_list]; simp [bytesOf]

end Go.Proofs.YtpkoefpdpoikkaaGreatDoor
namespace Go.Proofs.YtpkoefpdpoikkaaGreatDoor
open Go.RowKit Go.Extern.Stop Go.Stop Go.Extern Go.Sort Go.Shelf Go.Lib

theorem writeString_any (B b : Nat) (bs : List Value) (s : ByteArray) (w : World) (h : Lib.IsBuilder 130 5 B b bs w) (hlen : bs.length + s.size ≤ 140737488355328) (hBw : B ≤ w.heap.size) :
    Calls Tryz.prog 89 #[.pointer (some ⟨b, 0, none⟩), .string s] w fun e w' => e = .returned (.tuple #[.int .i64 s.size, .nilIface]) ∧ (Lib.BuilderAt 130 5 B b (.pointer (some ⟨b, 0, none⟩)) (bs ++ Lib.strCells s) w' ∧ Below B w w') := by
  first
  | exact Any.Builder_WriteString { Tryz.lays156 with } Tryz.Builder_Extra_156 B b bs s w h hlen hBw
  | exact Tryz.Builder_WriteString B b bs s w h hlen hBw

theorem isBuilder_below {T e : TypeId} {B b : Nat} {bs : List Value} {w w' : World} (h : Lib.IsBuilder T e B b bs w) (hb : Below w.heap.size w w') : Lib.IsBuilder T e B b bs w' := by
  rcases h with h | h
  · have hlt := h.lt
    obtain ⟨hB, v, hbk, hown, hne⟩ := h
    exact Or.inl ⟨hB, v, (hb.block b hlt).trans hbk, own_below hown hb, hne⟩
  · have hlt := h.lt
    obtain ⟨hB, v, hbk, hown, hne⟩ := h
    exact Or.inr ⟨hB, v, (hb.block b hlt).trans hbk, own_below hown hb, hne⟩

end Go.Proofs.YtpkoefpdpoikkaaGreatDoor
namespace Go.Proofs.YtpkoefpdpoikkaaGreatDoor
open Go.RowKit Go.Extern.Stop Go.Stop Go.Extern Go.Sort Go.Shelf Go.Lib

theorem eqBB {s t : ByteArray} (h : s.data.toList = t.data.toList) : (s.toList == t.toList) = true := by
  rw [ByteArray.toList_eq, ByteArray.toList_eq]; simpa using h
theorem neBB {s t : ByteArray} (h : s.data.toList ≠ t.data.toList) : (s.toList == t.toList) = false := by
  rw [ByteArray.toList_eq, ByteArray.toList_eq]; simpa using h

end Go.Proofs.YtpkoefpdpoikkaaGreatDoor
namespace Go.Proofs.YtpkoefpdpoikkaaGreatDoor
open Go.RowKit Go.Extern.Stop Go.Stop Go.Extern Go.Sort Go.Shelf Go.Lib

def strLen : Value → Nat
  | .string s => s.size
  | _ => 0

def stepE {β : Type} (k : FK β) (acc : List β) (l : List UInt8) : Nat := if (k.rd l).2 ≠ 0 then (k.rd l).2 else if acc ≠ [] ∧ k.bad (k.rd l).1 (acc.getLastD k.d) = true then 9 else 0

theorem rowsG_step {β : Type} (k : FK β) (l : List UInt8) (r : List (List UInt8)) (hr : r ≠ []) (at_ : Nat) (acc : List β) : rowsG k (l :: r) at_ acc = if stepE k acc l ≠ 0 then ([], stepE k acc l, at_) else rowsG k r (at_ + 1) (acc ++ [(k.rd l).1]) := by
  obtain ⟨l2, r2, rfl⟩ := List.exists_cons_of_ne_nil hr
  rw [rowsG_cons]
  unfold stepE
  by_cases h1 : (k.rd l).2 ≠ 0
  · simp only [if_pos h1]
  · simp only [if_neg h1]
    by_cases h2 : acc ≠ [] ∧ k.bad (k.rd l).1 (acc.getLastD k.d) = true
    · simp only [if_pos h2]; rfl
    · simp only [if_neg h2]; rfl

end Go.Proofs.YtpkoefpdpoikkaaGreatDoor
