/-
  The contracts of the document's own IsBehind, FindOf, SameFiles, Without, PruneOf and ListText.
  The contracts of the document's own SameFiles, ListText and ListFault.
  The contract of the document's own ListFault.
  The contracts of the document's own Placed, and of the statements' own OwnFiles.
  The contract of the document's own Placed.
  The contracts of the document's own AddOf and RemoveOf.
  Errors that tell a fault, and where; short files; a file in a block of its own.
-/
import Derived.Test.YtgffkkijfmoooabGreatDoorListMem
import Derived.Test.YtgffkkijfmoooabGreatDoorRefFile
import Derived.Test.YtgffkkijfmoooabGreatDoorFileKnown
import Derived.BigQuiet
import Derived.Test.YtgffkkijfmoooabGreatDoorRefReadData
import Derived.Deep.RegionHeld3
import Derived.Test.YtgffkkijfmoooabGreatDoorGoneWalk
import Derived.Deep.CutBlock
import Derived.Test.YtgffkkijfmoooabGreatDoorFileText
namespace Go.Proofs.YtgffkkijfmoooabGreatDoor
open Go.RowKit Go.Extern.Stop Go.Stop Go.Extern Go.Sort Go.Shelf Go.Lib

theorem cells6 (w : World) (f : Fl) : ∀ j u, (encF f)[j]? = some u → (w.alloc (.cells #[.string f.1, .string f.2.1, .int .i64 f.2.2.1, .int .i64 f.2.2.2.1, .int .i64 f.2.2.2.2.1, .int .i64 f.2.2.2.2.2] 59)).cell? ((⟨w.heap.size, 0, none⟩ : Addr).add j) = some u := by
  intro j u hu
  rw [Addr.add_lit, Nat.zero_add, cell_of_row _ _ _ _ _ _ (heap_alloc_new _ _)]
  rw [← hu]
  simp [encF]

/-- Where a path is among files (-1: nowhere). -/
def findF (fs : List Fl) (p : ByteArray) : Int := match fs.findIdx? (fun f => decide (f.1 = p)) with
  | some i => i
  | none => -1

theorem findF_at {fs : List Fl} {p : ByteArray} {n : Nat} (hn : n < fs.length) (h : ∀ j (h : j < fs.length), j < n → fs[j].1 ≠ p) (e : fs[n].1 = p) : findF fs p = n := by
  unfold findF
  have : fs.findIdx? (fun f => decide (f.1 = p)) = some n := by
    rw [List.findIdx?_eq_some_iff_getElem]
    exact ⟨hn, by simpa using e, fun j hj => by simpa using h j (by omega) hj⟩
  rw [this]
theorem findF_no {fs : List Fl} {p : ByteArray} (h : ∀ j (h : j < fs.length), fs[j].1 ≠ p) : findF fs p = -1 := by
  unfold findF
  have : fs.findIdx? (fun f => decide (f.1 = p)) = none := by
    rw [List.findIdx?_eq_none_iff]
    intro f hf
    obtain ⟨j, hj, rfl⟩ := List.mem_iff_getElem.1 hf
    simpa using h j hj
  rw [this]

theorem nopath_succ {fs : List Fl} {n : Nat} {p : ByteArray} (h : ∀ j (h : j < fs.length), j < n → fs[j].1 ≠ p) (hn : n < fs.length) (e : fs[n].1 ≠ p) : ∀ j (h : j < fs.length), j < n + 1 → fs[j].1 ≠ p := fun j hj hjn => by
  rcases Nat.lt_or_ge j n with h' | h'
  · exact h j hj h'
  · obtain rfl : j = n := by omega
    exact e

/-- Those of the first n files that are kept. -/
def kept (P : Fl → Bool) (fs : List Fl) (n : Nat) : List Fl := (fs.take n).filter P
theorem kept_zero (P : Fl → Bool) (fs : List Fl) : kept P fs 0 = [] := by simp [kept]
theorem kept_len (P : Fl → Bool) (fs : List Fl) (n : Nat) : (kept P fs n).length ≤ n := by
  have := List.length_filter_le P (fs.take n)
  rw [List.length_take] at this
  unfold kept
  omega
theorem kept_succ (P : Fl → Bool) (fs : List Fl) (n : Nat) (h : n < fs.length) : kept P fs (n + 1) = if P fs[n] = true then kept P fs n ++ [fs[n]] else kept P fs n := by
  unfold kept
  rw [← List.take_append_getElem h, List.filter_append]
  split
  · rename_i hp; rw [List.filter_cons_of_pos hp]; rfl
  · rename_i hp; rw [List.filter_cons_of_neg hp]; simp
theorem kept_all (P : Fl → Bool) (fs : List Fl) : kept P fs fs.length = fs.filter P := by unfold kept; rw [List.take_length]

/-- Not that path. -/
def offP (p : ByteArray) (f : Fl) : Bool := decide (f.1 ≠ p)
/-- May it have a key from lo to hi? -/
def inP (lo hi : Int) (f : Fl) : Bool := decide ((if f.2.2.2.1 < lo then lo else f.2.2.2.1) ≤ (if hi < f.2.2.2.2.1 then hi else f.2.2.2.2.1))

end Go.Proofs.YtgffkkijfmoooabGreatDoor
namespace Go.Proofs.YtgffkkijfmoooabGreatDoor
open Go.RowKit Go.Extern.Stop Go.Stop Go.Extern Go.Sort Go.Shelf Go.Lib

set_option maxRecDepth 100000 in
set_option maxHeartbeats 4000000 in
theorem sameFiles_yes (v v' : Value) (fs : List Fl) (w : World) (hx : FlsAt w v fs) (hy : FlsAt w v' fs) (hl : fs.length ≤ 20000) :
    Calls Tryz.prog 47 #[v, v'] w fun e w' => e = .returned (.bool true) ∧ Below w.heap.size w w' := by
  obtain ⟨q, cap, rfl⟩ := hx.form
  obtain ⟨q', cap', rfl⟩ := hy.form
  have HFX : Hid (FlsAt w (.slice q fs.length cap) fs) := hx
  have HFY : Hid (FlsAt w (.slice q' fs.length cap') fs) := hy
  obtain ⟨L, hL⟩ : ∃ L, fs.length = L := ⟨_, rfl⟩
  have HX : Hid (fs.length = L) := hL
  rw [hL] at hl ⊢
  clear hL hx hy
  go_enter Tryz.func47, Tryz.ntmps47
  go_wp2
  go_loopw [5] (fun k wr => ∃ n : Nat, n ≤ L ∧ k = .int .i64 n ∧ Below w.heap.size w wr) (fun k _ => L - (intOf k).toNat)
  case atStart => exact ⟨0, by omega, rfl, Below.refl _ _⟩
  case round =>
    obtain ⟨n, hn, rfl, hb⟩ := hrel
    by_cases hlt : n < L
    · have hltx : n < fs.length := by rw [HX.out]; exact hlt
      obtain ⟨b, o, hq, hc⟩ := (HFX.out.below hb).cells (fun e => by rw [e] at hltx; simp at hltx)
      obtain ⟨b', o', hq', hc'⟩ := (HFY.out.below hb).cells (fun e => by rw [e] at hltx; simp at hltx)
      subst hq hq'
      obtain ⟨c0, c1, c2, c3, c4, c5⟩ := hc n hltx
      obtain ⟨d0, d1, d2, d3, d4, d5⟩ := hc' n hltx
      generalize fs[n] = f at c0 c1 c2 c3 c4 c5 d0 d1 d2 d3 d4 d5
      have hnq := fun W => neqF f W
      have hgd : ∀ (bo : BinOp) (a b : Operand) (w : World), Sem.run Tryz.prog (eqGuard bo 59 a b (flV f) (flV f)) w = .ok () w := fun bo a b w => guardF bo a b f f w
      unfold flV at hnq hgd
      obtain ⟨fp, fq, fn, flo, fhi, fseq⟩ := f
      dsimp only at c0 c1 c2 c3 c4 c5 d0 d1 d2 d3 d4 d5 hnq hgd
      have hi : (n : Int) < (L : Int) := by omega
      have hi0' : (0 : Int) ≤ (n : Int) := by omega
      clear hc hc' hltx
      go_wp2
      go_quiet (fail)
      have hb2 : Below w.heap.size w (wr.drewN nq) := below_drewN hb nq
      generalize wr.drewN nq = wr2 at hb2 ⊢
      go_wp2
      go_roundw
      case rel => exact ⟨n + 1, by omega, by go_num, hb2⟩
      case measure => simp [intOf]; omega
    · obtain rfl : n = L := by omega
      go_wp2
      go_ret
      exact ⟨rfl, hb⟩

theorem listL_take (fs : List Fl) (n : Nat) (h : n < fs.length) : listL (fs.take (n + 1)) = listL (fs.take n) ++ (fileL fs[n] ++ [10]) := by
  have e := (List.take_append_getElem h).symm
  unfold listL
  rw [e, List.flatMap_append]
  simp only [List.flatMap_cons, List.flatMap_nil, List.append_nil]

theorem listL_len : ∀ fs : List Fl, (∀ f ∈ fs, fileE f = 0 ∧ f.1.size ≤ 100 ∧ f.2.1.size ≤ 100) → (listL fs).length ≤ 300 * fs.length
  | [], _ => by simp [listL]
  | f :: r, h => by
    have ih := listL_len r (fun g hg => h g (List.mem_cons_of_mem _ hg))
    obtain ⟨h0, h1, h2⟩ := h f List.mem_cons_self
    have := fl_len h0
    have e : listL (f :: r) = fileL f ++ 10 :: listL r := by simp [listL]
    rw [e, List.length_append, List.length_cons, List.length_cons]
    omega

end Go.Proofs.YtgffkkijfmoooabGreatDoor
namespace Go.Proofs.YtgffkkijfmoooabGreatDoor
open Go.RowKit Go.Extern.Stop Go.Stop Go.Extern Go.Sort Go.Shelf Go.Lib

/-- A place as a number (-1: nowhere). -/
def atZ : Option Nat → Int
  | some i => i
  | none => -1

/-- The place of the file ahead. -/
def ahead (fs : List Fl) : Nat → Int
  | 0 => 0
  | n + 1 => match fs[n]? with
    | some f => fk f
    | none => 0

theorem ahead_succ {fs : List Fl} {n : Nat} (h : n < fs.length) : ahead fs (n + 1) = fk fs[n] := by
  show (match fs[n]? with
    | some f => fk f
    | none => 0) = _
  rw [List.getElem?_eq_getElem h]

/-- The files from the n-th on are as good as all. -/
def LeftG (fs : List Fl) (n : Nat) : Prop := lstG 0 fs 0 = lstG (ahead fs n) (fs.drop n) n

theorem left_zero (fs : List Fl) : LeftG fs 0 := rfl
theorem left_bad {fs : List Fl} {n : Nat} (h : LeftG fs n) (hn : n < fs.length) (he : fileE fs[n] ≠ 0) : lstG 0 fs 0 = (fileE fs[n], some n) := by
  unfold LeftG at h
  rw [h, List.drop_eq_getElem_cons hn]
  unfold lstG
  rw [if_pos he]
theorem left_order {fs : List Fl} {n : Nat} (h : LeftG fs n) (hn : n < fs.length) (he : fileE fs[n] = 0) (ho : fk fs[n] ≤ ahead fs n) : lstG 0 fs 0 = (9, some n) := by
  unfold LeftG at h
  rw [h, List.drop_eq_getElem_cons hn]
  unfold lstG
  rw [if_neg (by simp [he]), if_pos ho]
theorem left_succ {fs : List Fl} {n : Nat} (h : LeftG fs n) (hn : n < fs.length) (he : fileE fs[n] = 0) (ho : ahead fs n < fk fs[n]) : LeftG fs (n + 1) := by
  unfold LeftG at h ⊢
  rw [h, ahead_succ hn]
  conv => lhs; rw [List.drop_eq_getElem_cons hn]
  conv => lhs; unfold lstG
  rw [if_neg (by simp [he]), if_neg (by omega)]
theorem left_all {fs : List Fl} (h : LeftG fs fs.length) : lstG 0 fs 0 = (0, none) := by
  unfold LeftG at h
  rw [h, List.drop_length]
  rfl

end Go.Proofs.YtgffkkijfmoooabGreatDoor
namespace Go.Proofs.YtgffkkijfmoooabGreatDoor
open Go.RowKit Go.Extern.Stop Go.Stop Go.Extern Go.Sort Go.Shelf Go.Lib

theorem src_fls {w : World} {q : Option Addr} {n c : Nat} {fs : List Fl} (h : FlsAt w (.slice q n c) fs) : Src w q n c (flatF fs) := by
  rcases h with ⟨p, c', e, hp, rfl⟩ | ⟨b, o, cap, e, hl, hc⟩
  · simp only [Value.slice.injEq] at e
    obtain ⟨rfl, rfl, rfl⟩ := e
    exact Or.inl ⟨rfl, hp⟩
  · simp only [Value.slice.injEq] at e
    obtain ⟨rfl, rfl, rfl⟩ := e
    exact Or.inr ⟨b, o, rfl, cellsF_flat hc⟩

theorem flCells_take {w : World} {b o : Nat} {fs : List Fl} (h : FlCells w b o fs) (n : Nat) : FlCells w b o (fs.take n) := fun j hj => by
  rw [List.length_take] at hj
  have := h j (by omega)
  rw [List.getElem_take]
  exact this
theorem flCells_drop {w : World} {b o : Nat} {fs : List Fl} (h : FlCells w b o fs) (n : Nat) : FlCells w b (o + n * 6) (fs.drop n) := fun j hj => by
  rw [List.length_drop] at hj
  have := h (n + j) (by omega)
  rw [List.getElem_drop]
  have e : o + n * 6 + j * 6 = o + (n + j) * 6 := by omega
  rw [e]
  exact this

theorem place_at {fs : List Fl} {f : Fl} {n : Nat} (hn : n ≤ fs.length) (h1 : ∀ j (h : j < fs.length), j < n → fk fs[j] < fk f) (h2 : ∀ h : n < fs.length, ¬ fk fs[n] < fk f) : placeL fs f = fs.take n ++ f :: fs.drop n := by
  have hx : ∀ g ∈ fs.take n, fk g < fk f := fun g hg => by
    obtain ⟨a, ha, rfl⟩ := List.mem_iff_getElem.1 hg
    rw [List.length_take] at ha
    rw [List.getElem_take]
    exact h1 a (by omega) (by omega)
  have hs : fs = fs.take n ++ fs.drop n := (List.take_append_drop n fs).symm
  have ht : fs.takeWhile (fun g => decide (fk g < fk f)) = fs.take n := by
    conv => lhs; rw [hs]
    rw [List.takeWhile_append_of_pos (fun g hg => by simpa using hx g hg)]
    rcases Nat.lt_or_ge n fs.length with h | h
    · rw [List.drop_eq_getElem_cons h, List.takeWhile_cons_of_neg (by simpa using h2 h), List.append_nil]
    · rw [List.drop_of_length_le h]; simp
  have hd : fs.dropWhile (fun g => decide (fk g < fk f)) = fs.drop n := by
    conv => lhs; rw [hs]
    rw [List.dropWhile_append_of_pos (fun g hg => by simpa using hx g hg)]
    rcases Nat.lt_or_ge n fs.length with h | h
    · rw [List.drop_eq_getElem_cons h, List.dropWhile_cons_of_neg (by simpa using h2 h)]
    · rw [List.drop_of_length_le h]; simp
  unfold placeL
  rw [ht, hd]

set_option maxRecDepth 100000 in
set_option maxHeartbeats 2000000 in
theorem ownFiles_any (v : Value) (fs : List Fl) (w : World) (hx : FlsAt w v fs) (hl : fs.length ≤ 1000) :
    Calls Tryz.prog 44 #[v] w fun e w' => ∃ v', e = .returned v' ∧ w'.ownsRow w.heap.size 59 6 v' fs.length (flatF fs) ∧ Below w.heap.size w w' := by
  obtain ⟨i0, hi0, hz0, hs0, hby0⟩ := Tryz.fileInfo
  obtain ⟨q, cap, rfl⟩ := hx.form
  have HSR : Hid (Src w q fs.length cap (flatF fs)) := src_fls hx
  obtain ⟨L, hL⟩ : ∃ L, fs.length = L := ⟨_, rfl⟩
  have HX : Hid (fs.length = L) := hL
  rw [hL] at hl ⊢
  clear hL hx
  go_enter Tryz.func44, Tryz.ntmps44
  go_wp2_with (at_builtin; (refine wpList_append_src rfl _ _ 78 rfl w.heap.size 59 i0 (.agg #[.string ⟨#[]⟩, .string ⟨#[]⟩, .int .i64 0, .int .i64 0, .int .i64 0, .int .i64 0]) 6 64 Tryz.underlying78 hi0 hz0 hs0 hby0 rfl (by decide) (.slice none 0 0) 0 [] rfl (World.ownsRow_nil _ _ _ _) q L cap (flatF fs) rfl ?qf1 ?qf2 ?qf3 ?qf4 ?qf5 ?qf6 ?_))
  any_goals first
    | exact flatF_one fs
    | (rw [flatF_len, HX.out])
    | (have h' := HSR.out; rw [HX.out] at h'; exact h')
    | (unfold maxLen; omega)
    | omega
    | exact Nat.le_refl _
  intro v3 w3 ho3 hg3 _
  have hb3 : Below w.heap.size w w3 := (Below.refl _ _).grown hg3 (Nat.le_refl _) (fun k hk => by simp [Value.ownBlock] at hk)
  have OW : Hid (w3.ownsRow w.heap.size 59 6 v3 L (flatF fs)) := by
    show w3.ownsRow _ _ _ _ _ _
    simpa using ho3
  clear ho3 hg3
  go_wp2
  go_ret
  exact ⟨v3, rfl, OW.out, hb3⟩
end Go.Proofs.YtgffkkijfmoooabGreatDoor
namespace Go.Proofs.YtgffkkijfmoooabGreatDoor
open Go.RowKit Go.Extern.Stop Go.Stop Go.Extern Go.Sort Go.Shelf Go.Lib

theorem low_succ {fs : List Fl} {z : Int} {n : Nat} (h : ∀ j (h : j < fs.length), j < n → fk fs[j] < z) (hn : n < fs.length) (e : fk fs[n] < z) : ∀ j (h : j < fs.length), j < n + 1 → fk fs[j] < z := fun j hj hjn => by
  rcases Nat.lt_or_ge j n with h' | h'
  · exact h j hj h'
  · obtain rfl : j = n := by omega
    exact e

end Go.Proofs.YtgffkkijfmoooabGreatDoor
namespace Go.Proofs.YtgffkkijfmoooabGreatDoor
open Go.RowKit Go.Extern.Stop Go.Stop Go.Extern Go.Sort Go.Shelf Go.Lib

/-- What adding a file to a list answers: an error's number (0: none), and where. -/
def addE (fs : List Fl) (f : Fl) : Nat × Option Nat := if (listE fs).1 ≠ 0 then listE fs else if fileE f ≠ 0 then (fileE f, none) else if 0 ≤ findF fs f.1 then (7, none) else if 60 ≤ fs.length then (8, none) else (0, none)
def addL (fs : List Fl) (f : Fl) : List Fl := if (addE fs f).1 = 0 then placeL fs f else []
/-- What removing a path answers. -/
def remE (fs : List Fl) (p : ByteArray) : Nat × Option Nat := if (listE fs).1 ≠ 0 then listE fs else if findF fs p < 0 then (6, none) else (0, none)
def remL (fs : List Fl) (p : ByteArray) : List Fl := if (remE fs p).1 = 0 then fs.filter (offP p) else []

theorem addE_le (fs : List Fl) (f : Fl) : (addE fs f).1 ≤ 12 := by
  unfold addE
  have h1 : (listE fs).1 ≤ 12 := by
    unfold listE
    split
    · exact (by decide : (8 : Nat) ≤ 12)
    · exact lstG_le _ _ _
  have h2 := fileE_le f
  repeat' split
  all_goals first | exact h1 | (dsimp only; omega)
theorem remE_le (fs : List Fl) (p : ByteArray) : (remE fs p).1 ≤ 12 := by
  unfold remE
  have h1 : (listE fs).1 ≤ 12 := by
    unfold listE
    split
    · exact (by decide : (8 : Nat) ≤ 12)
    · exact lstG_le _ _ _
  repeat' split
  all_goals first | exact h1 | (dsimp only; omega)

theorem FC.ne_fls {W : World} {F : Nat} {x y : Int} {v : Value} {fs : List Fl} (h : FC W F x y) (hr : FlsAt W v fs) (o : Nat) (z : Value) (o2 : Nat) (z2 : Value) : FlsAt ((W.setCell ⟨F, o, none⟩ z).setCell ⟨F, o2, none⟩ z2) v fs := by
  rcases hr with hr | ⟨b, ob, cap, hv, hl, hc⟩
  · exact Or.inl hr
  · refine Or.inr ⟨b, ob, cap, hv, hl, fun j hj => ?_⟩
    have hbF : b ≠ F := by
      rintro rfl
      have h0 := (hc j hj).1
      rw [cell_of_row _ _ _ _ _ _ h] at h0
      have hm := Array.mem_of_getElem? h0
      simp at hm
    obtain ⟨c0, c1, c2, c3, c4, c5⟩ := hc j hj
    have key : ∀ t u, W.cell? ⟨b, t, none⟩ = some u → ((W.setCell ⟨F, o, none⟩ z).setCell ⟨F, o2, none⟩ z2).cell? ⟨b, t, none⟩ = some u := fun t u hu => by
      rw [World.cell?_setCell_other _ _ _ _ (by intro e; injection e with e; exact hbF e.symm), World.cell?_setCell_other _ _ _ _ (by intro e; injection e with e; exact hbF e.symm)]
      exact hu
    exact ⟨key _ _ c0, key _ _ c1, key _ _ c2, key _ _ c3, key _ _ c4, key _ _ c5⟩
theorem fc_other {W : World} {F G : Nat} {x y : Int} (h : FC W F x y) (hne : G ≠ F) (o : Nat) (z : Value) : FC (W.setCell ⟨G, o, none⟩ z) F x y := (heap_setCell_other _ _ _ _ (fun e => hne e.symm)).trans h
theorem fl_other {W : World} {F G : Nat} {f : Fl} (h : FlAt W F f) (hne : G ≠ F) (o : Nat) (z : Value) : FlAt (W.setCell ⟨G, o, none⟩ z) F f := (heap_setCell_other _ _ _ _ (fun e => hne e.symm)).trans h

end Go.Proofs.YtgffkkijfmoooabGreatDoor
namespace Go.Proofs.YtgffkkijfmoooabGreatDoor
open Go.RowKit Go.Extern.Stop Go.Stop Go.Extern Go.Sort Go.Shelf Go.Lib

/-- An error's value tells a fault: its number, and where. -/
def ToldE (W : World) (a : Nat → Addr) (ev : Value) (c : Nat × Option Nat) : Prop := match c.2 with
  | none => ev = errV a c.1
  | some j => c.1 ≠ 0 ∧ ∃ fb, ev = .iface 92 (.pointer (some ⟨fb, 0, none⟩)) ∧ W.cell? ⟨fb, 0, none⟩ = some (.int .i64 j) ∧ W.cell? ⟨fb, 1, none⟩ = some (errV a c.1)

theorem ToldE.ok {W : World} {a : Nat → Addr} {ev : Value} {c : Nat × Option Nat} (h : ToldE W a ev c) (h0 : c.1 = 0) : ev = .nilIface := by
  obtain ⟨n, o⟩ := c
  dsimp only at h0
  subst h0
  cases o with
  | none => exact h
  | some j => exact absurd rfl h.1

theorem ToldE.bad {W : World} {a : Nat → Addr} {ev : Value} {c : Nat × Option Nat} (h : ToldE W a ev c) (h0 : c.1 ≠ 0) : ∃ t u, ev = .iface t u := by
  obtain ⟨n, o⟩ := c
  cases o with
  | none =>
    cases n with
    | zero => exact absurd rfl h0
    | succ n => exact ⟨_, _, h⟩
  | some j =>
    obtain ⟨_, fb, h, _⟩ := h
    exact ⟨_, _, h⟩

/-- A cell that is no number, and the one ahead of it, are as they were. -/
def KeepsC (W W' : World) : Prop := ∀ (fb : Nat) (x : Value), W.cell? ⟨fb, 1, none⟩ = some x → (∀ n : Int, x ≠ .int .i64 n) → W'.cell? ⟨fb, 0, none⟩ = W.cell? ⟨fb, 0, none⟩ ∧ W'.cell? ⟨fb, 1, none⟩ = W.cell? ⟨fb, 1, none⟩

theorem keepsC_below {W W' : World} (hb : Below W.heap.size W W') : KeepsC W W' := by
  intro fb x h _
  have e := hb.block fb (cell_lt h)
  unfold World.cell?
  rw [e]
  exact ⟨rfl, rfl⟩

theorem keepsC_set {W W1 : World} (h : KeepsC W W1) {F : Nat} {x y : Int} (hF : FC W1 F x y) (z z2 : Value) : KeepsC W ((W1.setCell ⟨F, 0, none⟩ z).setCell ⟨F, 1, none⟩ z2) := by
  intro fb u hu hn
  obtain ⟨h0, h1⟩ := h fb u hu hn
  have hne : F ≠ fb := by
    intro e
    subst e
    rw [hF.c1, hu] at h1
    exact hn y (Option.some.inj h1).symm
  rw [← h0, ← h1]
  have hk : ∀ p, ((W1.setCell ⟨F, 0, none⟩ z).setCell ⟨F, 1, none⟩ z2).cell? ⟨fb, p, none⟩ = W1.cell? ⟨fb, p, none⟩ := fun p => by
    rw [World.cell?_setCell_other _ _ _ _ (by intro e; injection e with e; exact hne e), World.cell?_setCell_other _ _ _ _ (by intro e; injection e with e; exact hne e)]
  exact ⟨hk 0, hk 1⟩

theorem ToldE.keep {W W' : World} {a : Nat → Addr} {ev : Value} {c : Nat × Option Nat} (h : ToldE W a ev c) (hk : KeepsC W W') : ToldE W' a ev c := by
  obtain ⟨n, o⟩ := c
  cases o with
  | none => exact h
  | some j =>
    obtain ⟨h0, fb, h1, c0, c1⟩ := h
    obtain ⟨k0, k1⟩ := hk fb _ c1 (fun z e => by
      cases n with
      | zero => exact h0 rfl
      | succ n => simp [errV] at e)
    exact ⟨h0, fb, h1, k0.trans c0, k1.trans c1⟩

def Short (fs : List Fl) : Prop := ∀ g ∈ fs, g.1.size ≤ 30 ∧ g.2.1.size ≤ 30

/-- A file in a block of its own, as a variable of a loop has it. -/
def boxW (W : World) (f : Fl) : World := W.alloc (.cells #[.string f.1, .string f.2.1, .int .i64 f.2.2.1, .int .i64 f.2.2.2.1, .int .i64 f.2.2.2.2.1, .int .i64 f.2.2.2.2.2] 59)
theorem boxW_at (W : World) (f : Fl) : FlAt (boxW W f) W.heap.size f := FlAt.new W f
theorem boxW_below (W : World) (f : Fl) : Below W.heap.size W (boxW W f) := (Below.refl _ _).alloc (Nat.le_refl _) _

theorem flsAt_take {w : World} {b o cap : Nat} {fs : List Fl} (h : FlCells w b o fs) {n : Nat} (hn : n ≤ fs.length) (hc : fs.length ≤ cap) : FlsAt w (.slice (some ⟨b, o, none⟩) n cap) (fs.take n) := by
  refine Or.inr ⟨b, o, cap, ?_, ?_, flCells_take h n⟩
  · rw [List.length_take, Nat.min_eq_left hn]
  · rw [List.length_take]; omega

theorem flsAt_drop {w : World} {b o cap L : Nat} {fs : List Fl} (h : FlCells w b o fs) {n : Nat} (hn : n ≤ fs.length) (hc : fs.length ≤ cap) (hL : fs.length = L) : FlsAt w (.slice (some ⟨b, o + n * 6, none⟩) (L - n) (cap - n)) (fs.drop n) := by
  refine Or.inr ⟨b, o + n * 6, cap - n, ?_, ?_, flCells_drop h n⟩
  · rw [List.length_drop, hL]
  · rw [List.length_drop]; omega
end Go.Proofs.YtgffkkijfmoooabGreatDoor
