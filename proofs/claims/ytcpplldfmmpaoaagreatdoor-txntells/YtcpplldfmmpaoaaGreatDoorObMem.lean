/-
  Objects in memory: three cells an element; what turns but for some blocks.
-/
import Derived.Test.YtcpplldfmmpaoaaGreatDoorRefList6
namespace Go.Proofs.YtcpplldfmmpaoaaGreatDoor
open Go.RowKit Go.Extern.Stop Go.Stop Go.Extern Go.Sort Go.Shelf Go.Lib

theorem SnAt.fz {W : World} {b : Nat} {s : Sn} {vf : Value} (h : SnAt W b s vf) (o : Nat) : W.frozen? ⟨b, o, none⟩ = false := frozen_of_row _ _ _ _ _ h

def snSet (W : World) (b : Nat) (s : Sn) (vf : Value) : World := ((((((W.setCell ⟨b, 0, none⟩ (.int .i64 s.1)).setCell ⟨b, 1, none⟩ (.int .i64 s.2.1)).setCell ⟨b, 2, none⟩ (.int .i64 s.2.2.1)).setCell ⟨b, 3, none⟩ (.int .i64 s.2.2.2.1)).setCell ⟨b, 4, none⟩ (.int .i64 s.2.2.2.2.1)).setCell ⟨b, 5, none⟩ (.string s.2.2.2.2.2.1)).setCell ⟨b, 6, none⟩ vf
theorem SnAt.set {W : World} {b : Nat} {s : Sn} {vf : Value} (h : SnAt W b s vf) (s' : Sn) (vf' : Value) : SnAt (snSet W b s' vf') b s' vf' := by
  unfold SnAt snSet at *
  rw [heap_setCell_same _ _ _ _ _ _ (heap_setCell_same _ _ _ _ _ _ (heap_setCell_same _ _ _ _ _ _ (heap_setCell_same _ _ _ _ _ _ (heap_setCell_same _ _ _ _ _ _ (heap_setCell_same _ _ _ _ _ _ (heap_setCell_same _ _ _ _ _ _ h))))))]
  rfl
theorem snSet_below {W W0 : World} {B b : Nat} {s : Sn} {vf : Value} (h : Below B W0 W) (hb : B ≤ b) : Below B W0 (snSet W b s vf) := ((((((h.setCell hb _).setCell hb _).setCell hb _).setCell hb _).setCell hb _).setCell hb _).setCell hb _

theorem sn_other {W : World} {F G : Nat} {s : Sn} {vf : Value} (h : SnAt W F s vf) (hne : G ≠ F) (o : Nat) (z : Value) : SnAt (W.setCell ⟨G, o, none⟩ z) F s vf := (heap_setCell_other _ _ _ _ (fun e => hne e.symm)).trans h

def OffF (v : Value) (fs : List Fl) (R : Nat) : Prop := ∀ b o c n, v = .slice (some ⟨b, o, none⟩) n c → fs ≠ [] → b ≠ R

theorem off_of {W : World} {R : Nat} {s : Sn} {q : Option Addr} {n c : Nat} {v : Value} {fs : List Fl} (h : SnAt W R s (.slice q n c)) (hr : FlsAt W v fs) : OffF v fs R := by
  intro b o c' n' hv hne e
  subst e
  rcases hr with ⟨_, _, _, _, e⟩ | ⟨b2, o2, c2, e2, _, hc⟩
  · exact hne e
  · rw [e2] at hv
    injection hv with e3
    injection e3 with e3
    injection e3 with e3 e4
    subst e3
    subst e4
    obtain ⟨h0, h1, _⟩ := hc 0 (List.length_pos_iff.2 hne)
    rw [cell_of_row _ _ _ _ _ _ h] at h0 h1
    simp only [Nat.zero_mul, Nat.add_zero] at h0 h1
    match o2, h0, h1 with
    | 0, h0, _ => simp at h0
    | 1, h0, _ => simp at h0
    | 2, h0, _ => simp at h0
    | 3, h0, _ => simp at h0
    | 4, h0, _ => simp at h0
    | 5, _, h1 => simp at h1
    | 6, h0, _ => simp at h0
    | k + 7, h0, _ => simp at h0

theorem FlsAt.set_off {W : World} {R : Nat} {v : Value} {fs : List Fl} (h : FlsAt W v fs) (ho : OffF v fs R) (k : Nat) (z : Value) : FlsAt (W.setCell ⟨R, k, none⟩ z) v fs := by
  rcases h with h | ⟨b, o, c, hv, hl, hc⟩
  · exact Or.inl h
  · by_cases hne : fs = []
    · exact Or.inl ⟨some ⟨b, o, none⟩, c, by rw [hv, hne]; rfl, fun e => (nomatch e), hne⟩
    · have hb := ho b o c _ hv hne
      have hk : ∀ p, (W.setCell ⟨R, k, none⟩ z).cell? ⟨b, p, none⟩ = W.cell? ⟨b, p, none⟩ := fun p => World.cell?_setCell_other _ _ _ _ (by intro e; injection e with e; exact hb e.symm)
      refine Or.inr ⟨b, o, c, hv, hl, fun j hj => ?_⟩
      obtain ⟨h0, h1, h2, h3, h4, h5⟩ := hc j hj
      exact ⟨(hk _).trans h0, (hk _).trans h1, (hk _).trans h2, (hk _).trans h3, (hk _).trans h4, (hk _).trans h5⟩

end Go.Proofs.YtcpplldfmmpaoaaGreatDoor
namespace Go.Proofs.YtcpplldfmmpaoaaGreatDoor
open Go.RowKit Go.Extern.Stop Go.Stop Go.Extern Go.Sort Go.Shelf Go.Lib

def ToldE (W : World) (a : Nat → Addr) (ev : Value) (c : Nat × Option Nat) : Prop := match c.2 with
  | none => ev = errV a c.1
  | some j => c.1 ≠ 0 ∧ ∃ fb, ev = .iface 74 (.pointer (some ⟨fb, 0, none⟩)) ∧ W.cell? ⟨fb, 0, none⟩ = some (.int .i64 j) ∧ W.cell? ⟨fb, 1, none⟩ = some (errV a c.1)

theorem ToldE.ok {W : World} {a : Nat → Addr} {ev : Value} {c : Nat × Option Nat} (h : ToldE W a ev c) (h0 : c.1 = 0) : ev = .nilIface := by
  obtain ⟨n, o⟩ := c
  dsimp only at h0
  subst h0
  cases o with
  | none => exact h
  | some j => exact absurd rfl h.1

theorem ToldE.bad {W : World} {a : Nat → Addr} {ev : Value} {c : Nat × Option Nat} (h : ToldE W a ev c) (h0 : c.1 ≠ 0) : ∃ t u, ev = .iface t u := by
  obtain ⟨n, o⟩ := c
  cases o with
  | none =>
    cases n with
    | zero => exact absurd rfl h0
    | succ n => exact ⟨_, _, h⟩
  | some j =>
    obtain ⟨_, fb, h, _⟩ := h
    exact ⟨_, _, h⟩

def KeepsC (W W' : World) : Prop := ∀ (fb : Nat) (x : Value), W.cell? ⟨fb, 1, none⟩ = some x → (∀ n : Int, x ≠ .int .i64 n) → W'.cell? ⟨fb, 0, none⟩ = W.cell? ⟨fb, 0, none⟩ ∧ W'.cell? ⟨fb, 1, none⟩ = W.cell? ⟨fb, 1, none⟩

theorem keepsC_below {W W' : World} (hb : Below W.heap.size W W') : KeepsC W W' := by
  intro fb x h _
  have e := hb.block fb (cell_lt h)
  unfold World.cell?
  rw [e]
  exact ⟨rfl, rfl⟩

theorem ToldE.keep {W W' : World} {a : Nat → Addr} {ev : Value} {c : Nat × Option Nat} (h : ToldE W a ev c) (hk : KeepsC W W') : ToldE W' a ev c := by
  obtain ⟨n, o⟩ := c
  cases o with
  | none => exact h
  | some j =>
    obtain ⟨h0, fb, h1, c0, c1⟩ := h
    obtain ⟨k0, k1⟩ := hk fb _ c1 (fun z e => by
      cases n with
      | zero => exact h0 rfl
      | succ n => simp [errV] at e)
    exact ⟨h0, fb, h1, k0.trans c0, k1.trans c1⟩

def Short (fs : List Fl) : Prop := ∀ g ∈ fs, g.1.size ≤ 30 ∧ g.2.1.size ≤ 30

def boxW (W : World) (f : Fl) : World := W.alloc (.cells #[.string f.1, .string f.2.1, .int .i64 f.2.2.1, .int .i64 f.2.2.2.1, .int .i64 f.2.2.2.2.1, .int .i64 f.2.2.2.2.2] 37)
theorem boxW_at (W : World) (f : Fl) : FlAt (boxW W f) W.heap.size f := FlAt.new W f
theorem boxW_below (W : World) (f : Fl) : Below W.heap.size W (boxW W f) := (Below.refl _ _).alloc (Nat.le_refl _) _

theorem flsAt_take {w : World} {b o cap : Nat} {fs : List Fl} (h : FlCells w b o fs) {n : Nat} (hn : n ≤ fs.length) (hc : fs.length ≤ cap) : FlsAt w (.slice (some ⟨b, o, none⟩) n cap) (fs.take n) := by
  refine Or.inr ⟨b, o, cap, ?_, ?_, flCells_take h n⟩
  · rw [List.length_take, Nat.min_eq_left hn]
  · rw [List.length_take]; omega

end Go.Proofs.YtcpplldfmmpaoaaGreatDoor
namespace Go.Proofs.YtcpplldfmmpaoaaGreatDoor
open Go.RowKit Go.Extern.Stop Go.Stop Go.Extern Go.Sort Go.Shelf Go.Lib

def firstS : Sn := (1, 0, 0, 0, 0, ⟨#[115, 116, 97, 114, 116]⟩, [])

theorem file_kind {f : Fl} (h : fileE f = 0) : 0 ≤ f.2.2.1 ∧ f.2.2.1 ≤ 40 ∧ ∃ g n, pathO f.1.data.toList = some (g, n) ∧ (g = true ↔ f.2.1.data.toList = [45]) := by
  obtain ⟨g, n, hp, hq, hb⟩ := file_good h
  have hb' := hb
  unfold bndB at hb'
  simp only [Bool.and_eq_true, decide_eq_true_eq] at hb'
  refine ⟨by omega, by omega, g, n, hp, ?_⟩
  unfold partB at hq
  cases g
  · simp only [Bool.false_eq_true, if_false, false_iff] at hq ⊢
    intro e
    rw [e] at hq
    revert hq
    decide
  · simp only [if_true, decide_eq_true_eq, true_iff] at hq ⊢
    exact hq

end Go.Proofs.YtcpplldfmmpaoaaGreatDoor
namespace Go.Proofs.YtcpplldfmmpaoaaGreatDoor
open Go Go.Lib

abbrev Tx := Sn × List Fl × List ByteArray

def atSeq (f : Fl) (n : Int) : Fl := (f.1, f.2.1, f.2.2.1, f.2.2.2.1, f.2.2.2.2.1, n)

def hasP (fs : List Fl) (p : ByteArray) : Bool := fs.any fun f => decide (f.1 = p)
def inT (ts : List ByteArray) (p : ByteArray) : Bool := ts.any fun t => decide (t = p)

theorem hasP_iff {fs : List Fl} {p : ByteArray} : hasP fs p = true ↔ ∃ f ∈ fs, f.1 = p := by simp [hasP]
theorem inT_iff {ts : List ByteArray} {p : ByteArray} : inT ts p = true ↔ p ∈ ts := by
  simp only [inT, List.any_eq_true, decide_eq_true_eq]
  exact ⟨fun ⟨x, hx, e⟩ => e ▸ hx, fun h => ⟨p, h, rfl⟩⟩
theorem inT_no {ts : List ByteArray} {p : ByteArray} : inT ts p = false ↔ p ∉ ts := by
  rw [← inT_iff]; simp
theorem hasP_no {fs : List Fl} {p : ByteArray} : hasP fs p = false ↔ ∀ f ∈ fs, f.1 ≠ p := by
  simp [hasP]

theorem findF_has (fs : List Fl) (p : ByteArray) : decide (0 ≤ findF fs p) = hasP fs p := by
  by_cases h : ∃ f ∈ fs, f.1 = p
  · have hn : ∃ n, ∃ h : n < fs.length, fs[n].1 = p ∧ ∀ j (hj : j < fs.length), j < n → fs[j].1 ≠ p := by
      obtain ⟨f, hf, e⟩ := h
      obtain ⟨i, hi, rfl⟩ := List.mem_iff_getElem.1 hf
      clear hf
      induction i using Nat.strongRecOn with
      | ind i ih =>
        by_cases hh : ∃ j, ∃ hj : j < fs.length, j < i ∧ fs[j].1 = p
        · obtain ⟨j, hj, hji, ej⟩ := hh
          exact ih j hji hj ej
        · exact ⟨i, hi, e, fun j hj hji ej => hh ⟨j, hj, hji, ej⟩⟩
    obtain ⟨n, hn, e, hno⟩ := hn
    rw [findF_at hn hno e, hasP_iff.2 h]
    simp
  · have hno : ∀ f ∈ fs, f.1 ≠ p := fun f hf e => h ⟨f, hf, e⟩
    rw [findF_no (fun j hj => hno _ (List.getElem_mem hj)), hasP_no.2 hno]
    rfl

def tAddE (t : Tx) (f : Fl) : Nat := if fileE (atSeq f 1) ≠ 0 then fileE (atSeq f 1) else if hasP t.2.1 f.1 = true then 7 else 0
def tAdd (t : Tx) (f : Fl) : Tx := if tAddE t f = 0 then (t.1, t.2.1 ++ [atSeq f 1], t.2.2) else t
def tRemE (t : Tx) (p : ByteArray) : Nat := if hasP t.1.2.2.2.2.2.2 p = false then 6 else if inT t.2.2 p = true then 7 else 0
def tRem (t : Tx) (p : ByteArray) : Tx := if tRemE t p = 0 then (t.1, t.2.1, t.2.2 ++ [p]) else t

def tSeq (t : Tx) (now : Sn) (f : Fl) : Int := if 0 < t.2.2.length ∧ f.2.1.data.toList ≠ [45] then t.1.2.2.1 else now.2.2.1 + 1
def tNew (t : Tx) (now : Sn) : List Fl := t.2.1.map fun f => atSeq f (tSeq t now f)
def tLeft (t : Tx) (now : Sn) : List Fl := now.2.2.2.2.2.2.filter fun f => !inT t.2.2 f.1
def tFiles (t : Tx) (now : Sn) : List Fl := (tNew t now).foldl placeL (tLeft t now)
def goneAny (t : Tx) : Bool := t.2.1.any fun f => decide (f.2.1.data.toList = [45])
def tOp (t : Tx) : ByteArray := if 0 < t.2.2.length then bytesOf kRewrite else if goneAny t = true then bytesOf kDelete else bytesOf kAppend
def tSnap (t : Tx) (now : Sn) (id day idx : Int) : Sn := (id, now.1, now.2.2.1 + 1, day, idx, tOp t, tFiles t now)
def tStale (t : Tx) (now : Sn) : Bool := t.2.2.any fun p => !hasP now.2.2.2.2.2.2 p
def tThere (t : Tx) (now : Sn) : Bool := t.2.1.any fun f => hasP now.2.2.2.2.2.2 f.1
def tComE (t : Tx) (now : Sn) (id day idx : Int) : Nat × Option Nat :=
  if (snapE now).1 ≠ 0 then snapE now else if tStale t now = true then (11, none) else if tThere t now = true then (7, none) else ((snapE (tSnap t now id day idx)).1, none)
def tCom (t : Tx) (now : Sn) (id day idx : Int) : Sn := if (tComE t now id day idx).1 = 0 then tSnap t now id day idx else zeroS

structure TxOk (t : Tx) : Prop where
  base : (snapE t.1).1 = 0
  adds : ∀ f ∈ t.2.1, fileE f = 0
  apart : t.2.1.Pairwise fun f g => f.1 ≠ g.1
  rems : ∀ p ∈ t.2.2, hasP t.1.2.2.2.2.2.2 p = true
  ones : t.2.2.Pairwise (· ≠ ·)

theorem txOk_begin {s : Sn} (h : (snapE s).1 = 0) : TxOk (s, [], []) := ⟨h, by simp, by simp, by simp, by simp⟩

theorem tAddE_zero {t : Tx} {f : Fl} (h : tAddE t f = 0) : fileE (atSeq f 1) = 0 ∧ hasP t.2.1 f.1 = false := by
  unfold tAddE at h
  split at h
  · rename_i h'; exact absurd h h'
  · rename_i h'
    split at h
    · cases h
    · rename_i h2
      exact ⟨by simpa using h', by simpa using h2⟩

theorem TxOk.add {t : Tx} (h : TxOk t) (f : Fl) : TxOk (tAdd t f) := by
  unfold tAdd
  split
  · rename_i h0
    obtain ⟨h1, h2⟩ := tAddE_zero h0
    refine ⟨h.base, fun g hg => ?_, ?_, h.rems, h.ones⟩
    · rw [List.mem_append, List.mem_singleton] at hg
      rcases hg with hg | rfl
      · exact h.adds g hg
      · exact h1
    · rw [List.pairwise_append]
      refine ⟨h.apart, by simp, fun g hg k hk => ?_⟩
      rw [List.mem_singleton] at hk
      subst hk
      exact hasP_no.1 h2 g hg
  · exact h

theorem tRemE_zero {t : Tx} {p : ByteArray} (h : tRemE t p = 0) : hasP t.1.2.2.2.2.2.2 p = true ∧ inT t.2.2 p = false := by
  unfold tRemE at h
  split at h
  · cases h
  · rename_i h'
    split at h
    · cases h
    · rename_i h2
      exact ⟨by simpa using h', by simpa using h2⟩

theorem TxOk.rem {t : Tx} (h : TxOk t) (p : ByteArray) : TxOk (tRem t p) := by
  unfold tRem
  split
  · rename_i h0
    obtain ⟨h1, h2⟩ := tRemE_zero h0
    refine ⟨h.base, h.adds, h.apart, fun q hq => ?_, ?_⟩
    · rw [List.mem_append, List.mem_singleton] at hq
      rcases hq with hq | rfl
      · exact h.rems q hq
      · exact h1
    · rw [List.pairwise_append]
      refine ⟨h.ones, by simp, fun q hq k hk => ?_⟩
      rw [List.mem_singleton] at hk
      subst hk
      intro e
      subst e
      exact inT_no.1 h2 hq
  · exact h

theorem tAddE_le (t : Tx) (f : Fl) : tAddE t f ≤ 12 := by
  unfold tAddE
  have := fileE_le (atSeq f 1)
  split
  · omega
  · split <;> omega
theorem tRemE_le (t : Tx) (p : ByteArray) : tRemE t p ≤ 12 := by
  unfold tRemE
  split
  · omega
  · split <;> omega
theorem tComE_le (t : Tx) (now : Sn) (id day idx : Int) : (tComE t now id day idx).1 ≤ 12 := by
  unfold tComE
  split
  · exact snapE_le _
  · split
    · exact (by decide : (11 : Nat) ≤ 12)
    · split
      · exact (by decide : (7 : Nat) ≤ 12)
      · exact snapE_le _

def UpF (fs : List Fl) : Prop := fs.Pairwise fun f g => fk f < fk g

theorem placeL_cons (g : Fl) (r : List Fl) (f : Fl) : placeL (g :: r) f = if fk g < fk f then g :: placeL r f else f :: g :: r := by
  unfold placeL
  by_cases h : fk g < fk f
  · rw [if_pos h, List.takeWhile_cons_of_pos (by simpa using h), List.dropWhile_cons_of_pos (by simpa using h)]
    rfl
  · rw [if_neg h, List.takeWhile_cons_of_neg (by simpa using h), List.dropWhile_cons_of_neg (by simpa using h)]
    rfl

theorem place_perm (fs : List Fl) (f : Fl) : (placeL fs f).Perm (f :: fs) := by
  unfold placeL
  have h : fs = fs.takeWhile (fun g => decide (fk g < fk f)) ++ fs.dropWhile (fun g => decide (fk g < fk f)) := by rw [List.takeWhile_append_dropWhile]
  conv => rhs; rw [h]
  exact List.perm_middle

theorem place_mem {fs : List Fl} {f x : Fl} : x ∈ placeL fs f ↔ x = f ∨ x ∈ fs := by
  rw [(place_perm fs f).mem_iff, List.mem_cons]

theorem place_up : ∀ {fs : List Fl} {f : Fl}, UpF fs → (∀ g ∈ fs, fk g ≠ fk f) → UpF (placeL fs f)
  | [], f, _, _ => by simp [UpF, placeL]
  | g :: r, f, h, hn => by
    have h' := List.pairwise_cons.1 h
    have hg := hn g List.mem_cons_self
    rw [placeL_cons]
    split
    · rename_i hlt
      refine List.pairwise_cons.2 ⟨fun x hx => ?_, place_up h'.2 fun x hx => hn x (List.mem_cons_of_mem _ hx)⟩
      rcases place_mem.1 hx with rfl | hx
      · exact hlt
      · exact h'.1 x hx
    · rename_i hlt
      refine List.pairwise_cons.2 ⟨fun x hx => ?_, h⟩
      rw [List.mem_cons] at hx
      rcases hx with rfl | hx
      · omega
      · have := h'.1 x hx
        omega

theorem fold_perm : ∀ (ys xs : List Fl), (ys.foldl placeL xs).Perm (xs ++ ys)
  | [], xs => by simp
  | y :: ys, xs => by
    refine (fold_perm ys (placeL xs y)).trans ?_
    refine ((place_perm xs y).append_right ys).trans ?_
    simpa using (List.perm_middle (a := y) (l₁ := xs) (l₂ := ys)).symm

theorem fold_up : ∀ (ys xs : List Fl), UpF xs → (xs ++ ys).Pairwise (fun f g => fk f ≠ fk g) → UpF (ys.foldl placeL xs)
  | [], xs, h, _ => h
  | y :: ys, xs, h, hp => by
    have h1 := List.pairwise_append.1 hp
    have hxy : ∀ g ∈ xs, fk g ≠ fk y := fun g hg => h1.2.2 g hg y List.mem_cons_self
    refine fold_up ys (placeL xs y) (place_up h hxy) ?_
    have h2 := List.pairwise_cons.1 h1.2.1
    rw [List.pairwise_append]
    refine ⟨(place_up h hxy).imp fun h' => by omega, h2.2, fun g hg k hk => ?_⟩
    rcases place_mem.1 hg with rfl | hg
    · exact h2.1 k hk
    · exact h1.2.2 g hg k (List.mem_cons_of_mem _ hk)

theorem up_unique : ∀ {xs ys : List Fl}, UpF xs → UpF ys → xs.Perm ys → xs = ys
  | [], ys, _, _, h => (List.nil_perm.1 h).symm
  | x :: xs, [], _, _, h => absurd h.length_eq (by simp)
  | x :: xs, y :: ys, hx, hy, h => by
    have h1 := List.pairwise_cons.1 hx
    have h2 := List.pairwise_cons.1 hy
    have e : x = y := by
      have m1 : x ∈ y :: ys := h.mem_iff.1 List.mem_cons_self
      have m2 : y ∈ x :: xs := h.mem_iff.2 List.mem_cons_self
      rw [List.mem_cons] at m1 m2
      rcases m1 with m1 | m1
      · exact m1
      · rcases m2 with m2 | m2
        · exact m2.symm
        · have a := h2.1 x m1
          have b := h1.1 y m2
          omega
    subst e
    rw [up_unique h1.2 h2.2 h.cons_inv]

theorem snap_rises {s : Sn} (h : (snapE s).1 = 0) : s.2.2.2.2.2.2.length ≤ 60 ∧ Rises 0 s.2.2.2.2.2.2 := listE_ok.1 (snap_good h).2.2.1

theorem fk_ne {f g : Fl} (hf : pathO f.1.data.toList ≠ none) (hg : pathO g.1.data.toList ≠ none) (h : f.1 ≠ g.1) : fk f ≠ fk g := fun e => h (by
  have e2 := pk_inj hf hg e
  have : bytesOf f.1.data.toList = bytesOf g.1.data.toList := by rw [e2]
  rwa [bytesOf_data, bytesOf_data] at this)

theorem tAll_apart {t : Tx} {now : Sn} (ht : TxOk t) (hn : (snapE now).1 = 0) (hno : tThere t now = false) :
    (∀ f ∈ tLeft t now ++ tNew t now, pathO f.1.data.toList ≠ none) ∧ (tLeft t now ++ tNew t now).Pairwise (fun f g => fk f ≠ fk g) ∧ UpF (tLeft t now) := by
  obtain ⟨_, hr1, hr2⟩ := snap_rises hn
  have hp1 : ∀ f ∈ tLeft t now, f ∈ now.2.2.2.2.2.2 := fun f hf => (List.mem_filter.1 hf).1
  have hp2 : ∀ f ∈ tNew t now, ∃ g ∈ t.2.1, g.1 = f.1 := fun f hf => by
    obtain ⟨g, hg, rfl⟩ := List.mem_map.1 hf
    exact ⟨g, hg, rfl⟩
  have hq1 : ∀ f ∈ tLeft t now, pathO f.1.data.toList ≠ none := fun f hf => ok_path (hr1 f (hp1 f hf)).1
  have hq2 : ∀ f ∈ tNew t now, pathO f.1.data.toList ≠ none := fun f hf => by
    obtain ⟨g, hg, e⟩ := hp2 f hf
    rw [← e]
    exact ok_path (ht.adds g hg)
  have hup : UpF (tLeft t now) := List.Pairwise.sublist List.filter_sublist hr2
  refine ⟨fun f hf => ?_, ?_, hup⟩
  · rcases List.mem_append.1 hf with h | h
    · exact hq1 f h
    · exact hq2 f h
  · rw [List.pairwise_append]
    refine ⟨hup.imp fun h => by omega, ?_, fun f hf g hg => ?_⟩
    · refine List.pairwise_map.2 ?_
      refine List.Pairwise.imp_of_mem (fun {f g} hf hg h => ?_) ht.apart
      exact fk_ne (f := atSeq f _) (g := atSeq g _) (show pathO f.1.data.toList ≠ none from ok_path (ht.adds f hf)) (show pathO g.1.data.toList ≠ none from ok_path (ht.adds g hg)) h
    · refine fk_ne (hq1 f hf) (hq2 g hg) fun e => ?_
      obtain ⟨k, hk, ek⟩ := hp2 g hg
      have : tThere t now = true := by
        simp only [tThere, List.any_eq_true]
        exact ⟨k, hk, hasP_iff.2 ⟨f, hp1 f hf, by rw [e, ek]⟩⟩
      rw [hno] at this
      cases this

theorem tFiles_up {t : Tx} {now : Sn} (ht : TxOk t) (hn : (snapE now).1 = 0) (hno : tThere t now = false) : UpF (tFiles t now) := by
  obtain ⟨_, h2, h3⟩ := tAll_apart ht hn hno
  exact fold_up _ _ h3 h2

theorem tFiles_sorted {t : Tx} {now : Sn} (ht : TxOk t) (hn : (snapE now).1 = 0) (hno : tThere t now = false) {ys : List Fl} (hp : ys.Perm (tLeft t now ++ tNew t now)) (hu : UpF ys) : ys = tFiles t now :=
  up_unique hu (tFiles_up ht hn hno) (hp.trans (fold_perm _ _).symm)

theorem tFiles_mem {t : Tx} {now : Sn} {x : Fl} : x ∈ tFiles t now ↔ (x ∈ now.2.2.2.2.2.2 ∧ x.1 ∉ t.2.2) ∨ x ∈ tNew t now := by
  unfold tFiles
  rw [(fold_perm _ _).mem_iff, List.mem_append]
  unfold tLeft
  rw [List.mem_filter]
  simp only [Bool.not_eq_true', inT_no]

theorem tCom_zero {t : Tx} {now : Sn} {id day idx : Int} (h : (tComE t now id day idx).1 = 0) : (snapE now).1 = 0 ∧ tStale t now = false ∧ tThere t now = false ∧ (snapE (tSnap t now id day idx)).1 = 0 ∧ tCom t now id day idx = tSnap t now id day idx := by
  have h0 := h
  unfold tComE at h
  split at h
  · rename_i h'; exact absurd h h'
  · rename_i h1
    split at h
    · cases h
    · rename_i h2
      split at h
      · cases h
      · rename_i h3
        exact ⟨by simpa using h1, by simpa using h2, by simpa using h3, h, by unfold tCom; rw [if_pos h0]⟩

theorem tCom_bad {t : Tx} {now : Sn} {id day idx : Int} (h : (tComE t now id day idx).1 ≠ 0) : tCom t now id day idx = zeroS := by unfold tCom; rw [if_neg h]

end Go.Proofs.YtcpplldfmmpaoaaGreatDoor
namespace Go.Proofs.YtcpplldfmmpaoaaGreatDoor
open Go.RowKit Go.Extern.Stop Go.Stop Go.Extern Go.Sort Go.Shelf Go.Lib

structure But (P : Nat → Prop) (w w' : World) : Prop where
  os : w'.os = w.os
  tape : w'.tape = w.tape
  output : w'.output = w.output
  size : w.heap.size ≤ w'.heap.size
  block : ∀ k, k < w.heap.size → ¬ P k → w'.heap[k]? = w.heap[k]?

theorem But.refl (P : Nat → Prop) (w : World) : But P w w := ⟨rfl, rfl, rfl, Nat.le_refl _, fun _ _ _ => rfl⟩
theorem But.trans {P Q : Nat → Prop} {a b c : World} (h : But P a b) (k : But Q b c) (hq : ∀ i, Q i → i < a.heap.size → P i) : But P a c :=
  ⟨k.os.trans h.os, k.tape.trans h.tape, k.output.trans h.output, Nat.le_trans h.size k.size, fun i hi hp => (k.block i (Nat.lt_of_lt_of_le hi h.size) (fun hQ => hp (hq i hQ hi))).trans (h.block i hi hp)⟩
theorem But.of_below {P : Nat → Prop} {w w' : World} (h : Below w.heap.size w w') : But P w w' := ⟨h.os, h.tape, h.output, h.size, fun k hk _ => h.block k hk⟩
theorem But.below {P : Nat → Prop} {w w' : World} (h : But P w w') {B : Nat} (hB : B ≤ w.heap.size) (hp : ∀ k, P k → B ≤ k) : Below B w w' :=
  ⟨h.os, h.tape, h.output, h.size, fun k hk => h.block k (Nat.lt_of_lt_of_le hk hB) (fun hP => Nat.lt_irrefl _ (Nat.lt_of_lt_of_le hk (hp k hP)))⟩
theorem But.mono {P Q : Nat → Prop} {w w' : World} (h : But P w w') (hq : ∀ k, P k → Q k) : But Q w w' := ⟨h.os, h.tape, h.output, h.size, fun k hk hQ => h.block k hk (fun hP => hQ (hq k hP))⟩
theorem But.setCell {P : Nat → Prop} {a w : World} (h : But P a w) {b o : Nat} (hp : P b ∨ a.heap.size ≤ b) (u : Value) : But P a (w.setCell ⟨b, o, none⟩ u) := by
  refine ⟨h.os, h.tape, h.output, ?_, fun k hk hP => ?_⟩
  · have : (w.setCell ⟨b, o, none⟩ u).heap.size = w.heap.size := by simp [World.setCell]
    rw [this]; exact h.size
  · rw [heap_setCell_other _ _ _ _ (fun e => by
      subst e
      rcases hp with hp | hp
      · exact hP hp
      · omega)]
    exact h.block k hk hP
theorem But.keep {P : Nat → Prop} {w w' : World} (h : But P w w') {b o : Nat} {v : Value} (hb : ¬ P b) (hc : w.cell? ⟨b, o, none⟩ = some v) : w'.cell? ⟨b, o, none⟩ = some v := by
  have e := h.block b (cell_lt hc) hb
  rw [← hc]
  unfold World.cell?
  rw [e]

end Go.Proofs.YtcpplldfmmpaoaaGreatDoor
