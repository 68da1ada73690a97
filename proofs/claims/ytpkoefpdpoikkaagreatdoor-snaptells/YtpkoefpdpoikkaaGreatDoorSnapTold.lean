/-
  The first snap; the rows and the keys of a snap's files; what reading one hands back.
-/
import Derived.Test.YtpkoefpdpoikkaaGreatDoorRefList7
namespace Go.Proofs.YtpkoefpdpoikkaaGreatDoor
open Go.RowKit Go.Extern.Stop Go.Stop Go.Extern Go.Sort Go.Shelf Go.Lib

theorem SnAt.fz {W : World} {b : Nat} {s : Sn} {vf : Value} (h : SnAt W b s vf) (o : Nat) : W.frozen? ⟨b, o, none⟩ = false := frozen_of_row _ _ _ _ _ h

def snSet (W : World) (b : Nat) (s : Sn) (vf : Value) : World := ((((((W.setCell ⟨b, 0, none⟩ (.int .i64 s.1)).setCell ⟨b, 1, none⟩ (.int .i64 s.2.1)).setCell ⟨b, 2, none⟩ (.int .i64 s.2.2.1)).setCell ⟨b, 3, none⟩ (.int .i64 s.2.2.2.1)).setCell ⟨b, 4, none⟩ (.int .i64 s.2.2.2.2.1)).setCell ⟨b, 5, none⟩ (.string s.2.2.2.2.2.1)).setCell ⟨b, 6, none⟩ vf
theorem SnAt.set {W : World} {b : Nat} {s : Sn} {vf : Value} (h : SnAt W b s vf) (s' : Sn) (vf' : Value) : SnAt (snSet W b s' vf') b s' vf' := by
  unfold SnAt snSet at *
  rw [heap_setCell_same _ _ _ _ _ _ (heap_setCell_same _ _ _ _ _ _ (heap_setCell_same _ _ _ _ _ _ (heap_setCell_same _ _ _ _ _ _ (heap_setCell_same _ _ _ _ _ _ (heap_setCell_same _ _ _ _ _ _ (heap_setCell_same _ _ _ _ _ _ h))))))]
  rfl
theorem snSet_below {W W0 : World} {B b : Nat} {s : Sn} {vf : Value} (h : Below B W0 W) (hb : B ≤ b) : Below B W0 (snSet W b s vf) := ((((((h.setCell hb _).setCell hb _).setCell hb _).setCell hb _).setCell hb _).setCell hb _).setCell hb _

theorem sn_other {W : World} {F G : Nat} {s : Sn} {vf : Value} (h : SnAt W F s vf) (hne : G ≠ F) (o : Nat) (z : Value) : SnAt (W.setCell ⟨G, o, none⟩ z) F s vf := (heap_setCell_other _ _ _ _ (fun e => hne e.symm)).trans h

def OffF (v : Value) (fs : List Fl) (R : Nat) : Prop := ∀ b o c n, v = .slice (some ⟨b, o, none⟩) n c → fs ≠ [] → b ≠ R

theorem off_of {W : World} {R : Nat} {s : Sn} {q : Option Addr} {n c : Nat} {v : Value} {fs : List Fl} (h : SnAt W R s (.slice q n c)) (hr : FlsAt W v fs) : OffF v fs R := by
  intro b o c' n' hv hne e
  subst e
  rcases hr with ⟨_, _, _, _, e⟩ | ⟨b2, o2, c2, e2, _, hc⟩
  · exact hne e
  · rw [e2] at hv
    injection hv with e3
    injection e3 with e3
    injection e3 with e3 e4
    subst e3
    subst e4
    obtain ⟨h0, h1, _⟩ := hc 0 (List.length_pos_iff.2 hne)
    rw [cell_of_row _ _ _ _ _ _ h] at h0 h1
    simp only [Nat.zero_mul, Nat.add_zero] at h0 h1
    match o2, h0, h1 with
    | 0, h0, _ => simp at h0
    | 1, h0, _ => simp at h0
    | 2, h0, _ => simp at h0
    | 3, h0, _ => simp at h0
    | 4, h0, _ => simp at h0
    | 5, _, h1 => simp at h1
    | 6, h0, _ => simp at h0
    | k + 7, h0, _ => simp at h0

theorem FlsAt.set_off {W : World} {R : Nat} {v : Value} {fs : List Fl} (h : FlsAt W v fs) (ho : OffF v fs R) (k : Nat) (z : Value) : FlsAt (W.setCell ⟨R, k, none⟩ z) v fs := by
  rcases h with h | ⟨b, o, c, hv, hl, hc⟩
  · exact Or.inl h
  · by_cases hne : fs = []
    · exact Or.inl ⟨some ⟨b, o, none⟩, c, by rw [hv, hne]; rfl, fun e => (nomatch e), hne⟩
    · have hb := ho b o c _ hv hne
      have hk : ∀ p, (W.setCell ⟨R, k, none⟩ z).cell? ⟨b, p, none⟩ = W.cell? ⟨b, p, none⟩ := fun p => World.cell?_setCell_other _ _ _ _ (by intro e; injection e with e; exact hb e.symm)
      refine Or.inr ⟨b, o, c, hv, hl, fun j hj => ?_⟩
      obtain ⟨h0, h1, h2, h3, h4, h5⟩ := hc j hj
      exact ⟨(hk _).trans h0, (hk _).trans h1, (hk _).trans h2, (hk _).trans h3, (hk _).trans h4, (hk _).trans h5⟩

def ReadSP (w : World) (R : Sn × Nat × Option Nat) (e : Ending) (w' : World) : Prop := ∃ vf, e = .returned (.tuple #[snV R.1 vf, .agg #[.int .i64 R.2.1, .int .i64 (atZ R.2.2)]]) ∧ FlsAt w' vf R.1.2.2.2.2.2.2 ∧ Below w.heap.size w w'

theorem readS_big {l : List UInt8} (h : 20000 < l.length) : readS l = (zeroS, 2, none) := by unfold readS; rw [if_pos h]
theorem readS_none {l : List UInt8} (h : ¬ 20000 < l.length) (hc : Lib.cut l [10] = (l, [], false)) : readS l = (zeroS, 1, none) := by unfold readS; rw [if_neg h, hc, if_pos rfl]
theorem readS_cut {l a b : List UInt8} (h : ¬ 20000 < l.length) (hc : Lib.cut l [10] = (a, b, true)) : readS l = match snapO a with
  | none => (zeroS, 1, none)
  | some (x1, x2, x3, x4, x5, op, g) => if g ≠ sumL b then (zeroS, 10, none) else
    if (readL b).2.1 ≠ 0 then (zeroS, (readL b).2) else
    if (snapE (x1, x2, x3, x4, x5, bytesOf op, (readL b).1)).1 ≠ 0 then (zeroS, snapE (x1, x2, x3, x4, x5, bytesOf op, (readL b).1)) else
    ((x1, x2, x3, x4, x5, bytesOf op, (readL b).1), 0, none) := by
  unfold readS
  rw [if_neg h, hc, if_neg (by simp)]
  rfl

theorem snapO_len {a : List UInt8} (h : (words a).length ≠ 8) : snapO a = none := by
  unfold snapO
  split
  · rename_i e; rw [e] at h; simp at h
  · rfl

theorem eight {α : Type} {l : List α} (h : l.length = 8) : ∃ a b c d e f g i, l = [a, b, c, d, e, f, g, i] := by
  match l, h with
  | [a, b, c, d, e, f, g, i], _ => exact ⟨a, b, c, d, e, f, g, i, rfl⟩
theorem five {α : Type} {l : List α} (h : l.length = 5) : ∃ a b c d e, l = [a, b, c, d, e] := by
  match l, h with
  | [a, b, c, d, e], _ => exact ⟨a, b, c, d, e, rfl⟩

theorem snapO_eight {a : List UInt8} {k w1 w2 w3 w4 w5 op w7 : List UInt8} (h : words a = [k, w1, w2, w3, w4, w5, op, w7]) : snapO a = match sixO w1 w2 w3 w4 w5 w7 with
    | some (x1, x2, x3, x4, x5, g) => if k = kSnap then some (x1, x2, x3, x4, x5, op, g) else none
    | none => none := by
  unfold snapO
  rw [h]
  rfl

theorem six_bad {w1 w2 w3 w4 w5 w7 : List UInt8} (h : numO w1 = none ∨ numO w2 = none ∨ numO w3 = none ∨ numO w4 = none ∨ numO w5 = none ∨ numO w7 = none) : sixO w1 w2 w3 w4 w5 w7 = none := by
  unfold sixO
  split
  · rename_i e1 e2 e3 e4 e5 e6
    rw [e1, e2, e3, e4, e5, e6] at h
    simp at h
  · rfl

theorem six_good {w1 w2 w3 w4 w5 w7 : List UInt8} {x1 x2 x3 x4 x5 g : Int} (h1 : numO w1 = some x1) (h2 : numO w2 = some x2) (h3 : numO w3 = some x3) (h4 : numO w4 = some x4) (h5 : numO w5 = some x5) (h7 : numO w7 = some g) : sixO w1 w2 w3 w4 w5 w7 = some (x1, x2, x3, x4, x5, g) := by
  unfold sixO
  rw [h1, h2, h3, h4, h5, h7]

theorem rowsF_good : ∀ (ps : List (List UInt8)) (n : Nat) (acc : List Fl), (∀ g ∈ acc, fileE g = 0) → ∀ g ∈ (rowsG fileK ps n acc).1, fileE g = 0
  | [], n, acc, h => by
    intro g hg
    unfold rowsG at hg
    first | exact h g hg | simp at hg
  | [l], n, acc, h => by
    intro g hg
    rw [rowsF_one] at hg
    split at hg
    · exact h g hg
    · simp at hg
  | l :: l2 :: r, n, acc, h => by
    intro g hg
    rw [rowsF_cons] at hg
    split at hg
    · simp at hg
    · rename_i hr
      split at hg
      · simp at hg
      · refine rowsF_good (l2 :: r) (n + 1) (acc ++ [(readF l).1]) (fun x hx => ?_) g hg
        rw [List.mem_append, List.mem_singleton] at hx
        rcases hx with hx | rfl
        · exact h x hx
        · exact readF_ok l (by simpa using hr)

theorem readL_good (b : List UInt8) : ∀ f ∈ (readL b).1, fileE f = 0 := by
  intro f hf
  rw [readL_def] at hf
  split at hf
  · simp at hf
  · split at hf
    · simp at hf
    · exact rowsF_good (pieces 10 b) 0 [] (by simp) f hf

theorem readL_sizes (b : List UInt8) : ∀ f ∈ (readL b).1, f.1.size ≤ 100000 ∧ f.2.1.size ≤ 100000 := fun f hf => by
  have := ok_sizes (readL_good b f hf)
  omega

theorem readL_len2 (s : List UInt8) : (readL s).1.length ≤ s.length := by
  rw [readL_def]
  split
  · exact Nat.zero_le _
  · split
    · exact Nat.zero_le _
    · rename_i h
      have hp := pieces_count 10 s
      have hne : pieces 10 s ≠ [] := by intro e; rw [e] at hp; simp at hp
      have := rowsG_len fileK (pieces 10 s) 0 [] hne (by simpa using h)
      have hc := List.count_le_length (a := (10 : UInt8)) (l := s)
      simp only [List.length_nil] at this
      show (rowsG fileK (pieces 10 s) 0 []).1.length ≤ _
      omega
end Go.Proofs.YtpkoefpdpoikkaaGreatDoor
namespace Go.Proofs.YtpkoefpdpoikkaaGreatDoor
open Go.RowKit Go.Extern.Stop Go.Stop Go.Extern Go.Sort Go.Shelf Go.Lib

def ToldE (W : World) (a : Nat → Addr) (ev : Value) (c : Nat × Option Nat) : Prop := match c.2 with
  | none => ev = errV a c.1
  | some j => c.1 ≠ 0 ∧ ∃ fb, ev = .iface 108 (.pointer (some ⟨fb, 0, none⟩)) ∧ W.cell? ⟨fb, 0, none⟩ = some (.int .i64 j) ∧ W.cell? ⟨fb, 1, none⟩ = some (errV a c.1)

theorem ToldE.ok {W : World} {a : Nat → Addr} {ev : Value} {c : Nat × Option Nat} (h : ToldE W a ev c) (h0 : c.1 = 0) : ev = .nilIface := by
  obtain ⟨n, o⟩ := c
  dsimp only at h0
  subst h0
  cases o with
  | none => exact h
  | some j => exact absurd rfl h.1

theorem ToldE.bad {W : World} {a : Nat → Addr} {ev : Value} {c : Nat × Option Nat} (h : ToldE W a ev c) (h0 : c.1 ≠ 0) : ∃ t u, ev = .iface t u := by
  obtain ⟨n, o⟩ := c
  cases o with
  | none =>
    cases n with
    | zero => exact absurd rfl h0
    | succ n => exact ⟨_, _, h⟩
  | some j =>
    obtain ⟨_, fb, h, _⟩ := h
    exact ⟨_, _, h⟩

def KeepsC (W W' : World) : Prop := ∀ (fb : Nat) (x : Value), W.cell? ⟨fb, 1, none⟩ = some x → (∀ n : Int, x ≠ .int .i64 n) → W'.cell? ⟨fb, 0, none⟩ = W.cell? ⟨fb, 0, none⟩ ∧ W'.cell? ⟨fb, 1, none⟩ = W.cell? ⟨fb, 1, none⟩

theorem keepsC_below {W W' : World} (hb : Below W.heap.size W W') : KeepsC W W' := by
  intro fb x h _
  have e := hb.block fb (cell_lt h)
  unfold World.cell?
  rw [e]
  exact ⟨rfl, rfl⟩

theorem keepsC_set {W W1 : World} (h : KeepsC W W1) {F : Nat} {x y : Int} (hF : FC W1 F x y) (z z2 : Value) : KeepsC W ((W1.setCell ⟨F, 0, none⟩ z).setCell ⟨F, 1, none⟩ z2) := by
  intro fb u hu hn
  obtain ⟨h0, h1⟩ := h fb u hu hn
  have hne : F ≠ fb := by
    intro e
    subst e
    rw [hF.c1, hu] at h1
    exact hn y (Option.some.inj h1).symm
  rw [← h0, ← h1]
  have hk : ∀ p, ((W1.setCell ⟨F, 0, none⟩ z).setCell ⟨F, 1, none⟩ z2).cell? ⟨fb, p, none⟩ = W1.cell? ⟨fb, p, none⟩ := fun p => by
    rw [World.cell?_setCell_other _ _ _ _ (by intro e; injection e with e; exact hne e), World.cell?_setCell_other _ _ _ _ (by intro e; injection e with e; exact hne e)]
  exact ⟨hk 0, hk 1⟩

theorem ToldE.keep {W W' : World} {a : Nat → Addr} {ev : Value} {c : Nat × Option Nat} (h : ToldE W a ev c) (hk : KeepsC W W') : ToldE W' a ev c := by
  obtain ⟨n, o⟩ := c
  cases o with
  | none => exact h
  | some j =>
    obtain ⟨h0, fb, h1, c0, c1⟩ := h
    obtain ⟨k0, k1⟩ := hk fb _ c1 (fun z e => by
      cases n with
      | zero => exact h0 rfl
      | succ n => simp [errV] at e)
    exact ⟨h0, fb, h1, k0.trans c0, k1.trans c1⟩

def Short (fs : List Fl) : Prop := ∀ g ∈ fs, g.1.size ≤ 30 ∧ g.2.1.size ≤ 30

def boxW (W : World) (f : Fl) : World := W.alloc (.cells #[.string f.1, .string f.2.1, .int .i64 f.2.2.1, .int .i64 f.2.2.2.1, .int .i64 f.2.2.2.2.1, .int .i64 f.2.2.2.2.2] 23)
theorem boxW_at (W : World) (f : Fl) : FlAt (boxW W f) W.heap.size f := FlAt.new W f
theorem boxW_below (W : World) (f : Fl) : Below W.heap.size W (boxW W f) := (Below.refl _ _).alloc (Nat.le_refl _) _

theorem flsAt_take {w : World} {b o cap : Nat} {fs : List Fl} (h : FlCells w b o fs) {n : Nat} (hn : n ≤ fs.length) (hc : fs.length ≤ cap) : FlsAt w (.slice (some ⟨b, o, none⟩) n cap) (fs.take n) := by
  refine Or.inr ⟨b, o, cap, ?_, ?_, flCells_take h n⟩
  · rw [List.length_take, Nat.min_eq_left hn]
  · rw [List.length_take]; omega

def NewL (w : World) (v : Value) : Prop := ∀ k, v.ownBlock = some k → w.heap.size ≤ k
theorem newL_nil (w : World) : NewL w (.slice none 0 0) := fun k hk => by simp [Value.ownBlock] at hk
theorem own_ge {w : World} {B : Nat} {e : TypeId} {z : Nat} {v : Value} {n : Nat} {xs : List Value} (h : w.ownsRow B e z v n xs) {k : Nat} (hk : v.ownBlock = some k) : B ≤ k := by
  rcases h.2 with ⟨rfl, _⟩ | ⟨g, cap, cur, rfl, hB, _⟩
  · simp [Value.ownBlock] at hk
  · simp only [Value.ownBlock, Option.some.injEq] at hk
    exact hk ▸ hB
end Go.Proofs.YtpkoefpdpoikkaaGreatDoor
namespace Go.Proofs.YtpkoefpdpoikkaaGreatDoor
open Go.RowKit Go.Extern.Stop Go.Stop Go.Extern Go.Sort Go.Shelf Go.Lib

def firstS : Sn := (1, 0, 0, 0, 0, ⟨#[115, 116, 97, 114, 116]⟩, [])

def SReadP (w : World) (a : Nat → Addr) (R : Sn × Nat × Option Nat) (e : Ending) (w' : World) : Prop := ∃ vf ev, e = .returned (.tuple #[snV R.1 vf, ev]) ∧ FlsAt w' vf R.1.2.2.2.2.2.2 ∧ ToldE w' a ev R.2 ∧ Below w.heap.size w w'

def rk : List Fl → Int → Int → Int × Int
  | [], x, y => (x, y)
  | f :: r, x, y => if f.2.1.data.toList = [45] then rk r x (y + f.2.2.1) else rk r (x + f.2.2.1) y

def rkS (s : Sn) : Int × Int := if (snapE s).1 = 0 then rk s.2.2.2.2.2.2 0 0 else (0, 0)

def RkLeft (fs : List Fl) (n : Nat) (x y : Int) : Prop := rk fs 0 0 = rk (fs.drop n) x y ∧ 0 ≤ x ∧ x ≤ 40 * n ∧ 0 ≤ y ∧ y ≤ 40 * n
theorem rkL_zero (fs : List Fl) : RkLeft fs 0 0 0 := ⟨rfl, by omega, by omega, by omega, by omega⟩
theorem rkL_all {fs : List Fl} {x y : Int} (h : RkLeft fs fs.length x y) : rk fs 0 0 = (x, y) := by
  rw [h.1, List.drop_length]; rfl
theorem rkL_gone {fs : List Fl} {n : Nat} {x y : Int} (h : RkLeft fs n x y) (hn : n < fs.length) (e : fs[n].2.1.data.toList = [45]) (h1 : 0 ≤ fs[n].2.2.1) (h2 : fs[n].2.2.1 ≤ 40) : RkLeft fs (n + 1) x (y + fs[n].2.2.1) := by
  obtain ⟨h0, a, b, c, d⟩ := h
  refine ⟨?_, a, by omega, by omega, by omega⟩
  rw [h0, List.drop_eq_getElem_cons hn]
  conv => lhs; unfold rk
  rw [if_pos e]
theorem rkL_data {fs : List Fl} {n : Nat} {x y : Int} (h : RkLeft fs n x y) (hn : n < fs.length) (e : fs[n].2.1.data.toList ≠ [45]) (h1 : 0 ≤ fs[n].2.2.1) (h2 : fs[n].2.2.1 ≤ 40) : RkLeft fs (n + 1) (x + fs[n].2.2.1) y := by
  obtain ⟨h0, a, b, c, d⟩ := h
  refine ⟨?_, by omega, by omega, c, by omega⟩
  rw [h0, List.drop_eq_getElem_cons hn]
  conv => lhs; unfold rk
  rw [if_neg e]

theorem file_kind {f : Fl} (h : fileE f = 0) : 0 ≤ f.2.2.1 ∧ f.2.2.1 ≤ 40 ∧ ∃ g n, pathO f.1.data.toList = some (g, n) ∧ (g = true ↔ f.2.1.data.toList = [45]) := by
  obtain ⟨g, n, hp, hq, hb⟩ := file_good h
  have hb' := hb
  unfold bndB at hb'
  simp only [Bool.and_eq_true, decide_eq_true_eq] at hb'
  refine ⟨by omega, by omega, g, n, hp, ?_⟩
  unfold partB at hq
  cases g
  · simp only [Bool.false_eq_true, if_false, false_iff] at hq ⊢
    intro e
    rw [e] at hq
    revert hq
    decide
  · simp only [if_true, decide_eq_true_eq, true_iff] at hq ⊢
    exact hq

theorem readL_60 (b : List UInt8) : (readL b).1.length ≤ 60 := by
  obtain ⟨c, hc⟩ : ∃ c, (if (pieces 10 b).getLastD [] = [] then (pieces 10 b).length - 1 else (pieces 10 b).length) = c := ⟨_, rfl⟩
  have hle : (pieces 10 b).length - 1 ≤ c := by rw [← hc]; split <;> omega
  unfold readL
  rw [hc]
  by_cases h1 : 60 < c
  · rw [if_pos h1]; exact Nat.zero_le _
  · rw [if_neg h1]
    by_cases h2 : (rowsG fileK (pieces 10 b) 0 []).2.1 = 0
    · rw [if_neg (by simpa using h2)]
      have hp := pieces_count 10 b
      have hne : pieces 10 b ≠ [] := by intro e; rw [e] at hp; simp at hp
      have := rowsG_len fileK (pieces 10 b) 0 [] hne h2
      simp only [List.length_nil] at this
      show (rowsG fileK (pieces 10 b) 0 []).1.length ≤ _
      omega
    · rw [if_pos h2]; exact Nat.zero_le _

theorem readS_60 (l : List UInt8) : (readS l).1.2.2.2.2.2.2.length ≤ 60 := by
  unfold readS
  split
  · exact Nat.zero_le _
  · split
    · exact Nat.zero_le _
    · split
      · exact Nat.zero_le _
      · split
        · exact Nat.zero_le _
        · split
          · exact Nat.zero_le _
          · split
            · exact Nat.zero_le _
            · exact readL_60 _
end Go.Proofs.YtpkoefpdpoikkaaGreatDoor
