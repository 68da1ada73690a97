/-
  An act in memory beside both stores.
-/
import Derived.Test.YtbdhdlloihkibaaGreatDoorRefStore5
namespace Go.Proofs.YtbdhdlloihkibaaGreatDoor
open Go.RowKit Go.Extern.Stop Go.Stop Go.Extern Go.Sort Go.Shelf Go.Lib

def SPost (SAt : World → Value → (Nat → Prop) → St → Prop) (W : World) (v : Value) (FP : Nat → Prop) (s : St) (w' : World) : Prop := ∃ FP', SAt w' v FP' s ∧ But FP W w' ∧ ∀ k, FP' k → FP k ∨ W.heap.size ≤ k

def sameS (s r : St) : Bool := decide (s.obs = r.obs ∧ s.head = r.head ∧ s.day = r.day ∧ s.off = r.off)

structure StoreK (a : Nat → Addr) (B : Nat) (EM : World → Prop) (SAt : World → Value → (Nat → Prop) → St → Prop) : Prop where
  below : ∀ W W' : World, EM W → Below B W W' → EM W'
  size : ∀ W : World, EM W → B ≤ W.heap.size
  coded : ∀ (W : World) (n : Nat), EM W → n ≤ 12 → Calls Tryz.prog 34 #[errV a n, .int .i64 n] W fun e w' => e = .returned (.bool true) ∧ Below W.heap.size W w'
  ptr : ∀ (W : World) (v : Value) (FP : Nat → Prop) (s : St), SAt W v FP s → ∃ p, v = .pointer (some p)
  lt : ∀ (W : World) (v : Value) (FP : Nat → Prop) (s : St) (k : Nat), SAt W v FP s → FP k → k < W.heap.size
  keep : ∀ (W W' : World) (v : Value) (FP P : Nat → Prop) (s : St), SAt W v FP s → But P W W' → (∀ k, FP k → ¬ P k) → SAt W' v FP s
  new : ∀ W : World, EM W → Calls Tryz.prog 15 #[] W fun e w' => ∃ v FP, e = .returned v ∧ SAt w' v FP newS ∧ (∀ k, FP k → W.heap.size ≤ k) ∧ Below W.heap.size W w'
  put : ∀ (W : World) (v : Value) (FP : Nat → Prop) (s : St) (n t : ByteArray), EM W → SAt W v FP s → Keeps s → n.size ≤ 1000 → t.size ≤ 100000 → Calls Tryz.prog 35 #[v, .string n, .string t] W fun e w' => e = .returned (errV a (putC s n t)) ∧ SPost SAt W v FP (putS s n t) w'
  get : ∀ (W : World) (v : Value) (FP : Nat → Prop) (s : St) (n : ByteArray), EM W → SAt W v FP s → Keeps s → n.size ≤ 1000 → Calls Tryz.prog 37 #[v, .string n] W fun e w' => e = .returned (.tuple #[.string (getT s.obs n).1, errV a (getT s.obs n).2]) ∧ Below W.heap.size W w'
  drop : ∀ (W : World) (v : Value) (FP : Nat → Prop) (s : St) (n : ByteArray), EM W → SAt W v FP s → Keeps s → n.size ≤ 1000 → Calls Tryz.prog 39 #[v, .string n] W fun e w' => e = .returned (errV a (dropC s n)) ∧ SPost SAt W v FP (dropS s n) w'
  names : ∀ (W : World) (v : Value) (FP : Nat → Prop) (s : St), EM W → SAt W v FP s → Keeps s → Calls Tryz.prog 22 #[v] W fun e w' => ∃ v', e = .returned v' ∧ TxsAt w' v' (s.obs.map fun o => o.1) ∧ Below W.heap.size W w'
  born : ∀ (W : World) (v : Value) (FP : Nat → Prop) (s : St) (n : ByteArray), EM W → SAt W v FP s → Keeps s → n.size ≤ 1000 → Calls Tryz.prog 24 #[v, .string n] W fun e w' => e = .returned (.int .i64 (bornO s.obs n)) ∧ Below W.heap.size W w'
  swap : ∀ (W : World) (v : Value) (FP : Nat → Prop) (s : St) (n t : ByteArray), EM W → SAt W v FP s → Keeps s → n.size ≤ 1000 → t.size ≤ 100000 → Calls Tryz.prog 41 #[v, .string n, .string t] W fun e w' => e = .returned (errV a (swapC s n t)) ∧ SPost SAt W v FP (swapS s n t) w'
  cut : ∀ (W : World) (v : Value) (FP : Nat → Prop) (s : St) (z : Int), EM W → SAt W v FP s → Keeps s → (-9223372036854775808 ≤ z ∧ z ≤ 9223372036854775807) → Calls Tryz.prog 43 #[v, .int .i64 z] W fun e w' => e = .returned (errV a (cutC s z)) ∧ SPost SAt W v FP (cutS s z) w'
  on : ∀ (W : World) (v : Value) (FP : Nat → Prop) (s : St), EM W → SAt W v FP s → Keeps s → Calls Tryz.prog 45 #[v] W fun e w' => e = .returned (.tuple #[]) ∧ SPost SAt W v FP (onS s) w'
  power : ∀ (W : World) (v : Value) (FP : Nat → Prop) (s : St), EM W → SAt W v FP s → Keeps s → Calls Tryz.prog 72 #[v] W fun e w' => e = .returned (.bool (!s.off)) ∧ Below W.heap.size W w'
  next : ∀ (W : World) (v : Value) (FP : Nat → Prop) (s : St) (z : Int), EM W → SAt W v FP s → Keeps s → (-9223372036854775808 ≤ z ∧ z ≤ 9223372036854775807) → Calls Tryz.prog 47 #[v, .int .i64 z] W fun e w' => e = .returned (.tuple #[.int .i64 (if nextC s z = 0 then s.day + z else 0), errV a (nextC s z)]) ∧ SPost SAt W v FP (nextS s z) w'
  day : ∀ (W : World) (v : Value) (FP : Nat → Prop) (s : St), EM W → SAt W v FP s → Keeps s → Calls Tryz.prog 23 #[v] W fun e w' => e = .returned (.int .i64 s.day) ∧ Below W.heap.size W w'
  copy : ∀ (W : World) (v : Value) (FP : Nat → Prop) (s : St), EM W → SAt W v FP s → Keeps s → Calls Tryz.prog 49 #[v] W fun e w' => ∃ v' FP', e = .returned v' ∧ SAt w' v' FP' s ∧ (∀ k, FP' k → W.heap.size ≤ k) ∧ Below W.heap.size W w'
  same : ∀ (W : World) (v u : Value) (FP GP : Nat → Prop) (s r : St), EM W → SAt W v FP s → SAt W u GP r → Calls Tryz.prog 50 #[v, u] W fun e w' => e = .returned (.bool (sameS s r)) ∧ Below W.heap.size W w'
  same1 : ∀ (W : World) (v : Value) (FP : Nat → Prop) (s : St), EM W → SAt W v FP s → Calls Tryz.prog 50 #[v, .pointer none] W fun e w' => e = .returned (.bool false) ∧ Below W.heap.size W w'
  same0 : ∀ W : World, EM W → Calls Tryz.prog 50 #[.pointer none, .pointer none] W fun e w' => e = .returned (.bool true) ∧ Below W.heap.size W w'

section
variable {a : Nat → Addr} {B : Nat} {EM : World → Prop} {SAt : World → Value → (Nat → Prop) → St → Prop}

structure SOk (EM : World → Prop) (SAt : World → Value → (Nat → Prop) → St → Prop) (B : Nat) (w0 W : World) (v : Value) (FP : Nat → Prop) (s : St) : Prop where
  env : EM W
  frame : Below B w0 W
  le : B ≤ w0.heap.size
  at_ : SAt W v FP s
  new : ∀ k, FP k → B ≤ k
theorem SOk.post (K : StoreK a B EM SAt) {w0 W w' : World} {v : Value} {FP : Nat → Prop} {s s' : St} (h : SOk EM SAt B w0 W v FP s) (hp : SPost SAt W v FP s' w') : ∃ FP', SOk EM SAt B w0 w' v FP' s' ∧ But FP W w' ∧ ∀ k, FP' k → FP k ∨ W.heap.size ≤ k := by
  obtain ⟨FP', h1, h2, h3⟩ := hp
  have hB := K.size _ h.env
  have hb : Below B W w' := h2.below hB h.new
  refine ⟨FP', ⟨K.below _ _ h.env hb, h.frame.trans hb, h.le, h1, fun k hk => ?_⟩, h2, h3⟩
  rcases h3 k hk with h4 | h4
  · exact h.new k h4
  · omega
theorem SOk.quiet (K : StoreK a B EM SAt) {w0 W w' : World} {v : Value} {FP : Nat → Prop} {s : St} (h : SOk EM SAt B w0 W v FP s) (hb : Below W.heap.size W w') : SOk EM SAt B w0 w' v FP s :=
  ⟨K.below _ _ h.env (hb.mono (K.size _ h.env)), h.frame.trans (hb.mono (K.size _ h.env)), h.le, K.keep _ _ _ _ (fun _ => False) _ h.at_ (But.of_below hb) (fun _ _ h => h), h.new⟩
end
end Go.Proofs.YtbdhdlloihkibaaGreatDoor
namespace Go.Proofs.YtbdhdlloihkibaaGreatDoor
open Go.RowKit Go.Extern.Stop Go.Stop Go.Extern Go.Sort Go.Shelf Go.Lib

abbrev Ac := ByteArray × ByteArray × ByteArray × Int
def acV (x : Ac) : Value := .agg #[.string x.1, .string x.2.1, .string x.2.2.1, .int .i64 x.2.2.2]

def AcCells (w : World) (b o : Nat) (l : List Ac) : Prop :=
  ∀ j (h : j < l.length), w.cell? ⟨b, o + j * 4, none⟩ = some (.string l[j].1) ∧ w.cell? ⟨b, o + j * 4 + 1, none⟩ = some (.string l[j].2.1) ∧ w.cell? ⟨b, o + j * 4 + 2, none⟩ = some (.string l[j].2.2.1) ∧ w.cell? ⟨b, o + j * 4 + 3, none⟩ = some (.int .i64 l[j].2.2.2)
theorem AcCells.below {w w' : World} {B b o : Nat} {l : List Ac} (h : AcCells w b o l) (hb : Below B w w') (hlt : b < B) : AcCells w' b o l := fun j hj => by
  have hk : ∀ p, w'.cell? ⟨b, p, none⟩ = w.cell? ⟨b, p, none⟩ := fun p => by
    have e := hb.block b hlt
    unfold World.cell?
    rw [e]
  obtain ⟨h0, h1, h2, h3⟩ := h j hj
  exact ⟨(hk _).trans h0, (hk _).trans h1, (hk _).trans h2, (hk _).trans h3⟩
def AcsAt (w : World) (v : Value) (l : List Ac) : Prop :=
  (∃ p c, v = .slice p 0 c ∧ l = []) ∨ ∃ b o cap, v = .slice (some ⟨b, o, none⟩) l.length cap ∧ b < w.heap.size ∧ AcCells w b o l
theorem AcsAt.below {w w' : World} {B : Nat} {v : Value} {l : List Ac} (h : AcsAt w v l) (hb : Below B w w') (hB : w.heap.size ≤ B) : AcsAt w' v l := by
  rcases h with h | ⟨b, o, cap, hv, hl, hc⟩
  · exact Or.inl h
  · exact Or.inr ⟨b, o, cap, hv, Nat.lt_of_lt_of_le hl hb.size, hc.below hb (Nat.lt_of_lt_of_le hl hB)⟩
theorem AcsAt.form {w : World} {v : Value} {l : List Ac} (h : AcsAt w v l) : ∃ p c, v = .slice p l.length c := by
  rcases h with ⟨p, c, rfl, rfl⟩ | ⟨b, o, cap, rfl, _⟩
  · exact ⟨_, _, rfl⟩
  · exact ⟨_, _, rfl⟩
theorem AcsAt.cells {w : World} {q : Option Addr} {n c : Nat} {l : List Ac} (h : AcsAt w (.slice q n c) l) (hne : l ≠ []) : ∃ b o, q = some ⟨b, o, none⟩ ∧ b < w.heap.size ∧ AcCells w b o l := by
  rcases h with ⟨_, _, _, e⟩ | ⟨b, o, cap, e, hl, hc⟩
  · exact absurd e hne
  · simp only [Value.slice.injEq] at e
    exact ⟨b, o, e.1, hl, hc⟩

def acLong (x : Ac) : Bool := decide (40 < x.2.1.size) || (decide (100 < x.2.2.1.size) && decide (x.2.2.1.size ≠ 20001))
def acsLong (l : List Ac) : Bool := decide (80 < l.length) || l.any acLong
theorem acs_short {l : List Ac} (h : acsLong l = false) : l.length ≤ 80 ∧ ∀ x ∈ l, x.2.1.size ≤ 40 ∧ x.2.2.1.size ≤ 20001 := by
  unfold acsLong at h
  rw [Bool.or_eq_false_iff] at h
  obtain ⟨h1, h2⟩ := h
  refine ⟨by simpa using h1, fun x hx => ?_⟩
  have h3 : acLong x = false := by
    have := List.any_eq_false.1 h2 x hx
    simpa using this
  unfold acLong at h3
  simp only [Bool.or_eq_false_iff, decide_eq_false_iff_not, Bool.and_eq_false_iff] at h3
  obtain ⟨h4, h5⟩ := h3
  refine ⟨by omega, ?_⟩
  rcases h5 with h5 | h5 <;> omega

set_option maxRecDepth 100000 in
set_option maxHeartbeats 2000000 in
theorem longActs_any (v : Value) (l : List Ac) (w : World) (h : AcsAt w v l) (hl : l.length ≤ maxLen) (hz : ∀ x ∈ l, x.2.1.size ≤ maxLen ∧ x.2.2.1.size ≤ maxLen) :
    Calls Tryz.prog 6 #[v] w fun e w' => e = .returned (.int .i64 (if acsLong l = true then 1 else 0)) ∧ w' = w := by
  unfold maxLen at hl hz
  obtain ⟨q, cap, rfl⟩ := h.form
  have HA : Hid (AcsAt w (.slice q l.length cap) l) := h
  have HZ : Hid (∀ x ∈ l, x.2.1.size ≤ 2 ^ 63 - 1 ∧ x.2.2.1.size ≤ 2 ^ 63 - 1) := hz
  obtain ⟨L, hL⟩ : ∃ L, l.length = L := ⟨_, rfl⟩
  have HX : Hid (l.length = L) := hL
  rw [hL] at hl ⊢
  generalize hR : (if acsLong l = true then (1 : Int) else 0) = R
  have HR : Hid ((if acsLong l = true then (1 : Int) else 0) = R) := hR
  clear hL h hR hz
  by_cases h80 : 80 < L
  · have h80' : (80 : Int) < (L : Int) := by omega
    have e : R = 1 := by rw [← HR.out, if_pos (by unfold acsLong; rw [HX.out]; simp [h80])]
    subst e
    go_enter Tryz.func6, Tryz.ntmps6
    go_wp2
    go_ret
    exact ⟨rfl, rfl⟩
  have h80' : ¬ (80 : Int) < (L : Int) := by omega
  go_enter Tryz.func6, Tryz.ntmps6
  go_wp2
  go_loop [3] (fun k => ∃ m : Nat, m ≤ L ∧ k = .int .i64 m ∧ ∀ i (h : i < l.length), i < m → acLong l[i] = false) (fun k => L - (intOf k).toNat)
  case atStart => exact ⟨0, by omega, rfl, fun i h h' => absurd h' (Nat.not_lt_zero _)⟩
  case round =>
    obtain ⟨m, hm, rfl, hno⟩ := hrel
    have HNO : Hid (∀ i (h : i < l.length), i < m → acLong l[i] = false) := hno
    clear hno
    by_cases hlt : m < L
    · have hltx : m < l.length := by rw [HX.out]; exact hlt
      obtain ⟨g, o, hq, -, hc⟩ := HA.out.cells (fun e => by rw [e] at hltx; simp at hltx)
      subst hq
      obtain ⟨-, c1, c2, -⟩ := hc m hltx
      obtain ⟨z1, z2⟩ := HZ.out _ (List.getElem_mem hltx)
      have hi : (m : Int) < (L : Int) := by omega
      have hi0 : (0 : Int) ≤ (m : Int) := by omega
      have HT : Hid (acLong l[m] = true → R = 1) := fun e => by
        show R = 1
        rw [← HR.out, if_pos]
        unfold acsLong
        rw [Bool.or_eq_true]
        exact Or.inr (List.any_eq_true.2 ⟨_, List.getElem_mem hltx, e⟩)
      have HF : Hid (acLong l[m] = false → ∀ i (h : i < l.length), i < m + 1 → acLong l[i] = false) := fun e i hi him => by
        by_cases e' : i = m
        · subst e'; exact e
        · exact HNO.out i hi (by omega)
      have HD : Hid (acLong l[m] = (decide (40 < l[m].2.1.size) || (decide (100 < l[m].2.2.1.size) && decide (l[m].2.2.1.size ≠ 20001)))) := rfl
      generalize acLong l[m] = T at HT HF HD
      generalize l[m].2.1 = s1 at *
      generalize l[m].2.2.1 = s2 at *
      clear hc hltx
      by_cases h1 : 40 < s1.size
      · have h1' : (40 : Int) < (s1.size : Int) := by omega
        have e : R = 1 := HT.out (by rw [HD.out]; simp [h1])
        subst e
        go_wp2
        go_ret
        exact ⟨rfl, rfl⟩
      have h1' : ¬ (40 : Int) < (s1.size : Int) := by omega
      by_cases h2 : 100 < s2.size
      · have h2' : (100 : Int) < (s2.size : Int) := by omega
        by_cases h3 : s2.size = 20001
        · have h3' : (s2.size : Int) = 20001 := by omega
          have HN1 := HF.out (by rw [HD.out]; simp [h1, h3])
          have HN2 : Hid (∀ i (h : i < l.length), i < m + 1 → acLong l[i] = false) := HN1
          clear HN1
          go_wp2
          go_round
          case rel => exact ⟨m + 1, by omega, by go_num, HN2.out⟩
          case measure => simp [intOf]; omega
        · have h3' : ¬ (s2.size : Int) = 20001 := by omega
          have e : R = 1 := HT.out (by rw [HD.out]; simp [h2, h3])
          subst e
          go_wp2
          go_ret
          exact ⟨rfl, rfl⟩
      · have h2' : ¬ (100 : Int) < (s2.size : Int) := by omega
        have HN2 : Hid (∀ i (h : i < l.length), i < m + 1 → acLong l[i] = false) := HF.out (by rw [HD.out]; simp [h1, h2])
        go_wp2
        go_round
        case rel => exact ⟨m + 1, by omega, by go_num, HN2.out⟩
        case measure => simp [intOf]; omega
    · obtain rfl : m = L := by omega
      have e : R = 0 := by
        rw [← HR.out, if_neg]
        unfold acsLong
        rw [Bool.or_eq_true, HX.out]
        rintro (e | e)
        · simp at e; omega
        · obtain ⟨x, hx, hx2⟩ := List.any_eq_true.1 e
          obtain ⟨i, hi, rfl⟩ := List.mem_iff_getElem.1 hx
          rw [HNO.out i hi (by rw [← HX.out]; exact hi)] at hx2
          cases hx2
      subst e
      go_wp2
      go_ret
      exact ⟨rfl, rfl⟩
end Go.Proofs.YtbdhdlloihkibaaGreatDoor
namespace Go.Proofs.YtbdhdlloihkibaaGreatDoor
open Go.RowKit Go.Extern.Stop Go.Stop Go.Extern Go.Sort Go.Shelf Go.Lib

structure Both (EM : World → Prop) (SAt : World → Value → (Nat → Prop) → St → Prop) (B : Nat) (w0 W : World) (v : Value) (FP : Nat → Prop) (s : St) (b : Nat) (r : St) : Prop where
  ok : SOk EM SAt B w0 W v FP s
  mat : MAt W b r
  off : ¬ FP b
  le : B ≤ b
  objs : ∀ vL, W.cell? ⟨b, 0, none⟩ = some vL → r.obs ≠ [] → ∀ a n c, vL = .slice (some a) n c → ¬ FP a.block

theorem MAt.cell {W : World} {b : Nat} {r : St} (h : MAt W b r) : ∃ vL, W.cell? ⟨b, 0, none⟩ = some vL ∧ MC W b vL r ∧ ObsAt W vL r.obs := by
  obtain ⟨vL, h1, h2⟩ := h
  exact ⟨vL, h1.cells.1, h1, h2⟩
theorem MAt.lt {W : World} {b : Nat} {r : St} (h : MAt W b r) : b < W.heap.size := by
  obtain ⟨vL, h1, _⟩ := h
  exact h1.lt
theorem obs_but2 {W W' : World} {P : Nat → Prop} {v : Value} {l : List Ob} (h : ObsAt W v l) (ho : l ≠ [] → ∀ a n c, v = .slice (some a) n c → ¬ P a.block) (hb : But P W W') : ObsAt W' v l := by
  rcases h with h | ⟨b, o, c, hv, hl, hc⟩
  · exact Or.inl h
  · by_cases hne : l = []
    · exact Or.inl ⟨some ⟨b, o, none⟩, c, by rw [hv, hne]; rfl, fun e => (nomatch e), hne⟩
    · have hn := ho hne _ _ _ hv
      exact Or.inr ⟨b, o, c, hv, hl, fun j hj => ⟨hb.keep hn (hc j hj).1, hb.keep hn (hc j hj).2.1, hb.keep hn (hc j hj).2.2⟩⟩
theorem obs_lt {W : World} {v : Value} {l : List Ob} (h : ObsAt W v l) (hne : l ≠ []) {a : Addr} {n c : Nat} (e : v = .slice (some a) n c) : a.block < W.heap.size := by
  rcases h with ⟨_, _, _, _, e'⟩ | ⟨b, o, c', hv, hl, hc⟩
  · exact absurd e' hne
  · rw [hv] at e
    simp only [Value.slice.injEq, Option.some.injEq] at e
    rw [← e.1]
    exact cell_lt (hc 0 (List.length_pos_iff.2 hne)).1

section
variable {a : Nat → Addr} {B : Nat} {EM : World → Prop} {SAt : World → Value → (Nat → Prop) → St → Prop}

theorem Both.quiet (K : StoreK a B EM SAt) {w0 W w' : World} {v : Value} {FP : Nat → Prop} {s r : St} {b : Nat} (h : Both EM SAt B w0 W v FP s b r) (hb : Below W.heap.size W w') : Both EM SAt B w0 w' v FP s b r := by
  refine ⟨h.ok.quiet K hb, h.mat.below hb, h.off, h.le, fun vL hv hne => ?_⟩
  obtain ⟨vL', h1, _, _⟩ := h.mat.cell
  rw [below_keep hb h1] at hv
  cases hv
  exact h.objs _ h1 hne

theorem Both.prog (K : StoreK a B EM SAt) {w0 W w' : World} {v : Value} {FP : Nat → Prop} {s s' r : St} {b : Nat} (h : Both EM SAt B w0 W v FP s b r) (hp : SPost SAt W v FP s' w') : ∃ FP', Both EM SAt B w0 w' v FP' s' b r ∧ But FP W w' ∧ ∀ k, FP' k → FP k ∨ W.heap.size ≤ k := by
  obtain ⟨FP', h1, h2, h3⟩ := h.ok.post K hp
  obtain ⟨vL, c1, c2, c3⟩ := h.mat.cell
  have hc : w'.cell? ⟨b, 0, none⟩ = some vL := h2.keep h.off c1
  refine ⟨FP', ⟨h1, ⟨vL, c2.but h2 h.off, obs_but2 c3 (fun hne a n c e => h.objs _ c1 hne a n c e) h2⟩, fun hF => ?_, h.le, fun vL' hv hne a n c e hF => ?_⟩, h2, h3⟩
  · rcases h3 b hF with h4 | h4
    · exact h.off h4
    · have := h.mat.lt; omega
  · rw [hc] at hv
    cases hv
    rcases h3 _ hF with h4 | h4
    · exact h.objs _ c1 hne a n c e h4
    · have := obs_lt c3 hne e; omega

theorem Both.doc (K : StoreK a B EM SAt) {w0 W w' : World} {v : Value} {FP : Nat → Prop} {s r r' : St} {b : Nat} (h : Both EM SAt B w0 W v FP s b r) (hp : MPost W b r' w') : Both EM SAt B w0 w' v FP s b r' := by
  obtain ⟨h1, h2, h3⟩ := hp
  have hB := K.size _ h.ok.env
  have hb : Below B W w' := h2.below hB (fun k e => by rw [e]; exact h.le)
  refine ⟨⟨K.below _ _ h.ok.env hb, h.ok.frame.trans hb, h.ok.le, K.keep _ _ _ _ _ _ h.ok.at_ h2 (fun k hk e => h.off (e ▸ hk)), h.ok.new⟩, h1, h.off, h.le, fun vL' hv hne a n c e hF => ?_⟩
  obtain ⟨vL, c1, c2, c3⟩ := h.mat.cell
  obtain ⟨vL2, d1, d2⟩ := h3 vL c1
  rw [d1] at hv
  cases hv
  rcases d2 with d2 | d2
  · subst d2
    obtain ⟨u, u1, _, u3⟩ := h1.cell
    rw [d1] at u1
    cases u1
    obtain ⟨p1, q1, e1⟩ := c3.form
    obtain ⟨p2, q2, e2⟩ := u3.form
    rw [e1] at e2
    simp only [Value.slice.injEq] at e2
    refine h.objs _ c1 (fun e0 => hne ?_) a n c e hF
    rw [e0] at e2
    exact List.length_eq_zero_iff.1 e2.2.1.symm
  · have := d2 a n c e
    have := K.lt _ _ _ _ _ h.ok.at_ hF
    omega
end
end Go.Proofs.YtbdhdlloihkibaaGreatDoor
namespace Go.Proofs.YtbdhdlloihkibaaGreatDoor
open Go.RowKit Go.Extern.Stop Go.Stop Go.Extern Go.Sort Go.Shelf Go.Lib

def ActC (W : World) (A : Nat) (x : Ac) : Prop := W.cell? ⟨A, 0, none⟩ = some (.string x.1) ∧ W.cell? ⟨A, 1, none⟩ = some (.string x.2.1) ∧ W.cell? ⟨A, 2, none⟩ = some (.string x.2.2.1) ∧ W.cell? ⟨A, 3, none⟩ = some (.int .i64 x.2.2.2)

def Trip (EM : World → Prop) (SAt : World → Value → (Nat → Prop) → St → Prop) (B : Nat) (w0 W : World) (v : Value) (s : St) (b : Nat) (r : St) (A : Nat) (x : Ac) : Prop :=
  ∃ FP, Both EM SAt B w0 W v FP s b r ∧ ¬ FP A ∧ A ≠ b ∧ ActC W A x

section
variable {a : Nat → Addr} {B : Nat} {EM : World → Prop} {SAt : World → Value → (Nat → Prop) → St → Prop} {w0 W w' : World} {v : Value} {s s' r r' : St} {b A : Nat} {x : Ac}

theorem Trip.quiet (K : StoreK a B EM SAt) (h : Trip EM SAt B w0 W v s b r A x) (hb : Below W.heap.size W w') : Trip EM SAt B w0 w' v s b r A x := by
  obtain ⟨FP, h1, h2, h3, c0, c1, c2, c3⟩ := h
  exact ⟨FP, h1.quiet K hb, h2, h3, below_keep hb c0, below_keep hb c1, below_keep hb c2, below_keep hb c3⟩
theorem Trip.call (K : StoreK a B EM SAt) {f : Nat} {vs : Array Value} {R : Value} (h : Trip EM SAt B w0 W v s b r A x) (hc : ∀ FP, SAt W v FP s → Calls Tryz.prog f vs W fun e w' => e = .returned R ∧ SPost SAt W v FP s' w') :
    Calls Tryz.prog f vs W fun e w' => e = .returned R ∧ Trip EM SAt B w0 w' v s' b r A x := by
  obtain ⟨FP, h1, h2, h3, c0, c1, c2, c3⟩ := h
  refine (hc FP h1.ok.at_).mono fun e w' ⟨he, hp⟩ => ⟨he, ?_⟩
  obtain ⟨FP2, g1, g2, g3⟩ := h1.prog K hp
  refine ⟨FP2, g1, fun hF => ?_, h3, g2.keep h2 c0, g2.keep h2 c1, g2.keep h2 c2, g2.keep h2 c3⟩
  rcases g3 A hF with h4 | h4
  · exact h2 h4
  · have h5 : A < W.heap.size := cell_lt c0
    omega
theorem Trip.doc (K : StoreK a B EM SAt) (h : Trip EM SAt B w0 W v s b r A x) (hp : MPost W b r' w') : Trip EM SAt B w0 w' v s b r' A x := by
  obtain ⟨FP, h1, h2, h3, c0, c1, c2, c3⟩ := h
  exact ⟨FP, h1.doc K hp, h2, h3, hp.2.1.keep h3 c0, hp.2.1.keep h3 c1, hp.2.1.keep h3 c2, hp.2.1.keep h3 c3⟩
theorem Trip.cells (h : Trip EM SAt B w0 W v s b r A x) : ActC W A x := by
  obtain ⟨_, _, _, _, h⟩ := h
  exact h
theorem Trip.env (h : Trip EM SAt B w0 W v s b r A x) : EM W := by
  obtain ⟨_, h, _⟩ := h
  exact h.ok.env
theorem Trip.mat (h : Trip EM SAt B w0 W v s b r A x) : MAt W b r := by
  obtain ⟨_, h, _⟩ := h
  exact h.mat
theorem Trip.at_ (h : Trip EM SAt B w0 W v s b r A x) : ∃ FP, SAt W v FP s := by
  obtain ⟨FP, h, _⟩ := h
  exact ⟨FP, h.ok.at_⟩
end
end Go.Proofs.YtbdhdlloihkibaaGreatDoor
