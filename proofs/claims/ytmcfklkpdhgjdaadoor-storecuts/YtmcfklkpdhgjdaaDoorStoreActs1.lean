/-
  Acts on a store in memory: four cells an element; LongActs.
-/
import Derived.Test.YtmcfklkpdhgjdaaDoorStoreLaw2
namespace Go.Proofs.YtmcfklkpdhgjdaaDoor
open Go.RowKit Go.Extern.Stop Go.Stop Go.Extern Go.Sort Go.Shelf Go.Lib

/-- An act: its kind, a name, a text, a number. -/
abbrev Ac := ByteArray × ByteArray × ByteArray × Int
def acV (x : Ac) : Value := .agg #[.string x.1, .string x.2.1, .string x.2.2.1, .int .i64 x.2.2.2]

/-- Acts from a cell on. -/
def AcCells (w : World) (b o : Nat) (l : List Ac) : Prop :=
  ∀ j (h : j < l.length), w.cell? ⟨b, o + j * 4, none⟩ = some (.string l[j].1) ∧ w.cell? ⟨b, o + j * 4 + 1, none⟩ = some (.string l[j].2.1) ∧ w.cell? ⟨b, o + j * 4 + 2, none⟩ = some (.string l[j].2.2.1) ∧ w.cell? ⟨b, o + j * 4 + 3, none⟩ = some (.int .i64 l[j].2.2.2)
theorem AcCells.below {w w' : World} {B b o : Nat} {l : List Ac} (h : AcCells w b o l) (hb : Below B w w') (hlt : b < B) : AcCells w' b o l := fun j hj => by
  have hk : ∀ p, w'.cell? ⟨b, p, none⟩ = w.cell? ⟨b, p, none⟩ := fun p => by
    have e := hb.block b hlt
    unfold World.cell?
    rw [e]
  obtain ⟨h0, h1, h2, h3⟩ := h j hj
  exact ⟨(hk _).trans h0, (hk _).trans h1, (hk _).trans h2, (hk _).trans h3⟩
/-- A slice of acts, as it reads. -/
def AcsAt (w : World) (v : Value) (l : List Ac) : Prop :=
  (∃ p c, v = .slice p 0 c ∧ l = []) ∨ ∃ b o cap, v = .slice (some ⟨b, o, none⟩) l.length cap ∧ b < w.heap.size ∧ AcCells w b o l
theorem AcsAt.below {w w' : World} {B : Nat} {v : Value} {l : List Ac} (h : AcsAt w v l) (hb : Below B w w') (hB : w.heap.size ≤ B) : AcsAt w' v l := by
  rcases h with h | ⟨b, o, cap, hv, hl, hc⟩
  · exact Or.inl h
  · exact Or.inr ⟨b, o, cap, hv, Nat.lt_of_lt_of_le hl hb.size, hc.below hb (Nat.lt_of_lt_of_le hl hB)⟩
theorem AcsAt.form {w : World} {v : Value} {l : List Ac} (h : AcsAt w v l) : ∃ p c, v = .slice p l.length c := by
  rcases h with ⟨p, c, rfl, rfl⟩ | ⟨b, o, cap, rfl, _⟩
  · exact ⟨_, _, rfl⟩
  · exact ⟨_, _, rfl⟩
theorem AcsAt.cells {w : World} {q : Option Addr} {n c : Nat} {l : List Ac} (h : AcsAt w (.slice q n c) l) (hne : l ≠ []) : ∃ b o, q = some ⟨b, o, none⟩ ∧ b < w.heap.size ∧ AcCells w b o l := by
  rcases h with ⟨_, _, _, e⟩ | ⟨b, o, cap, e, hl, hc⟩
  · exact absurd e hne
  · simp only [Value.slice.injEq] at e
    exact ⟨b, o, e.1, hl, hc⟩

/-- Too many acts, or too long ones, for a statement. -/
def acLong (x : Ac) : Bool := decide (40 < x.2.1.size) || (decide (100 < x.2.2.1.size) && decide (x.2.2.1.size ≠ 20001))
def acsLong (l : List Ac) : Bool := decide (80 < l.length) || l.any acLong
theorem acs_short {l : List Ac} (h : acsLong l = false) : l.length ≤ 80 ∧ ∀ x ∈ l, x.2.1.size ≤ 40 ∧ x.2.2.1.size ≤ 20001 := by
  unfold acsLong at h
  rw [Bool.or_eq_false_iff] at h
  obtain ⟨h1, h2⟩ := h
  refine ⟨by simpa using h1, fun x hx => ?_⟩
  have h3 : acLong x = false := by
    have := List.any_eq_false.1 h2 x hx
    simpa using this
  unfold acLong at h3
  simp only [Bool.or_eq_false_iff, decide_eq_false_iff_not, Bool.and_eq_false_iff] at h3
  obtain ⟨h4, h5⟩ := h3
  refine ⟨by omega, ?_⟩
  rcases h5 with h5 | h5 <;> omega

set_option maxRecDepth 100000 in
set_option maxHeartbeats 2000000 in
theorem longActs_any (v : Value) (l : List Ac) (w : World) (h : AcsAt w v l) (hl : l.length ≤ maxLen) (hz : ∀ x ∈ l, x.2.1.size ≤ maxLen ∧ x.2.2.1.size ≤ maxLen) :
    Calls Tryd.prog 6 #[v] w fun e w' => e = .returned (.int .i64 (if acsLong l = true then 1 else 0)) ∧ w' = w := by
  unfold maxLen at hl hz
  obtain ⟨q, cap, rfl⟩ := h.form
  have HA : Hid (AcsAt w (.slice q l.length cap) l) := h
  have HZ : Hid (∀ x ∈ l, x.2.1.size ≤ 2 ^ 63 - 1 ∧ x.2.2.1.size ≤ 2 ^ 63 - 1) := hz
  obtain ⟨L, hL⟩ : ∃ L, l.length = L := ⟨_, rfl⟩
  have HX : Hid (l.length = L) := hL
  rw [hL] at hl ⊢
  generalize hR : (if acsLong l = true then (1 : Int) else 0) = R
  have HR : Hid ((if acsLong l = true then (1 : Int) else 0) = R) := hR
  clear hL h hR hz
  by_cases h80 : 80 < L
  · have h80' : (80 : Int) < (L : Int) := by omega
    have e : R = 1 := by rw [← HR.out, if_pos (by unfold acsLong; rw [HX.out]; simp [h80])]
    subst e
    go_enter Tryd.func6, Tryd.ntmps6
    go_wp2
    go_ret
    exact ⟨rfl, rfl⟩
  have h80' : ¬ (80 : Int) < (L : Int) := by omega
  go_enter Tryd.func6, Tryd.ntmps6
  go_wp2
  go_loop [3] (fun k => ∃ m : Nat, m ≤ L ∧ k = .int .i64 m ∧ ∀ i (h : i < l.length), i < m → acLong l[i] = false) (fun k => L - (intOf k).toNat)
  case atStart => exact ⟨0, by omega, rfl, fun i h h' => absurd h' (Nat.not_lt_zero _)⟩
  case round =>
    obtain ⟨m, hm, rfl, hno⟩ := hrel
    have HNO : Hid (∀ i (h : i < l.length), i < m → acLong l[i] = false) := hno
    clear hno
    by_cases hlt : m < L
    · have hltx : m < l.length := by rw [HX.out]; exact hlt
      obtain ⟨g, o, hq, -, hc⟩ := HA.out.cells (fun e => by rw [e] at hltx; simp at hltx)
      subst hq
      obtain ⟨-, c1, c2, -⟩ := hc m hltx
      obtain ⟨z1, z2⟩ := HZ.out _ (List.getElem_mem hltx)
      have hi : (m : Int) < (L : Int) := by omega
      have hi0 : (0 : Int) ≤ (m : Int) := by omega
      have HT : Hid (acLong l[m] = true → R = 1) := fun e => by
        show R = 1
        rw [← HR.out, if_pos]
        unfold acsLong
        rw [Bool.or_eq_true]
        exact Or.inr (List.any_eq_true.2 ⟨_, List.getElem_mem hltx, e⟩)
      have HF : Hid (acLong l[m] = false → ∀ i (h : i < l.length), i < m + 1 → acLong l[i] = false) := fun e i hi him => by
        by_cases e' : i = m
        · subst e'; exact e
        · exact HNO.out i hi (by omega)
      have HD : Hid (acLong l[m] = (decide (40 < l[m].2.1.size) || (decide (100 < l[m].2.2.1.size) && decide (l[m].2.2.1.size ≠ 20001)))) := rfl
      generalize acLong l[m] = T at HT HF HD
      generalize l[m].2.1 = s1 at *
      generalize l[m].2.2.1 = s2 at *
      clear hc hltx
      by_cases h1 : 40 < s1.size
      · have h1' : (40 : Int) < (s1.size : Int) := by omega
        have e : R = 1 := HT.out (by rw [HD.out]; simp [h1])
        subst e
        go_wp2
        go_ret
        exact ⟨rfl, rfl⟩
      have h1' : ¬ (40 : Int) < (s1.size : Int) := by omega
      by_cases h2 : 100 < s2.size
      · have h2' : (100 : Int) < (s2.size : Int) := by omega
        by_cases h3 : s2.size = 20001
        · have h3' : (s2.size : Int) = 20001 := by omega
          have HN1 := HF.out (by rw [HD.out]; simp [h1, h3])
          have HN2 : Hid (∀ i (h : i < l.length), i < m + 1 → acLong l[i] = false) := HN1
          clear HN1
          go_wp2
          go_round
          case rel => exact ⟨m + 1, by omega, by go_num, HN2.out⟩
          case measure => simp [intOf]; omega
        · have h3' : ¬ (s2.size : Int) = 20001 := by omega
          have e : R = 1 := HT.out (by rw [HD.out]; simp [h2, h3])
          subst e
          go_wp2
          go_ret
          exact ⟨rfl, rfl⟩
      · have h2' : ¬ (100 : Int) < (s2.size : Int) := by omega
        have HN2 : Hid (∀ i (h : i < l.length), i < m + 1 → acLong l[i] = false) := HF.out (by rw [HD.out]; simp [h1, h2])
        go_wp2
        go_round
        case rel => exact ⟨m + 1, by omega, by go_num, HN2.out⟩
        case measure => simp [intOf]; omega
    · obtain rfl : m = L := by omega
      have e : R = 0 := by
        rw [← HR.out, if_neg]
        unfold acsLong
        rw [Bool.or_eq_true, HX.out]
        rintro (e | e)
        · simp at e; omega
        · obtain ⟨x, hx, hx2⟩ := List.any_eq_true.1 e
          obtain ⟨i, hi, rfl⟩ := List.mem_iff_getElem.1 hx
          rw [HNO.out i hi (by rw [← HX.out]; exact hi)] at hx2
          cases hx2
      subst e
      go_wp2
      go_ret
      exact ⟨rfl, rfl⟩
end Go.Proofs.YtmcfklkpdhgjdaaDoor
