/-
  Lists of rows in memory; the equality of two rows; the statements' helpers LongRows, SameRows and OwnRows.
-/
import Derived.Test.YtgffkkijfmoooaaGreatDoorOrder
import Derived.Deep.QuietTactic
import Derived.BigQuiet
import Derived.Laws.StructEq
namespace Go.Proofs.YtgffkkijfmoooaaGreatDoor
open Go.RowKit Go.Extern.Stop Go.Stop Go.Extern Go.Sort Go.Shelf Go.Lib

theorem cell_lt {W : World} {p : Addr} {v : Value} (h : W.cell? p = some v) : p.block < W.heap.size := by
  rcases Nat.lt_or_ge p.block W.heap.size with h' | h'
  · exact h'
  · simp [World.cell?, Array.getElem?_eq_none h'] at h

theorem below_keep {W W' : World} (hb : Below W.heap.size W W') {p : Addr} {v : Value} (h : W.cell? p = some v) : W'.cell? p = some v :=
  (hb.cell (cell_lt h)).trans h

theorem below_drewN {B : Nat} {a w : World} (h : Below B a w) (n : Nat) : Below B a (w.drewN n) := ⟨h.os, h.tape, h.output, h.size, h.block⟩

theorem below_grow {w : World} (os : Array Obj) : Below w.heap.size w (grow w os) :=
  ⟨rfl, rfl, rfl, by simp [grow], fun k hk => by simp [grow, Array.getElem?_append, hk]⟩

/-- Rows, one behind the other, from o on. -/
def RowCells (w : World) (b o : Nat) (xs : List Rw) : Prop :=
  ∀ j (h : j < xs.length), w.cell? ⟨b, o + j * 3, none⟩ = some (.string xs[j].1) ∧ w.cell? ⟨b, o + j * 3 + 1, none⟩ = some (.int .i64 xs[j].2.1) ∧ w.cell? ⟨b, o + j * 3 + 2, none⟩ = some (.int .i64 xs[j].2.2)

/-- A slice of rows, as it reads. -/
def RowsAt (w : World) (v : Value) (xs : List Rw) : Prop :=
  (∃ p c, v = .slice p 0 c ∧ xs = []) ∨ ∃ b o cap, v = .slice (some ⟨b, o, none⟩) xs.length cap ∧ RowCells w b o xs

theorem RowCells.below {w w' : World} {b o : Nat} {xs : List Rw} (h : RowCells w b o xs) (hb : Below w.heap.size w w') : RowCells w' b o xs :=
  fun j hj => ⟨below_keep hb (h j hj).1, below_keep hb (h j hj).2.1, below_keep hb (h j hj).2.2⟩

theorem RowsAt.below {w w' : World} {v : Value} {xs : List Rw} (h : RowsAt w v xs) (hb : Below w.heap.size w w') : RowsAt w' v xs := by
  rcases h with h | ⟨b, o, cap, hv, hc⟩
  · exact Or.inl h
  · exact Or.inr ⟨b, o, cap, hv, hc.below hb⟩

theorem eqRow : EqlAt Tryz.prog 30 (fun x : Rw => .agg (encR x).toArray) (fun x y => decide (x = y)) := by
  refine ⟨fun x y w => ?_, GuardAt.agg _ (by kernel_rfl)⟩
  have u3 := Tryz.underlying3
  have u9 := Tryz.underlying9
  have a3 := Tryz.isAgg3
  have z3 := Tryz.sizeOf3
  have a9 := Tryz.isAgg9
  have z9 := Tryz.sizeOf9
  have hS : Tryz.prog.underlying 30 = some (.struct (Tryz.prog.fieldsOf 30)) := by kernel_rfl
  have hp : Tryz.prog.stoodInHeld 30 = false := by kernel_rfl
  obtain ⟨xp, xk, xv⟩ := x
  obtain ⟨yp, yk, yv⟩ := y
  simp only [encR]
  rw [run_eql_struct, show (10000 : Nat) = 9999 + 1 from rfl, run_equalIn_agg w 9999 30 _ _ hS hp]
  simp only [Program.fieldsOf, Tryz.underlying30]
  go_simp
  by_cases h1 : xp = yp
  · by_cases h2 : xk = yk <;> by_cases h3 : xv = yv <;> simp [h1, h2, h3]
  · have h1' : ¬ xp.toList = yp.toList := fun e => h1 (part_ext (by rwa [ByteArray.toList_eq, ByteArray.toList_eq] at e))
    simp [h1, h1']

theorem neqRow : NeqAt Tryz.prog 30 (fun x : Rw => .agg (encR x).toArray) (fun x y => decide (x = y)) := by
  refine ⟨fun x y w => ?_, eqRow.2⟩
  have h := eqRow.1 x y w
  simp only [encR] at h ⊢
  rw [run_eql_struct] at h
  rw [run_neq_struct]
  generalize Sem.run Tryz.prog (Op.equalIn 10000 30 _ _) w = r at h ⊢
  cases r with
  | ok b w' =>
    simp only [Result.andThen, Result.ok.injEq, Value.bool.injEq] at h ⊢
    exact ⟨by rw [h.1], h.2⟩
  | halt z w' => simp [Result.andThen] at h

/-- Are they too many, or is one of their Parts too long? -/
def longB (m : Int) (xs : List Rw) : Bool := decide (m < xs.length) || xs.any fun x => decide (30 < x.1.size)

def longN (m : Int) (xs : List Rw) : Int := if longB m xs then 1 else 0

theorem longN_yes {m : Int} {xs : List Rw} (h : longB m xs = true) : longN m xs = 1 := by simp [longN, h]
theorem longN_no {m : Int} {xs : List Rw} (h : longB m xs = false) : longN m xs = 0 := by simp [longN, h]

theorem longB_len {m : Int} {xs : List Rw} (h : longB m xs = false) : (xs.length : Int) ≤ m := by
  simp [longB] at h; omega

theorem longB_part {m : Int} {xs : List Rw} (h : longB m xs = false) (x : Rw) (hx : x ∈ xs) : x.1.size ≤ 30 := by
  simp [longB] at h
  obtain ⟨p, k, v⟩ := x
  exact h.2 p k v hx

theorem parts_succ {xs : List Rw} {n : Nat} (h : ∀ j (h : j < xs.length), j < n → xs[j].1.size ≤ 30) (hn : n < xs.length) (e : xs[n].1.size ≤ 30) : ∀ j (h : j < xs.length), j < n + 1 → xs[j].1.size ≤ 30 := fun j hj hjn => by
  rcases Nat.lt_or_ge j n with h' | h'
  · exact h j hj h'
  · obtain rfl : j = n := by omega
    exact e

set_option maxHeartbeats 1000000 in
theorem longRows_any (v : Value) (xs : List Rw) (m : Int) (w : World) (h : RowsAt w v xs) (hl : xs.length ≤ maxLen) (h0 : 0 ≤ m) :
    Calls Tryz.prog 9 #[v, .int .i64 m] w fun e w' => e = .returned (.int .i64 (longN m xs)) ∧ w' = w := by
  unfold maxLen at hl
  rcases h with ⟨p, c, rfl, rfl⟩ | ⟨b, o, cap, rfl, hc⟩
  · have hr : longN m [] = 0 := longN_no (by simp [longB]; omega)
    rw [hr]
    clear hl hr
    go_enter Tryz.func9, Tryz.ntmps9
    go_wp2
    refine wp_loop_rounds 1 ?_
    rw [rounds_succ]
    go_wp2
    go_ret
    exact ⟨rfl, rfl⟩
  · generalize hL : xs.length = L at hl ⊢
    have HL : Hid (xs.length = L) := hL
    clear hL
    by_cases hm : m < (L : Int)
    · have hr : longN m xs = 1 := longN_yes (by simp [longB, HL.out, hm])
      rw [hr]
      go_enter Tryz.func9, Tryz.ntmps9
      go_wp2
      go_ret
      exact ⟨rfl, rfl⟩
    · go_enter Tryz.func9, Tryz.ntmps9
      go_wp2
      go_loop [5] (fun k => ∃ n : Nat, n ≤ L ∧ (∀ j (h : j < xs.length), j < n → xs[j].1.size ≤ 30) ∧ k = .int .i64 n) (fun k => L - (intOf k).toNat)
      case atStart => exact ⟨0, by omega, by omega, rfl⟩
      case round =>
        obtain ⟨n, hn, ht, rfl⟩ := hrel
        have HT : Hid (∀ j (h : j < xs.length), j < n → xs[j].1.size ≤ 30) := ht
        clear ht
        by_cases hlt : n < L
        · have hlt' : n < xs.length := by rw [HL.out]; exact hlt
          have c1 := (hc n hlt').1
          generalize hp : xs[n].1 = p at c1
          have HP : Hid (xs[n].1 = p) := hp
          clear hp hc
          have hi : (n : Int) < (L : Int) := by omega
          by_cases e : 30 < p.size
          · have hr : longB m xs = true := by
              simp only [longB, Bool.or_eq_true, List.any_eq_true, decide_eq_true_eq]
              exact Or.inr ⟨xs[n], List.getElem_mem _, by rw [HP.out]; exact e⟩
            have HR : Hid (longN m xs = 1) := longN_yes hr
            clear hr
            have e' : (30 : Int) < (p.size : Int) := by omega
            go_wp2
            go_ret
            exact ⟨by rw [HR.out]; rfl, rfl⟩
          · have e' : ¬ (30 : Int) < (p.size : Int) := by omega
            go_wp2
            go_round
            case rel => exact ⟨n + 1, by omega, parts_succ HT.out hlt' (by rw [HP.out]; omega), by go_num⟩
            case measure => simp [intOf]; omega
        · have hr : longB m xs = false := by
            simp only [longB, Bool.or_eq_false_iff, decide_eq_false_iff_not, List.any_eq_false, decide_eq_true_eq]
            refine ⟨by rw [HL.out]; omega, fun x hx => ?_⟩
            obtain ⟨j, hj, rfl⟩ := List.mem_iff_getElem.1 hx
            have := HT.out j hj (by rw [HL.out] at hj; omega)
            omega
          have HR : Hid (longN m xs = 0) := longN_no hr
          have hn' : n = L := by omega
          subst hn'
          clear hr
          go_wp2
          go_ret
          exact ⟨by rw [HR.out]; rfl, rfl⟩
end Go.Proofs.YtgffkkijfmoooaaGreatDoor
