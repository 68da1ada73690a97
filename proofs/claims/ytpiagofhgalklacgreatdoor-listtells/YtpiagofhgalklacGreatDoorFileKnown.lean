/-
  The contracts of the statements' own LongFile, and what '==' and '!=' give on what is known of a file.
-/
import Derived.Test.YtpiagofhgalklacGreatDoorFileText
namespace Go.Proofs.YtpiagofhgalklacGreatDoor
open Go.RowKit Go.Extern.Stop Go.Stop Go.Extern Go.Sort Go.Shelf Go.Lib

theorem neqF (f : Fl) (w : World) : (binOp .neq 24 (flV f) (flV f)).run Tryz.prog w = .ok (.bool false) w := by
  have u3 := Tryz.underlying3
  have u9 := Tryz.underlying9
  have a3 := Tryz.isAgg3
  have z3 := Tryz.sizeOf3
  have a9 := Tryz.isAgg9
  have z9 := Tryz.sizeOf9
  have hS : Tryz.prog.underlying 24 = some (.struct (Tryz.prog.fieldsOf 24)) := by kernel_rfl
  have hp : Tryz.prog.stoodInHeld 24 = false := by kernel_rfl
  obtain ⟨p, q, n, lo, hi, seq⟩ := f
  unfold flV
  dsimp only
  rw [run_neq_struct, show (10000 : Nat) = 9999 + 1 from rfl, run_equalIn_agg w 9999 24 _ _ hS hp]
  simp only [Program.fieldsOf, Tryz.underlying24]
  go_simp

theorem eqF (f : Fl) (w : World) : (binOp .eql 24 (flV f) (flV f)).run Tryz.prog w = .ok (.bool true) w := by
  have u3 := Tryz.underlying3
  have u9 := Tryz.underlying9
  have a3 := Tryz.isAgg3
  have z3 := Tryz.sizeOf3
  have a9 := Tryz.isAgg9
  have z9 := Tryz.sizeOf9
  have hS : Tryz.prog.underlying 24 = some (.struct (Tryz.prog.fieldsOf 24)) := by kernel_rfl
  have hp : Tryz.prog.stoodInHeld 24 = false := by kernel_rfl
  obtain ⟨p, q, n, lo, hi, seq⟩ := f
  unfold flV
  dsimp only
  rw [run_eql_struct, show (10000 : Nat) = 9999 + 1 from rfl, run_equalIn_agg w 9999 24 _ _ hS hp]
  simp only [Program.fieldsOf, Tryz.underlying24]
  go_simp

theorem guardF : GuardAt Tryz.prog 24 flV := GuardAt.agg _ (by kernel_rfl)

/-- Is what is known too long? -/
def longFB (f : Fl) : Bool := decide (30 < f.1.size) || decide (30 < f.2.1.size)

theorem longFile_any (f : Fl) (w : World) (h1 : f.1.size ≤ maxLen) (h2 : f.2.1.size ≤ maxLen) :
    Calls Tryz.prog 8 #[flV f] w fun e w' => e = .returned (.int .i64 (if longFB f then 1 else 0)) ∧ Below w.heap.size w w' := by
  have hal : Below w.heap.size w (w.alloc (.cells #[.string f.1, .string f.2.1, .int .i64 f.2.2.1, .int .i64 f.2.2.2.1, .int .i64 f.2.2.2.2.1, .int .i64 f.2.2.2.2.2] 24)) := (Below.refl _ _).alloc (Nat.le_refl _) _
  have hfl := FlAt.new w f
  unfold maxLen at h1 h2
  obtain ⟨p, q, n, lo, hi, seq⟩ := f
  unfold flV longFB
  dsimp only at h1 h2 hal hfl ⊢
  by_cases hp : 30 < p.size
  · have e : (decide (30 < p.size) || decide (30 < q.size)) = true := by simp [hp]
    rw [e, if_pos rfl]
    clear e
    go_enter Tryz.func8, Tryz.ntmps8
    go_wp2
    go_ret
    exact ⟨rfl, hal⟩
  · by_cases hq : 30 < q.size
    · have e : (decide (30 < p.size) || decide (30 < q.size)) = true := by simp [hq]
      rw [e, if_pos rfl]
      clear e
      go_enter Tryz.func8, Tryz.ntmps8
      go_wp2
      go_ret
      exact ⟨rfl, hal⟩
    · have e : (decide (30 < p.size) || decide (30 < q.size)) = false := by simp [hp, hq]
      rw [e, if_neg (by simp)]
      clear e
      go_enter Tryz.func8, Tryz.ntmps8
      go_wp2
      go_ret
      exact ⟨rfl, hal⟩
end Go.Proofs.YtpiagofhgalklacGreatDoor
