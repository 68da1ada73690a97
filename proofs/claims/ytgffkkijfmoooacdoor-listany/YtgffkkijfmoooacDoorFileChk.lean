/-
  The contract of file.Check.
-/
import Derived.Test.YtgffkkijfmoooacDoorFileNum
namespace Go.Proofs.YtgffkkijfmoooacDoor
open Go.RowKit Go.Extern.Stop Go.Stop Go.Extern Go.Sort Go.Shelf Go.Lib

/-- The block of what is known of a file. -/
def FlAt (W : World) (b : Nat) (f : Fl) : Prop := W.heap[b]? = some (.cells #[.string f.1, .string f.2.1, .int .i64 f.2.2.1, .int .i64 f.2.2.2.1, .int .i64 f.2.2.2.2.1, .int .i64 f.2.2.2.2.2] 32 (0, 0))

theorem FlAt.lt {W : World} {b : Nat} {f : Fl} (h : FlAt W b f) : b < W.heap.size := lt_of_block h
theorem FlAt.below {W W' : World} {b : Nat} {f : Fl} (h : FlAt W b f) (hb : Below W.heap.size W W') : FlAt W' b f := (hb.block b h.lt).trans h
theorem FlAt.cells {W : World} {b : Nat} {f : Fl} (h : FlAt W b f) : W.cell? ⟨b, 0, none⟩ = some (.string f.1) ∧ W.cell? ⟨b, 1, none⟩ = some (.string f.2.1) ∧ W.cell? ⟨b, 2, none⟩ = some (.int .i64 f.2.2.1) ∧ W.cell? ⟨b, 3, none⟩ = some (.int .i64 f.2.2.2.1) ∧ W.cell? ⟨b, 4, none⟩ = some (.int .i64 f.2.2.2.2.1) ∧ W.cell? ⟨b, 5, none⟩ = some (.int .i64 f.2.2.2.2.2) ∧ ∀ o, W.frozen? ⟨b, o, none⟩ = false := by
  unfold FlAt at h
  exact ⟨by rw [cell_of_row _ _ _ _ _ _ h]; rfl, by rw [cell_of_row _ _ _ _ _ _ h]; rfl, by rw [cell_of_row _ _ _ _ _ _ h]; rfl, by rw [cell_of_row _ _ _ _ _ _ h]; rfl, by rw [cell_of_row _ _ _ _ _ _ h]; rfl, by rw [cell_of_row _ _ _ _ _ _ h]; rfl, fun o => frozen_of_row _ _ _ _ _ h⟩
theorem FlAt.new (w : World) (f : Fl) : FlAt (w.alloc (.cells #[.string f.1, .string f.2.1, .int .i64 f.2.2.1, .int .i64 f.2.2.2.1, .int .i64 f.2.2.2.2.1, .int .i64 f.2.2.2.2.2] 32)) w.heap.size f := heap_alloc_new _ _

set_option maxRecDepth 100000 in
set_option maxHeartbeats 4000000 in
theorem fcheck_any (f : Fl) (w : World) (a : Nat → Addr) (h : EnvK w a) (h1 : f.1.size ≤ 100000) (h2 : f.2.1.size ≤ 100000) :
    Calls Tryd.prog 15 #[flV f] w fun e w' => e = .returned (errV a (fileE f)) ∧ Below w.heap.size w w' := by
  have hal : Below w.heap.size w (w.alloc (.cells #[.string f.1, .string f.2.1, .int .i64 f.2.2.1, .int .i64 f.2.2.2.1, .int .i64 f.2.2.2.2.1, .int .i64 f.2.2.2.2.2] 32)) := (Below.refl _ _).alloc (Nat.le_refl _) _
  have hfl := FlAt.new w f
  obtain ⟨p, q, n, lo, hi, seq⟩ := f
  dsimp only at h1 h2 hal
  have hnm := fnumber_n p _ a (h.below hal).env h1
  unfold flV
  dsimp only
  generalize hE : fileE (p, q, n, lo, hi, seq) = E
  have HE : Hid (fileE (p, q, n, lo, hi, seq) = E) := hE
  clear hE
  go_enter Tryd.func15, Tryd.ntmps15
  go_wp2_with fail
  generalize w.alloc (.cells #[.string p, .string q, .int .i64 n, .int .i64 lo, .int .i64 hi, .int .i64 seq] 32) = WA at hal hfl hnm ⊢
  refine hnm.mono ?_
  rintro e w1 ⟨rfl, hb1⟩
  clear hnm
  have hB1 : Below w.heap.size w w1 := hal.trans (hb1.mono hal.size)
  have hfl1 := hfl.below hb1
  obtain ⟨c0, c1, c2, c3, c4, c5, cf⟩ := hfl1.cells
  dsimp only at c0 c1 c2 c3 c4 c5
  clear hfl hfl1
  cases hp : pathO p.data.toList with
  | none =>
    have hEE : E = 5 := by rw [← HE.out]; unfold fileE; dsimp only; rw [hp]
    subst hEE
    rw [pathR_none hp]
    simp only [errV]
    clear hp c0 c1 c2 c3 c4 c5 cf
    go_wp2
    go_ret
    exact ⟨rfl, hB1⟩
  | some gn =>
    obtain ⟨g, k⟩ := gn
    rw [pathR_some hp]
    have HEE : Hid (E = if partB g q.data.toList then (if bndB (p, q, n, lo, hi, seq) then 0 else 2) else 4) := by
      show _ = _
      rw [← HE.out]; unfold fileE; dsimp only; rw [hp]
    simp only [errV]
    clear hp
    have hpo := partOf_any g q w1 (by unfold maxLen; omega)
    go_wp2_with fail
    refine hpo.mono ?_
    rintro e w2 ⟨rfl, hw2⟩
    rw [hw2]
    clear hpo hw2
    have ek := (h.below hB1).kind
    have eb := (h.below hB1).env.bound
    cases hpb : partB g q.data.toList with
    | false =>
      have hEE := HEE.out
      rw [hpb] at hEE
      simp only [Bool.false_eq_true, if_false] at hEE
      subst hEE
      clear hpb c0 c1 c2 c3 c4 c5 cf
      go_wp2
      go_ret
      exact ⟨rfl, hB1⟩
    | true =>
      have hEE := HEE.out
      rw [hpb, if_pos rfl] at hEE
      have HB : Hid (E = if bndB (p, q, n, lo, hi, seq) then 0 else 2) := hEE
      clear hEE hpb
      have bad : bndB (p, q, n, lo, hi, seq) = false → E = 2 := fun hb => by rw [HB.out, hb]; rfl
      have BAD : Hid (bndB (p, q, n, lo, hi, seq) = false → E = 2) := bad
      clear bad
      by_cases g1 : 1 ≤ n
      · by_cases g2 : n ≤ 40
        · have hL := fun W => inBounds_any lo W
          have hH := fun W => inBounds_any hi W
          cases g3 : inNum lo with
          | false =>
            obtain rfl := BAD.out (by simp [bndB, g3])
            rw [g3] at hL
            clear g3
            go_wp2_with (go_at_call 26; refine (hL _).mono ?_; rintro e w' ⟨rfl, rfl⟩)
            go_ret
            exact ⟨rfl, hB1⟩
          | true =>
            rw [g3] at hL
            cases g4 : inNum hi with
            | false =>
              obtain rfl := BAD.out (by simp [bndB, g4])
              rw [g4] at hH
              clear g3 g4
              go_wp2_with (first | (go_at_call 26; refine (hL _).mono ?_; rintro e w' ⟨rfl, rfl⟩) | (go_at_call 26; refine (hH _).mono ?_; rintro e w' ⟨rfl, rfl⟩))
              go_ret
              exact ⟨rfl, hB1⟩
            | true =>
              rw [g4] at hH
              by_cases g5 : lo ≤ hi
              · have g5' : ¬ hi < lo := by omega
                have hC := fun W => counts_any seq W
                cases g6 : cntB seq with
                | false =>
                  obtain rfl := BAD.out (by simp [bndB, g6])
                  rw [g6] at hC
                  clear g3 g4 g6
                  go_wp2_with (first | (go_at_call 26; refine (hL _).mono ?_; rintro e w' ⟨rfl, rfl⟩) | (go_at_call 26; refine (hH _).mono ?_; rintro e w' ⟨rfl, rfl⟩) | (go_at_call 27; refine (hC _).mono ?_; rintro e w' ⟨rfl, rfl⟩))
                  go_ret
                  exact ⟨rfl, hB1⟩
                | true =>
                  have hgood : E = 0 := by
                    rw [HB.out, if_pos]
                    simp [bndB, g1, g2, g3, g4, g5, g6]
                  subst hgood
                  rw [g6] at hC
                  clear g3 g4 g6
                  go_wp2_with (first | (go_at_call 26; refine (hL _).mono ?_; rintro e w' ⟨rfl, rfl⟩) | (go_at_call 26; refine (hH _).mono ?_; rintro e w' ⟨rfl, rfl⟩) | (go_at_call 27; refine (hC _).mono ?_; rintro e w' ⟨rfl, rfl⟩))
                  go_ret
                  exact ⟨rfl, hB1⟩
              · obtain rfl := BAD.out (by simp [bndB, g5])
                have g5' : hi < lo := by omega
                clear g3 g4
                go_wp2_with (first | (go_at_call 26; refine (hL _).mono ?_; rintro e w' ⟨rfl, rfl⟩) | (go_at_call 26; refine (hH _).mono ?_; rintro e w' ⟨rfl, rfl⟩))
                go_ret
                exact ⟨rfl, hB1⟩
        · obtain rfl := BAD.out (by simp [bndB, g2])
          have g2' : 40 < n := by omega
          go_wp2
          go_ret
          exact ⟨rfl, hB1⟩
      · obtain rfl := BAD.out (by simp [bndB, g1])
        have g1' : n < 1 := by omega
        go_wp2
        go_ret
        exact ⟨rfl, hB1⟩
end Go.Proofs.YtgffkkijfmoooacDoor
