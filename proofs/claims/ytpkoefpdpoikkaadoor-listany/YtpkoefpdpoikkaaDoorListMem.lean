/-
  Lists of files in memory: six cells an element; laid flat; of the call's own.
-/
import Derived.Test.YtpkoefpdpoikkaaDoorFileNum
namespace Go.Proofs.YtpkoefpdpoikkaaDoor
open Go.RowKit Go.Extern.Stop Go.Stop Go.Extern Go.Sort Go.Shelf Go.Lib

def FlAt (W : World) (b : Nat) (f : Fl) : Prop := W.heap[b]? = some (.cells #[.string f.1, .string f.2.1, .int .i64 f.2.2.1, .int .i64 f.2.2.2.1, .int .i64 f.2.2.2.2.1, .int .i64 f.2.2.2.2.2] 32 (0, 0))

theorem FlAt.lt {W : World} {b : Nat} {f : Fl} (h : FlAt W b f) : b < W.heap.size := lt_of_block h
theorem FlAt.below {W W' : World} {b : Nat} {f : Fl} (h : FlAt W b f) (hb : Below W.heap.size W W') : FlAt W' b f := (hb.block b h.lt).trans h
theorem FlAt.cells {W : World} {b : Nat} {f : Fl} (h : FlAt W b f) : W.cell? ⟨b, 0, none⟩ = some (.string f.1) ∧ W.cell? ⟨b, 1, none⟩ = some (.string f.2.1) ∧ W.cell? ⟨b, 2, none⟩ = some (.int .i64 f.2.2.1) ∧ W.cell? ⟨b, 3, none⟩ = some (.int .i64 f.2.2.2.1) ∧ W.cell? ⟨b, 4, none⟩ = some (.int .i64 f.2.2.2.2.1) ∧ W.cell? ⟨b, 5, none⟩ = some (.int .i64 f.2.2.2.2.2) ∧ ∀ o, W.frozen? ⟨b, o, none⟩ = false := by
  unfold FlAt at h
  exact ⟨by rw [cell_of_row _ _ _ _ _ _ h]; rfl, by rw [cell_of_row _ _ _ _ _ _ h]; rfl, by rw [cell_of_row _ _ _ _ _ _ h]; rfl, by rw [cell_of_row _ _ _ _ _ _ h]; rfl, by rw [cell_of_row _ _ _ _ _ _ h]; rfl, by rw [cell_of_row _ _ _ _ _ _ h]; rfl, fun o => frozen_of_row _ _ _ _ _ h⟩
theorem FlAt.new (w : World) (f : Fl) : FlAt (w.alloc (.cells #[.string f.1, .string f.2.1, .int .i64 f.2.2.1, .int .i64 f.2.2.2.1, .int .i64 f.2.2.2.2.1, .int .i64 f.2.2.2.2.2] 32)) w.heap.size f := heap_alloc_new _ _

set_option maxRecDepth 100000 in
set_option maxHeartbeats 4000000 in
theorem fcheck_any (f : Fl) (w : World) (a : Nat → Addr) (h : EnvK w a) (h1 : f.1.size ≤ 100000) (h2 : f.2.1.size ≤ 100000) :
    Calls Tryd.prog 15 #[flV f] w fun e w' => e = .returned (errV a (fileE f)) ∧ Below w.heap.size w w' := by
  have hal : Below w.heap.size w (w.alloc (.cells #[.string f.1, .string f.2.1, .int .i64 f.2.2.1, .int .i64 f.2.2.2.1, .int .i64 f.2.2.2.2.1, .int .i64 f.2.2.2.2.2] 32)) := (Below.refl _ _).alloc (Nat.le_refl _) _
  have hfl := FlAt.new w f
  obtain ⟨p, q, n, lo, hi, seq⟩ := f
  dsimp only at h1 h2 hal
  have hnm := fnumber_n p _ a (h.below hal).env h1
  unfold flV
  dsimp only
  generalize hE : fileE (p, q, n, lo, hi, seq) = E
  have HE : Hid (fileE (p, q, n, lo, hi, seq) = E) := hE
  clear hE
  go_enter Tryd.func15, Tryd.ntmps15
  go_wp2_with fail
  generalize w.alloc (.cells #[.string p, .string q, .int .i64 n, .int .i64 lo, .int .i64 hi, .int .i64 seq] 32) = WA at hal hfl hnm ⊢
  refine hnm.mono ?_
  rintro e w1 ⟨rfl, hb1⟩
  clear hnm
  have hB1 : Below w.heap.size w w1 := hal.trans (hb1.mono hal.size)
  have hfl1 := hfl.below hb1
  obtain ⟨c0, c1, c2, c3, c4, c5, cf⟩ := hfl1.cells
  dsimp only at c0 c1 c2 c3 c4 c5
  clear hfl hfl1
  cases hp : pathO p.data.toList with
  | none =>
    have hEE : E = 5 := by rw [← HE.out]; unfold fileE; dsimp only; rw [hp]
    subst hEE
    rw [pathR_none hp]
    simp only [errV]
    clear hp c0 c1 c2 c3 c4 c5 cf
    go_wp2
    go_ret
    exact ⟨rfl, hB1⟩
  | some gn =>
    obtain ⟨g, k⟩ := gn
    rw [pathR_some hp]
    have HEE : Hid (E = if partB g q.data.toList then (if bndB (p, q, n, lo, hi, seq) then 0 else 2) else 4) := by
      show _ = _
      rw [← HE.out]; unfold fileE; dsimp only; rw [hp]
    simp only [errV]
    clear hp
    have hpo := partOf_any g q w1 (by unfold maxLen; omega)
    go_wp2_with fail
    refine hpo.mono ?_
    rintro e w2 ⟨rfl, hw2⟩
    rw [hw2]
    clear hpo hw2
    have ek := (h.below hB1).kind
    have eb := (h.below hB1).env.bound
    cases hpb : partB g q.data.toList with
    | false =>
      have hEE := HEE.out
      rw [hpb] at hEE
      simp only [Bool.false_eq_true, if_false] at hEE
      subst hEE
      clear hpb c0 c1 c2 c3 c4 c5 cf
      go_wp2
      go_ret
      exact ⟨rfl, hB1⟩
    | true =>
      have hEE := HEE.out
      rw [hpb, if_pos rfl] at hEE
      have HB : Hid (E = if bndB (p, q, n, lo, hi, seq) then 0 else 2) := hEE
      clear hEE hpb
      have bad : bndB (p, q, n, lo, hi, seq) = false → E = 2 := fun hb => by rw [HB.out, hb]; rfl
      have BAD : Hid (bndB (p, q, n, lo, hi, seq) = false → E = 2) := bad
      clear bad
      by_cases g1 : 1 ≤ n
      · by_cases g2 : n ≤ 40
        · have hL := fun W => inBounds_any lo W
          have hH := fun W => inBounds_any hi W
          cases g3 : inNum lo with
          | false =>
            obtain rfl := BAD.out (by simp [bndB, g3])
            rw [g3] at hL
            clear g3
            go_wp2_with (go_at_call 26; refine (hL _).mono ?_; rintro e w' ⟨rfl, rfl⟩)
            go_ret
            exact ⟨rfl, hB1⟩
          | true =>
            rw [g3] at hL
            cases g4 : inNum hi with
            | false =>
              obtain rfl := BAD.out (by simp [bndB, g4])
              rw [g4] at hH
              clear g3 g4
              go_wp2_with (first | (go_at_call 26; refine (hL _).mono ?_; rintro e w' ⟨rfl, rfl⟩) | (go_at_call 26; refine (hH _).mono ?_; rintro e w' ⟨rfl, rfl⟩))
              go_ret
              exact ⟨rfl, hB1⟩
            | true =>
              rw [g4] at hH
              by_cases g5 : lo ≤ hi
              · have g5' : ¬ hi < lo := by omega
                have hC := fun W => counts_any seq W
                cases g6 : cntB seq with
                | false =>
                  obtain rfl := BAD.out (by simp [bndB, g6])
                  rw [g6] at hC
                  clear g3 g4 g6
                  go_wp2_with (first | (go_at_call 26; refine (hL _).mono ?_; rintro e w' ⟨rfl, rfl⟩) | (go_at_call 26; refine (hH _).mono ?_; rintro e w' ⟨rfl, rfl⟩) | (go_at_call 27; refine (hC _).mono ?_; rintro e w' ⟨rfl, rfl⟩))
                  go_ret
                  exact ⟨rfl, hB1⟩
                | true =>
                  have hgood : E = 0 := by
                    rw [HB.out, if_pos]
                    simp [bndB, g1, g2, g3, g4, g5, g6]
                  subst hgood
                  rw [g6] at hC
                  clear g3 g4 g6
                  go_wp2_with (first | (go_at_call 26; refine (hL _).mono ?_; rintro e w' ⟨rfl, rfl⟩) | (go_at_call 26; refine (hH _).mono ?_; rintro e w' ⟨rfl, rfl⟩) | (go_at_call 27; refine (hC _).mono ?_; rintro e w' ⟨rfl, rfl⟩))
                  go_ret
                  exact ⟨rfl, hB1⟩
              · obtain rfl := BAD.out (by simp [bndB, g5])
                have g5' : hi < lo := by omega
                clear g3 g4
                go_wp2_with (first | (go_at_call 26; refine (hL _).mono ?_; rintro e w' ⟨rfl, rfl⟩) | (go_at_call 26; refine (hH _).mono ?_; rintro e w' ⟨rfl, rfl⟩))
                go_ret
                exact ⟨rfl, hB1⟩
        · obtain rfl := BAD.out (by simp [bndB, g2])
          have g2' : 40 < n := by omega
          go_wp2
          go_ret
          exact ⟨rfl, hB1⟩
      · obtain rfl := BAD.out (by simp [bndB, g1])
        have g1' : n < 1 := by omega
        go_wp2
        go_ret
        exact ⟨rfl, hB1⟩
end Go.Proofs.YtpkoefpdpoikkaaDoor
namespace Go.Proofs.YtpkoefpdpoikkaaDoor
open Go.RowKit Go.Extern.Stop Go.Stop Go.Extern Go.Sort Go.Shelf Go.Lib

theorem fl_len {f : Fl} (h : fileE f = 0) : (fileL f).length ≤ f.1.size + f.2.1.size + 60 := by
  obtain ⟨g, n, _, _, hb⟩ := file_good h
  obtain ⟨b1, b2, b3, b4⟩ := bnd_nums hb
  simp only [inNum, Bool.and_eq_true, decide_eq_true_eq] at b1 b2 b3 b4
  have l1 := itoa_len _ b1.1 b1.2
  have l2 := itoa_len _ b2.1 b2.2
  have l3 := itoa_len _ b3.1 b3.2
  have l4 := itoa_len _ b4.1 b4.2
  unfold fileL
  simp only [List.length_append, List.length_cons, size_list]
  omega

set_option maxRecDepth 100000 in
set_option maxHeartbeats 8000000 in
theorem ftext_any (f : Fl) (w : World) (a : Nat → Addr) (h : EnvK w a) (h1 : f.1.size ≤ 100000) (h2 : f.2.1.size ≤ 100000) :
    Calls Tryd.prog 22 #[flV f] w fun e w' => e = .returned (.string (fileB f)) ∧ Below w.heap.size w w' := by
  have hal : Below w.heap.size w (w.alloc (.cells #[.string f.1, .string f.2.1, .int .i64 f.2.2.1, .int .i64 f.2.2.2.1, .int .i64 f.2.2.2.2.1, .int .i64 f.2.2.2.2.2] 32)) := (Below.refl _ _).alloc (Nat.le_refl _) _
  have hfl := FlAt.new w f
  have hck := fcheck_any f _ a (h.below hal) h1 h2
  have hbd : fileE f = 0 → (inNum f.2.2.1 = true ∧ inNum f.2.2.2.1 = true ∧ inNum f.2.2.2.2.1 = true ∧ inNum f.2.2.2.2.2 = true) := fun he => let ⟨_, _, _, _, hb⟩ := file_good he; bnd_nums hb
  have hln := @fl_len f
  unfold fileB
  by_cases he : fileE f = 0
  · rw [if_pos he]
    rw [he] at hck
    have hb := hbd he
    have hl := hln he
    clear hbd hln he
    obtain ⟨p, q, n, lo, hi, seq⟩ := f
    dsimp only at h1 h2 hal hb hl
    unfold flV at hck ⊢
    dsimp only at hck ⊢
    simp only [errV] at hck
    simp only [inNum, Bool.and_eq_true, decide_eq_true_eq] at hb
    go_enter Tryd.func22, Tryd.ntmps22
    go_wp2_with fail
    generalize w.alloc (.cells #[.string p, .string q, .int .i64 n, .int .i64 lo, .int .i64 hi, .int .i64 seq] 32) = WA at hal hfl hck ⊢
    refine hck.mono ?_
    rintro e W0 ⟨rfl, hb1⟩
    clear hck
    have hB1 : Below w.heap.size w W0 := hal.trans (hb1.mono hal.size)
    have hEA := (h.below hB1).env
    obtain ⟨x0, x1, x2, x3, x4, x5, _⟩ := (hfl.below hb1).cells
    dsimp only at x0 x1 x2 x3 x4 x5
    clear hfl
    generalize w.heap.size = g at x0 x1 x2 x3 x4 x5
    have hb0 : Below W0.heap.size W0 W0 := Below.refl _ _
    go_wp2_with fail
    go_region_held3 (fun w' => w'.cell? ⟨g, 0, none⟩ = some (.string p) ∧ w'.cell? ⟨g, 1, none⟩ = some (.string q) ∧ w'.cell? ⟨g, 2, none⟩ = some (.int .i64 n) ∧ w'.cell? ⟨g, 3, none⟩ = some (.int .i64 lo) ∧ w'.cell? ⟨g, 4, none⟩ = some (.int .i64 hi) ∧ w'.cell? ⟨g, 5, none⟩ = some (.int .i64 seq) ∧ Below W0.heap.size W0 w')
      (first
        | (go_split_ands; exact ⟨below_keep hbX (by assumption), below_keep hbX (by assumption), below_keep hbX (by assumption), below_keep hbX (by assumption), below_keep hbX (by assumption), below_keep hbX (by assumption), Below.trans (by assumption) (hbX.mono (Below.size (by assumption)))⟩)
        | (go_split_ands; exact ⟨by go_keep, by go_keep, by go_keep, by go_keep, by go_keep, by go_keep, by assumption⟩)
        | (go_split_ands; exact ⟨by go_keep, by go_keep, by go_keep, by go_keep, by go_keep, by go_keep, Below.drew (by assumption)⟩)
        | (go_split_ands; exact ⟨by go_keep, by go_keep, by go_keep, by go_keep, by go_keep, by go_keep, Below.alloc (by assumption) (Below.size (by assumption)) _⟩))
      (first
        | (go_at_call 33; refine (itoa_s _ _ (hEA.below (by go_split_ands; assumption)).base (by omega) (by omega)).mono ?_; rintro e w2 ⟨rfl, hbX⟩))
    go_split_ands
    have hbE : Below W0.heap.size W0 (w2.alloc (.cells #[.string p, .string q, .string (bytesOf (itoa n)), .string (bytesOf (itoa lo)), .string (bytesOf (itoa hi)), .string (bytesOf (itoa seq))] 9)) := by assumption
    have hBE : Below w.heap.size w (w2.alloc (.cells #[.string p, .string q, .string (bytesOf (itoa n)), .string (bytesOf (itoa lo)), .string (bytesOf (itoa hi)), .string (bytesOf (itoa seq))] 9)) := hB1.trans (hbE.mono hB1.size)
    have hjl : (Lib.join ([p, q, bytesOf (itoa n), bytesOf (itoa lo), bytesOf (itoa hi), bytesOf (itoa seq)].map (·.data.toList)) (⟨#[32]⟩ : ByteArray).data.toList) = fileL (p, q, n, lo, hi, seq) := by
      simp [Lib.join, fileL, bytesOf]
    have hj := Tryd.strings_Join w2.heap.size 0 6 [p, q, bytesOf (itoa n), bytesOf (itoa lo), bytesOf (itoa hi), bytesOf (itoa seq)] ⟨#[32]⟩ (w2.alloc (.cells #[.string p, .string q, .string (bytesOf (itoa n)), .string (bytesOf (itoa lo)), .string (bytesOf (itoa hi)), .string (bytesOf (itoa seq))] 9)) (fun j x hx => by
        rw [Nat.zero_add, cell_of_row _ _ _ _ _ _ (heap_alloc_new _ _)]
        match j, hx with
        | 0, hx => simp at hx; subst hx; rfl
        | 1, hx => simp at hx; subst hx; rfl
        | 2, hx => simp at hx; subst hx; rfl
        | 3, hx => simp at hx; subst hx; rfl
        | 4, hx => simp at hx; subst hx; rfl
        | 5, hx => simp at hx; subst hx; rfl
        | j + 6, hx => simp at hx) (by simp) (by simp) (by simp) (by rw [hjl]; omega)
    rw [hjl] at hj
    clear hjl hl
    generalize w2.alloc (.cells #[.string p, .string q, .string (bytesOf (itoa n)), .string (bytesOf (itoa lo)), .string (bytesOf (itoa hi)), .string (bytesOf (itoa seq))] 9) = WE at hj hBE ⊢
    go_wp2_with fail
    refine hj.mono ?_
    rintro e w9 ⟨rfl, hb9⟩
    go_wp2
    go_ret
    exact ⟨rfl, hBE.trans (hb9.mono hBE.size)⟩
  · rw [if_neg he]
    obtain ⟨j, hj⟩ : ∃ j, fileE f = j + 1 := ⟨fileE f - 1, by omega⟩
    rw [hj] at hck
    clear hbd hln he hj
    obtain ⟨p, q, n, lo, hi, seq⟩ := f
    dsimp only at h1 h2 hal
    unfold flV at hck ⊢
    dsimp only at hck ⊢
    simp only [errV] at hck
    go_enter Tryd.func22, Tryd.ntmps22
    go_wp2_with fail
    generalize w.alloc (.cells #[.string p, .string q, .int .i64 n, .int .i64 lo, .int .i64 hi, .int .i64 seq] 32) = WA at hal hfl hck ⊢
    refine hck.mono ?_
    rintro e W0 ⟨rfl, hb1⟩
    clear hck
    have hB1 : Below w.heap.size w W0 := hal.trans (hb1.mono hal.size)
    go_wp2
    go_ret
    exact ⟨rfl, hB1⟩
end Go.Proofs.YtpkoefpdpoikkaaDoor
namespace Go.Proofs.YtpkoefpdpoikkaaDoor
open Go.RowKit Go.Extern.Stop Go.Stop Go.Extern Go.Sort Go.Shelf Go.Lib

theorem neqF (f : Fl) (w : World) : (binOp .neq 32 (flV f) (flV f)).run Tryd.prog w = .ok (.bool false) w := by
  have u3 := Tryd.underlying3
  have u9 := Tryd.underlying9
  have a3 := Tryd.isAgg3
  have z3 := Tryd.sizeOf3
  have a9 := Tryd.isAgg9
  have z9 := Tryd.sizeOf9
  have hS : Tryd.prog.underlying 32 = some (.struct (Tryd.prog.fieldsOf 32)) := by kernel_rfl
  have hp : Tryd.prog.stoodInHeld 32 = false := by kernel_rfl
  obtain ⟨p, q, n, lo, hi, seq⟩ := f
  unfold flV
  dsimp only
  rw [run_neq_struct, show (10000 : Nat) = 9999 + 1 from rfl, run_equalIn_agg w 9999 32 _ _ hS hp]
  simp only [Program.fieldsOf, Tryd.underlying32]
  go_simp

theorem guardF : GuardAt Tryd.prog 32 flV := GuardAt.agg _ (by kernel_rfl)

def longFB (f : Fl) : Bool := decide (30 < f.1.size) || decide (30 < f.2.1.size)

theorem longFile_any (f : Fl) (w : World) (h1 : f.1.size ≤ maxLen) (h2 : f.2.1.size ≤ maxLen) :
    Calls Tryd.prog 14 #[flV f] w fun e w' => e = .returned (.int .i64 (if longFB f then 1 else 0)) ∧ Below w.heap.size w w' := by
  have hal : Below w.heap.size w (w.alloc (.cells #[.string f.1, .string f.2.1, .int .i64 f.2.2.1, .int .i64 f.2.2.2.1, .int .i64 f.2.2.2.2.1, .int .i64 f.2.2.2.2.2] 32)) := (Below.refl _ _).alloc (Nat.le_refl _) _
  have hfl := FlAt.new w f
  unfold maxLen at h1 h2
  obtain ⟨p, q, n, lo, hi, seq⟩ := f
  unfold flV longFB
  dsimp only at h1 h2 hal hfl ⊢
  by_cases hp : 30 < p.size
  · have e : (decide (30 < p.size) || decide (30 < q.size)) = true := by simp [hp]
    rw [e, if_pos rfl]
    clear e
    go_enter Tryd.func14, Tryd.ntmps14
    go_wp2
    go_ret
    exact ⟨rfl, hal⟩
  · by_cases hq : 30 < q.size
    · have e : (decide (30 < p.size) || decide (30 < q.size)) = true := by simp [hq]
      rw [e, if_pos rfl]
      clear e
      go_enter Tryd.func14, Tryd.ntmps14
      go_wp2
      go_ret
      exact ⟨rfl, hal⟩
    · have e : (decide (30 < p.size) || decide (30 < q.size)) = false := by simp [hp, hq]
      rw [e, if_neg (by simp)]
      clear e
      go_enter Tryd.func14, Tryd.ntmps14
      go_wp2
      go_ret
      exact ⟨rfl, hal⟩
end Go.Proofs.YtpkoefpdpoikkaaDoor
namespace Go.Proofs.YtpkoefpdpoikkaaDoor
open Go Go.Lib

def pk (s : List UInt8) : Int := match pathO s with
  | some (g, n) => if g then 1073741824 + n else n
  | none => 0

theorem pk_some {s : List UInt8} {g : Bool} {n : Int} (h : pathO s = some (g, n)) : pk s = (if g then 1073741824 + n else n) ∧ 1 ≤ n ∧ n ≤ 1073741824 := by
  have hc := (path_some h).2.2
  simp only [cntB, Bool.and_eq_true, decide_eq_true_eq] at hc
  exact ⟨by unfold pk; rw [h], hc⟩

theorem pk_pos {s : List UInt8} (h : pathO s ≠ none) : 0 < pk s := by
  cases hp : pathO s with
  | none => exact absurd hp h
  | some p =>
    obtain ⟨g, n⟩ := p
    obtain ⟨e, h1, h2⟩ := pk_some hp
    rw [e]
    split <;> omega

theorem pk_inj {s t : List UInt8} (hs : pathO s ≠ none) (ht : pathO t ≠ none) (h : pk s = pk t) : s = t := by
  cases hp : pathO s with
  | none => exact absurd hp hs
  | some p =>
    cases hq : pathO t with
    | none => exact absurd hq ht
    | some q =>
      obtain ⟨g, n⟩ := p
      obtain ⟨k, m⟩ := q
      obtain ⟨e1, a1, a2⟩ := pk_some hp
      obtain ⟨e2, b1, b2⟩ := pk_some hq
      rw [e1, e2] at h
      have hg : g = k ∧ n = m := by
        cases g <;> cases k <;> simp only [if_true, Bool.false_eq_true, if_false] at h
        · exact ⟨rfl, h⟩
        · omega
        · omega
        · exact ⟨rfl, by omega⟩
      rw [(path_some hp).1, (path_some hq).1, hg.1, hg.2]

def fk (f : Fl) : Int := pk f.1.data.toList

theorem ok_path {f : Fl} (h : fileE f = 0) : pathO f.1.data.toList ≠ none := by
  obtain ⟨g, n, hp, _⟩ := file_good h
  rw [hp]; simp

theorem fk_pos {f : Fl} (h : fileE f = 0) : 0 < fk f := pk_pos (ok_path h)

theorem fk_path {f g : Fl} (hf : fileE f = 0) (hg : fileE g = 0) (h : fk f = fk g) : f.1 = g.1 := by
  have e := pk_inj (ok_path hf) (ok_path hg) h
  have : bytesOf f.1.data.toList = bytesOf g.1.data.toList := by rw [e]
  rwa [bytesOf_data, bytesOf_data] at this

def lstG : Int → List Fl → Nat → Nat × Option Nat
  | _, [], _ => (0, none)
  | prev, f :: r, i => if fileE f ≠ 0 then (fileE f, some i) else if fk f ≤ prev then (9, some i) else lstG (fk f) r (i + 1)

def listE (fs : List Fl) : Nat × Option Nat := if 60 < fs.length then (8, none) else lstG 0 fs 0

def Rises (prev : Int) (fs : List Fl) : Prop := (∀ f ∈ fs, fileE f = 0 ∧ prev < fk f) ∧ fs.Pairwise fun f g => fk f < fk g

theorem rises_cons {prev : Int} {f : Fl} {r : List Fl} : Rises prev (f :: r) ↔ fileE f = 0 ∧ prev < fk f ∧ Rises (fk f) r := by
  unfold Rises
  rw [List.pairwise_cons]
  constructor
  · rintro ⟨h1, h2, h3⟩
    have h0 := h1 f List.mem_cons_self
    exact ⟨h0.1, h0.2, fun g hg => ⟨(h1 g (List.mem_cons_of_mem _ hg)).1, h2 g hg⟩, h3⟩
  · rintro ⟨h1, h2, h3, h4⟩
    refine ⟨fun g hg => ?_, fun g hg => (h3 g hg).2, h4⟩
    rw [List.mem_cons] at hg
    rcases hg with rfl | hg
    · exact ⟨h1, h2⟩
    · have := h3 g hg
      exact ⟨this.1, by omega⟩

theorem lstG_ok : ∀ (fs : List Fl) (prev : Int) (i : Nat), (lstG prev fs i).1 = 0 ↔ Rises prev fs
  | [], prev, i => by simp [lstG, Rises]
  | f :: r, prev, i => by
    have ih := lstG_ok r (fk f) (i + 1)
    unfold lstG
    rw [rises_cons]
    split
    · rename_i h
      simp [h]
    · rename_i h
      have h0 : fileE f = 0 := by simpa using h
      split
      · rename_i h'
        simp [h0]; omega
      · rename_i h'
        rw [ih]
        simp [h0]; omega

theorem listE_ok {fs : List Fl} : (listE fs).1 = 0 ↔ fs.length ≤ 60 ∧ Rises 0 fs := by
  unfold listE
  split
  · rename_i h
    simp; omega
  · rename_i h
    rw [lstG_ok]
    simp; omega

def listL (fs : List Fl) : List UInt8 := fs.flatMap fun f => fileL f ++ [10]

def placeL (fs : List Fl) (f : Fl) : List Fl := fs.takeWhile (fun g => decide (fk g < fk f)) ++ f :: fs.dropWhile (fun g => decide (fk g < fk f))

theorem place_mid {xs ys : List Fl} {f : Fl} (h1 : ∀ g ∈ xs, fk g < fk f) (h2 : ∀ g ∈ ys, fk f < fk g) : placeL (xs ++ ys) f = xs ++ f :: ys := by
  have ht : (xs ++ ys).takeWhile (fun g => decide (fk g < fk f)) = xs := by
    rw [List.takeWhile_append_of_pos (fun g hg => by simpa using h1 g hg)]
    cases ys with
    | nil => simp
    | cons y r =>
      have := h2 y List.mem_cons_self
      rw [List.takeWhile_cons_of_neg (by simp; omega), List.append_nil]
  have hd : (xs ++ ys).dropWhile (fun g => decide (fk g < fk f)) = ys := by
    rw [List.dropWhile_append_of_pos (fun g hg => by simpa using h1 g hg)]
    cases ys with
    | nil => simp
    | cons y r =>
      have := h2 y List.mem_cons_self
      rw [List.dropWhile_cons_of_neg (by simp; omega)]
  unfold placeL
  rw [ht, hd]

theorem rises_path {fs : List Fl} {prev : Int} (h : Rises prev fs) {i j : Nat} (hi : i < fs.length) (hj : j < fs.length) (e : fs[i].1 = fs[j].1) : i = j := by
  have key : ∀ a b (ha : a < fs.length) (hb : b < fs.length), a < b → fs[a].1 ≠ fs[b].1 := fun a b ha hb hab e => by
    have := List.pairwise_iff_getElem.1 h.2 a b ha hb hab
    unfold fk at this
    rw [e] at this
    omega
  rcases Nat.lt_trichotomy i j with h' | h' | h'
  · exact absurd e (key i j hi hj h')
  · exact h'
  · exact absurd e.symm (key j i hj hi h')

theorem place_back {fs : List Fl} (h : Rises 0 fs) {i : Nat} (hi : i < fs.length) : fs.filter (fun g => decide (g.1 ≠ fs[i].1)) = fs.eraseIdx i ∧ placeL (fs.eraseIdx i) fs[i] = fs := by
  have hsplit : fs = fs.take i ++ fs[i] :: fs.drop (i + 1) := by rw [List.getElem_cons_drop, List.take_append_drop]
  have hlow : ∀ g ∈ fs.take i, fk g < fk fs[i] := fun g hg => by
    obtain ⟨a, ha, rfl⟩ := List.mem_iff_getElem.1 hg
    rw [List.length_take] at ha
    rw [List.getElem_take]
    exact List.pairwise_iff_getElem.1 h.2 a i (by omega) hi (by omega)
  have hhigh : ∀ g ∈ fs.drop (i + 1), fk fs[i] < fk g := fun g hg => by
    obtain ⟨a, ha, rfl⟩ := List.mem_iff_getElem.1 hg
    rw [List.length_drop] at ha
    rw [List.getElem_drop]
    exact List.pairwise_iff_getElem.1 h.2 i (i + 1 + a) hi (by omega) (by omega)
  have he : fs.eraseIdx i = fs.take i ++ fs.drop (i + 1) := List.eraseIdx_eq_take_drop_succ fs i
  have hnl : ∀ g ∈ fs.take i, g.1 ≠ fs[i].1 := fun g hg e => by
    have := hlow g hg
    unfold fk at this
    rw [e] at this
    omega
  have hnh : ∀ g ∈ fs.drop (i + 1), g.1 ≠ fs[i].1 := fun g hg e => by
    have := hhigh g hg
    unfold fk at this
    rw [e] at this
    omega
  refine ⟨?_, by rw [he, place_mid hlow hhigh]; exact hsplit.symm⟩
  rw [he]
  generalize hf : fs[i] = f at *
  conv => lhs; rw [hsplit]
  rw [List.filter_append, List.filter_cons_of_neg (by simp)]
  rw [List.filter_eq_self.2 (fun g hg => by simpa using hnl g hg), List.filter_eq_self.2 (fun g hg => by simpa using hnh g hg)]
end Go.Proofs.YtpkoefpdpoikkaaDoor
namespace Go.Proofs.YtpkoefpdpoikkaaDoor
open Go.RowKit Go.Extern.Stop Go.Stop Go.Extern Go.Sort Go.Shelf Go.Lib

def encF (f : Fl) : List Value := [.string f.1, .string f.2.1, .int .i64 f.2.2.1, .int .i64 f.2.2.2.1, .int .i64 f.2.2.2.2.1, .int .i64 f.2.2.2.2.2]

def FlCells (w : World) (b o : Nat) (fs : List Fl) : Prop :=
  ∀ j (h : j < fs.length), w.cell? ⟨b, o + j * 6, none⟩ = some (.string fs[j].1) ∧ w.cell? ⟨b, o + j * 6 + 1, none⟩ = some (.string fs[j].2.1) ∧ w.cell? ⟨b, o + j * 6 + 2, none⟩ = some (.int .i64 fs[j].2.2.1) ∧ w.cell? ⟨b, o + j * 6 + 3, none⟩ = some (.int .i64 fs[j].2.2.2.1) ∧ w.cell? ⟨b, o + j * 6 + 4, none⟩ = some (.int .i64 fs[j].2.2.2.2.1) ∧ w.cell? ⟨b, o + j * 6 + 5, none⟩ = some (.int .i64 fs[j].2.2.2.2.2)

def FlsAt (w : World) (v : Value) (fs : List Fl) : Prop :=
  (∃ p c, v = .slice p 0 c ∧ (p = none → c = 0) ∧ fs = []) ∨ ∃ b o cap, v = .slice (some ⟨b, o, none⟩) fs.length cap ∧ fs.length ≤ cap ∧ FlCells w b o fs

theorem FlCells.below {w w' : World} {b o : Nat} {fs : List Fl} (h : FlCells w b o fs) (hb : Below w.heap.size w w') : FlCells w' b o fs :=
  fun j hj => ⟨below_keep hb (h j hj).1, below_keep hb (h j hj).2.1, below_keep hb (h j hj).2.2.1, below_keep hb (h j hj).2.2.2.1, below_keep hb (h j hj).2.2.2.2.1, below_keep hb (h j hj).2.2.2.2.2⟩

theorem FlsAt.below {w w' : World} {v : Value} {fs : List Fl} (h : FlsAt w v fs) (hb : Below w.heap.size w w') : FlsAt w' v fs := by
  rcases h with h | ⟨b, o, cap, hv, hl, hc⟩
  · exact Or.inl h
  · exact Or.inr ⟨b, o, cap, hv, hl, hc.below hb⟩

theorem FlsAt.form {w : World} {v : Value} {fs : List Fl} (h : FlsAt w v fs) : ∃ p c, v = .slice p fs.length c := by
  rcases h with ⟨p, c, rfl, _, rfl⟩ | ⟨b, o, cap, rfl, _⟩
  · exact ⟨_, _, rfl⟩
  · exact ⟨_, _, rfl⟩

theorem FlsAt.cells {w : World} {q : Option Addr} {n c : Nat} {fs : List Fl} (h : FlsAt w (.slice q n c) fs) (hne : fs ≠ []) : ∃ b o, q = some ⟨b, o, none⟩ ∧ FlCells w b o fs := by
  rcases h with ⟨_, _, _, _, e⟩ | ⟨b, o, cap, e, _, hc⟩
  · exact absurd e hne
  · simp only [Value.slice.injEq] at e
    exact ⟨b, o, e.1, hc⟩

theorem FlsAt.room {w : World} {q : Option Addr} {n c : Nat} {fs : List Fl} (h : FlsAt w (.slice q n c) fs) : n = fs.length ∧ (fs ≠ [] → n ≤ c) := by
  rcases h with ⟨p, c', e, _, rfl⟩ | ⟨b, o, cap, e, hl, hc⟩
  · simp only [Value.slice.injEq] at e
    exact ⟨e.2.1, fun h => absurd rfl h⟩
  · simp only [Value.slice.injEq] at e
    obtain ⟨_, rfl, rfl⟩ := e
    exact ⟨rfl, fun _ => hl⟩

def flatF (fs : List Fl) : List Value := fs.flatMap encF

theorem encF_len (f : Fl) : (encF f).length = 6 := rfl
theorem encF_one (f : Fl) : ∀ u ∈ encF f, u.oneCell' = true := by
  intro u hu
  simp only [encF, List.mem_cons, List.not_mem_nil, or_false] at hu
  rcases hu with rfl | rfl | rfl | rfl | rfl | rfl <;> rfl

theorem flatF_len : ∀ fs : List Fl, (flatF fs).length = fs.length * 6
  | [] => rfl
  | f :: fs => by
    have := flatF_len fs
    simp only [flatF, List.flatMap_cons, List.length_append, List.length_cons] at *
    rw [this, encF_len]; omega

theorem flatF_one (fs : List Fl) : ∀ u ∈ flatF fs, u.oneCell' = true := by
  intro u hu
  simp only [flatF, List.mem_flatMap] at hu
  obtain ⟨f, _, hf⟩ := hu
  exact encF_one f u hf

theorem flatF_append (xs ys : List Fl) : flatF (xs ++ ys) = flatF xs ++ flatF ys := by simp [flatF]

theorem flatF_get : ∀ (fs : List Fl) (j c : Nat) (h : j < fs.length), c < 6 → (flatF fs)[j * 6 + c]? = (encF fs[j])[c]?
  | [], j, _, h, _ => by simp at h
  | f :: fs, 0, c, _, hc => by
    simp only [flatF, List.flatMap_cons, Nat.zero_mul, Nat.zero_add, List.getElem_cons_zero]
    rw [List.getElem?_append_left (by rw [encF_len]; exact hc)]
  | f :: fs, j + 1, c, h, hc => by
    have hj : j < fs.length := by simp at h; omega
    have := flatF_get fs j c hj hc
    simp only [flatF, List.flatMap_cons, List.getElem_cons_succ] at *
    rw [List.getElem?_append_right (by rw [encF_len]; omega), encF_len, show (j + 1) * 6 + c - 6 = j * 6 + c by omega]
    exact this

theorem cellsF_flat {w : World} {b o : Nat} {fs : List Fl} (h : FlCells w b o fs) : ∀ t u, (flatF fs)[t]? = some u → w.cell? ⟨b, o + t, none⟩ = some u := by
  intro t u hu
  have ht : t < (flatF fs).length := by
    rcases Nat.lt_or_ge t (flatF fs).length with h' | h'
    · exact h'
    · rw [List.getElem?_eq_none h'] at hu; cases hu
  rw [flatF_len] at ht
  have hj : t / 6 < fs.length := by omega
  have e : t = t / 6 * 6 + t % 6 := by omega
  rw [e, flatF_get fs (t / 6) (t % 6) hj (by omega)] at hu
  obtain ⟨h0, h1, h2, h3, h4, h5⟩ := h (t / 6) hj
  have hm : t % 6 = 0 ∨ t % 6 = 1 ∨ t % 6 = 2 ∨ t % 6 = 3 ∨ t % 6 = 4 ∨ t % 6 = 5 := by omega
  rcases hm with hm | hm | hm | hm | hm | hm <;> rw [hm] at hu <;> simp only [encF, List.getElem?_cons_succ, List.getElem?_cons_zero, Option.some.injEq] at hu
  · rw [← hu, ← h0]; congr 2; omega
  · rw [← hu, ← h1]; congr 2; omega
  · rw [← hu, ← h2]; congr 2; omega
  · rw [← hu, ← h3]; congr 2; omega
  · rw [← hu, ← h4]; congr 2; omega
  · rw [← hu, ← h5]; congr 2; omega

theorem flCells_of {w : World} {b o : Nat} {fs : List Fl} (h : ∀ t u, (flatF fs)[t]? = some u → w.cell? ⟨b, o + t, none⟩ = some u) : FlCells w b o fs := fun j hj => by
  have g : ∀ c (hc : c < 6), w.cell? ⟨b, o + (j * 6 + c), none⟩ = (encF fs[j])[c]? := fun c hc => by
    have e := flatF_get fs j c hj hc
    have hl : c < (encF fs[j]).length := by rw [encF_len]; exact hc
    rw [List.getElem?_eq_getElem hl] at e ⊢
    exact h _ _ e
  refine ⟨?_, ?_, ?_, ?_, ?_, ?_⟩
  · simpa [encF] using g 0 (by omega)
  · simpa [encF, Nat.add_assoc] using g 1 (by omega)
  · simpa [encF, Nat.add_assoc] using g 2 (by omega)
  · simpa [encF, Nat.add_assoc] using g 3 (by omega)
  · simpa [encF, Nat.add_assoc] using g 4 (by omega)
  · simpa [encF, Nat.add_assoc] using g 5 (by omega)

theorem flsAt_of_own {w : World} {base : Nat} {v : Value} {n : Nat} {fs : List Fl} (h : w.ownsRow base 32 6 v n (flatF fs)) : FlsAt w v fs ∧ n = fs.length := by
  obtain ⟨hl, h⟩ := h
  have hn : n = fs.length := by rw [flatF_len] at hl; omega
  refine ⟨?_, hn⟩
  subst hn
  rcases h with ⟨hv, hn⟩ | ⟨g, cap, cur, rfl, _, hg, hcp, _, _, ht⟩
  · exact Or.inl ⟨none, 0, by rw [hv], fun _ => rfl, List.length_eq_zero_iff.1 hn⟩
  · refine Or.inr ⟨g, 0, cap, rfl, hcp, flCells_of fun t u hu => ?_⟩
    have ht' : t < fs.length * 6 := by
      rw [← flatF_len]
      rcases Nat.lt_or_ge t (flatF fs).length with h' | h'
      · exact h'
      · rw [List.getElem?_eq_none h'] at hu; cases hu
    rw [← ht, List.getElem?_take, if_pos ht'] at hu
    simp only [World.cell?, hg, Nat.zero_add]
    simpa using hu

theorem Tryd.fileInfo3 : (Tryd.prog.info? 32).map (fun i => (i.zero, i.size, i.bytes)) = some (some (.agg #[.string ⟨#[]⟩, .string ⟨#[]⟩, .int .i64 0, .int .i64 0, .int .i64 0, .int .i64 0]), 6, 64) := by kernel_rfl
theorem Tryd.fileInfo : ∃ i0 : TypeInfo, Tryd.prog.info? 32 = some i0 ∧ i0.zero = some (.agg #[.string ⟨#[]⟩, .string ⟨#[]⟩, .int .i64 0, .int .i64 0, .int .i64 0, .int .i64 0]) ∧ i0.size = 6 ∧ i0.bytes = 64 := by
  obtain ⟨i, hi, h⟩ := Option.map_eq_some_iff.1 Tryd.fileInfo3
  simp only [Prod.mk.injEq] at h
  exact ⟨i, hi, h.1, h.2.1, h.2.2⟩
end Go.Proofs.YtpkoefpdpoikkaaDoor
