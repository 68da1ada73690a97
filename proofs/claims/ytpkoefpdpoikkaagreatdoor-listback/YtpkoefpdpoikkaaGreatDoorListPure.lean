/-
  Plain mathematics of lists of files: their order, their text, what is added and removed.
-/
import Derived.Test.YtpkoefpdpoikkaaGreatDoorFileChk
namespace Go.Proofs.YtpkoefpdpoikkaaGreatDoor
open Go.RowKit Go.Extern.Stop Go.Stop Go.Extern Go.Sort Go.Shelf Go.Lib

def flSet (W : World) (b : Nat) (f : Fl) : World := (((((W.setCell ⟨b, 0, none⟩ (.string f.1)).setCell ⟨b, 1, none⟩ (.string f.2.1)).setCell ⟨b, 2, none⟩ (.int .i64 f.2.2.1)).setCell ⟨b, 3, none⟩ (.int .i64 f.2.2.2.1)).setCell ⟨b, 4, none⟩ (.int .i64 f.2.2.2.2.1)).setCell ⟨b, 5, none⟩ (.int .i64 f.2.2.2.2.2)

theorem FlAt.set {W : World} {b : Nat} {f : Fl} (h : FlAt W b f) (f' : Fl) : FlAt (flSet W b f') b f' := by
  unfold FlAt flSet at *
  rw [heap_setCell_same _ _ _ _ _ _ (heap_setCell_same _ _ _ _ _ _ (heap_setCell_same _ _ _ _ _ _ (heap_setCell_same _ _ _ _ _ _ (heap_setCell_same _ _ _ _ _ _ (heap_setCell_same _ _ _ _ _ _ h)))))]
  rfl
theorem flSet_below {W W0 : World} {B b : Nat} {f : Fl} (h : Below B W0 W) (hb : B ≤ b) : Below B W0 (flSet W b f) := (((((h.setCell hb _).setCell hb _).setCell hb _).setCell hb _).setCell hb _).setCell hb _
set_option maxRecDepth 100000 in
set_option maxHeartbeats 4000000 in
theorem checked_any (f : Fl) (w : World) (a : Nat → Addr) (h : EnvK w a) (h1 : f.1.size ≤ 100000) (h2 : f.2.1.size ≤ 100000) :
    Calls Tryz.prog 65 #[flV f] w fun e w' => e = .returned (.tuple #[flV (chkF f).1, errV a (chkF f).2]) ∧ Below w.heap.size w w' := by
  have hal : Below w.heap.size w ((w.alloc (.cells #[.string f.1, .string f.2.1, .int .i64 f.2.2.1, .int .i64 f.2.2.2.1, .int .i64 f.2.2.2.2.1, .int .i64 f.2.2.2.2.2] 23)).alloc (.cells #[.string ⟨#[]⟩, .string ⟨#[]⟩, .int .i64 0, .int .i64 0, .int .i64 0, .int .i64 0] 23)) := ((Below.refl _ _).alloc (Nat.le_refl _) _).alloc (by simp) _
  have hfl : FlAt ((w.alloc (.cells #[.string f.1, .string f.2.1, .int .i64 f.2.2.1, .int .i64 f.2.2.2.1, .int .i64 f.2.2.2.2.1, .int .i64 f.2.2.2.2.2] 23)).alloc (.cells #[.string ⟨#[]⟩, .string ⟨#[]⟩, .int .i64 0, .int .i64 0, .int .i64 0, .int .i64 0] 23)) w.heap.size f := (FlAt.new w f).below ((Below.refl _ _).alloc (Nat.le_refl _) _)
  have hfz : FlAt ((w.alloc (.cells #[.string f.1, .string f.2.1, .int .i64 f.2.2.1, .int .i64 f.2.2.2.1, .int .i64 f.2.2.2.2.1, .int .i64 f.2.2.2.2.2] 23)).alloc (.cells #[.string ⟨#[]⟩, .string ⟨#[]⟩, .int .i64 0, .int .i64 0, .int .i64 0, .int .i64 0] 23)) (w.heap.size + 1) zeroF := by
    have := FlAt.new (w.alloc (.cells #[.string f.1, .string f.2.1, .int .i64 f.2.2.1, .int .i64 f.2.2.2.1, .int .i64 f.2.2.2.2.1, .int .i64 f.2.2.2.2.2] 23)) zeroF
    rw [show (w.alloc (.cells #[.string f.1, .string f.2.1, .int .i64 f.2.2.1, .int .i64 f.2.2.2.1, .int .i64 f.2.2.2.2.1, .int .i64 f.2.2.2.2.2] 23)).heap.size = w.heap.size + 1 by simp] at this
    exact this
  have hck := fcheck_any f _ a (h.below hal) h1 h2
  unfold chkF
  by_cases he : fileE f = 0
  · rw [if_pos he]
    rw [he] at hck
    clear he
    obtain ⟨p, q, n, lo, hi, seq⟩ := f
    unfold flV at hck ⊢
    dsimp only at hck hal hfl hfz ⊢
    simp only [errV] at hck ⊢
    go_enter Tryz.func65, Tryz.ntmps65
    go_wp2_with fail
    generalize (w.alloc (.cells #[.string p, .string q, .int .i64 n, .int .i64 lo, .int .i64 hi, .int .i64 seq] 23)).alloc (.cells #[.string ⟨#[]⟩, .string ⟨#[]⟩, .int .i64 0, .int .i64 0, .int .i64 0, .int .i64 0] 23) = WA at hal hfl hfz hck ⊢
    refine hck.mono ?_
    rintro e w1 ⟨rfl, hb1⟩
    clear hck
    have hB1 : Below w.heap.size w w1 := hal.trans (hb1.mono hal.size)
    obtain ⟨x0, x1, x2, x3, x4, x5, _⟩ := (hfl.below hb1).cells
    have hz1 := hfz.below hb1
    obtain ⟨y0, y1, y2, y3, y4, y5, yf⟩ := hz1.cells
    obtain ⟨z0, z1, z2, z3, z4, z5, zf⟩ := (hz1.set (p, q, n, lo, hi, seq)).cells
    have hB2 := flSet_below (f := (p, q, n, lo, hi, seq)) hB1 (Nat.le_succ w.heap.size)
    unfold flSet at z0 z1 z2 z3 z4 z5 zf hB2
    dsimp only at x0 x1 x2 x3 x4 x5 y0 y1 y2 y3 y4 y5 z0 z1 z2 z3 z4 z5 zf hB2
    simp only [zeroF] at y0 y1 y2 y3 y4 y5
    clear hfl hfz hz1
    go_wp2
    exact bodyPost_ret (v := .tuple #[.agg #[.string p, .string q, .int .i64 n, .int .i64 lo, .int .i64 hi, .int .i64 seq], .nilIface]) (by simp [results, Tryz.results65, go_sem, z0, z1, z2, z3, z4, z5]) rfl ⟨rfl, hB2⟩
  · rw [if_neg he]
    obtain ⟨j, hj⟩ : ∃ j, fileE f = j + 1 := ⟨fileE f - 1, by omega⟩
    rw [hj] at hck ⊢
    clear he hj
    obtain ⟨p, q, n, lo, hi, seq⟩ := f
    unfold flV zeroF at *
    dsimp only at hck hal hfl hfz ⊢
    simp only [errV] at hck ⊢
    go_enter Tryz.func65, Tryz.ntmps65
    go_wp2_with fail
    generalize (w.alloc (.cells #[.string p, .string q, .int .i64 n, .int .i64 lo, .int .i64 hi, .int .i64 seq] 23)).alloc (.cells #[.string ⟨#[]⟩, .string ⟨#[]⟩, .int .i64 0, .int .i64 0, .int .i64 0, .int .i64 0] 23) = WA at hal hfl hfz hck ⊢
    refine hck.mono ?_
    rintro e w1 ⟨rfl, hb1⟩
    clear hck
    have hB1 : Below w.heap.size w w1 := hal.trans (hb1.mono hal.size)
    have hz1 := hfz.below hb1
    obtain ⟨y0, y1, y2, y3, y4, y5, yf⟩ := hz1.cells
    dsimp only at y0 y1 y2 y3 y4 y5
    simp only [bytesOf] at y0 y1
    have s0 := setCell_self y0
    have s1 := setCell_self y1
    have s2 := setCell_self y2
    have s3 := setCell_self y3
    have s4 := setCell_self y4
    have s5 := setCell_self y5
    clear hfl hfz hz1
    go_wp2
    exact bodyPost_ret (v := .tuple #[.agg #[.string ⟨#[]⟩, .string ⟨#[]⟩, .int .i64 0, .int .i64 0, .int .i64 0, .int .i64 0], .iface 289 (.pointer (some (a j)))]) (by simp [results, Tryz.results65, go_sem, y0, y1, y2, y3, y4, y5]) rfl ⟨rfl, hB1⟩

theorem fl_len {f : Fl} (h : fileE f = 0) : (fileL f).length ≤ f.1.size + f.2.1.size + 60 := by
  obtain ⟨g, n, _, _, hb⟩ := file_good h
  obtain ⟨b1, b2, b3, b4⟩ := bnd_nums hb
  simp only [inNum, Bool.and_eq_true, decide_eq_true_eq] at b1 b2 b3 b4
  have l1 := itoa_len _ b1.1 b1.2
  have l2 := itoa_len _ b2.1 b2.2
  have l3 := itoa_len _ b3.1 b3.2
  have l4 := itoa_len _ b4.1 b4.2
  unfold fileL
  simp only [List.length_append, List.length_cons, size_list]
  omega

set_option maxRecDepth 100000 in
set_option maxHeartbeats 8000000 in
theorem ftext_any (f : Fl) (w : World) (a : Nat → Addr) (h : EnvK w a) (h1 : f.1.size ≤ 100000) (h2 : f.2.1.size ≤ 100000) :
    Calls Tryz.prog 13 #[flV f] w fun e w' => e = .returned (.string (fileB f)) ∧ Below w.heap.size w w' := by
  have hal : Below w.heap.size w (w.alloc (.cells #[.string f.1, .string f.2.1, .int .i64 f.2.2.1, .int .i64 f.2.2.2.1, .int .i64 f.2.2.2.2.1, .int .i64 f.2.2.2.2.2] 23)) := (Below.refl _ _).alloc (Nat.le_refl _) _
  have hfl := FlAt.new w f
  have hck := fcheck_any f _ a (h.below hal) h1 h2
  have hbd : fileE f = 0 → (inNum f.2.2.1 = true ∧ inNum f.2.2.2.1 = true ∧ inNum f.2.2.2.2.1 = true ∧ inNum f.2.2.2.2.2 = true) := fun he => let ⟨_, _, _, _, hb⟩ := file_good he; bnd_nums hb
  have hln := @fl_len f
  unfold fileB
  by_cases he : fileE f = 0
  · rw [if_pos he]
    rw [he] at hck
    have hb := hbd he
    have hl := hln he
    clear hbd hln he
    obtain ⟨p, q, n, lo, hi, seq⟩ := f
    dsimp only at h1 h2 hal hb hl
    unfold flV at hck ⊢
    dsimp only at hck ⊢
    simp only [errV] at hck
    simp only [inNum, Bool.and_eq_true, decide_eq_true_eq] at hb
    go_enter Tryz.func13, Tryz.ntmps13
    go_wp2_with fail
    generalize w.alloc (.cells #[.string p, .string q, .int .i64 n, .int .i64 lo, .int .i64 hi, .int .i64 seq] 23) = WA at hal hfl hck ⊢
    refine hck.mono ?_
    rintro e W0 ⟨rfl, hb1⟩
    clear hck
    have hB1 : Below w.heap.size w W0 := hal.trans (hb1.mono hal.size)
    have hEA := (h.below hB1).env
    obtain ⟨x0, x1, x2, x3, x4, x5, _⟩ := (hfl.below hb1).cells
    dsimp only at x0 x1 x2 x3 x4 x5
    clear hfl
    generalize w.heap.size = g at x0 x1 x2 x3 x4 x5
    have hb0 : Below W0.heap.size W0 W0 := Below.refl _ _
    go_wp2_with fail
    go_region_held3 (fun w' => w'.cell? ⟨g, 0, none⟩ = some (.string p) ∧ w'.cell? ⟨g, 1, none⟩ = some (.string q) ∧ w'.cell? ⟨g, 2, none⟩ = some (.int .i64 n) ∧ w'.cell? ⟨g, 3, none⟩ = some (.int .i64 lo) ∧ w'.cell? ⟨g, 4, none⟩ = some (.int .i64 hi) ∧ w'.cell? ⟨g, 5, none⟩ = some (.int .i64 seq) ∧ Below W0.heap.size W0 w')
      (first
        | (go_split_ands; exact ⟨below_keep hbX (by assumption), below_keep hbX (by assumption), below_keep hbX (by assumption), below_keep hbX (by assumption), below_keep hbX (by assumption), below_keep hbX (by assumption), Below.trans (by assumption) (hbX.mono (Below.size (by assumption)))⟩)
        | (go_split_ands; exact ⟨by go_keep, by go_keep, by go_keep, by go_keep, by go_keep, by go_keep, by assumption⟩)
        | (go_split_ands; exact ⟨by go_keep, by go_keep, by go_keep, by go_keep, by go_keep, by go_keep, Below.drew (by assumption)⟩)
        | (go_split_ands; exact ⟨by go_keep, by go_keep, by go_keep, by go_keep, by go_keep, by go_keep, Below.alloc (by assumption) (Below.size (by assumption)) _⟩))
      (first
        | (go_at_call 61; refine (itoa_s _ _ (hEA.below (by go_split_ands; assumption)).base (by omega) (by omega)).mono ?_; rintro e w2 ⟨rfl, hbX⟩))
    go_split_ands
    have hbE : Below W0.heap.size W0 (w2.alloc (.cells #[.string p, .string q, .string (bytesOf (itoa n)), .string (bytesOf (itoa lo)), .string (bytesOf (itoa hi)), .string (bytesOf (itoa seq))] 9)) := by assumption
    have hBE : Below w.heap.size w (w2.alloc (.cells #[.string p, .string q, .string (bytesOf (itoa n)), .string (bytesOf (itoa lo)), .string (bytesOf (itoa hi)), .string (bytesOf (itoa seq))] 9)) := hB1.trans (hbE.mono hB1.size)
    have hjl : (Lib.join ([p, q, bytesOf (itoa n), bytesOf (itoa lo), bytesOf (itoa hi), bytesOf (itoa seq)].map (·.data.toList)) (⟨#[32]⟩ : ByteArray).data.toList) = fileL (p, q, n, lo, hi, seq) := by
      simp [Lib.join, fileL, bytesOf]
    have hj := Tryz.strings_Join w2.heap.size 0 6 [p, q, bytesOf (itoa n), bytesOf (itoa lo), bytesOf (itoa hi), bytesOf (itoa seq)] ⟨#[32]⟩ (w2.alloc (.cells #[.string p, .string q, .string (bytesOf (itoa n)), .string (bytesOf (itoa lo)), .string (bytesOf (itoa hi)), .string (bytesOf (itoa seq))] 9)) (fun j x hx => by
        rw [Nat.zero_add, cell_of_row _ _ _ _ _ _ (heap_alloc_new _ _)]
        match j, hx with
        | 0, hx => simp at hx; subst hx; rfl
        | 1, hx => simp at hx; subst hx; rfl
        | 2, hx => simp at hx; subst hx; rfl
        | 3, hx => simp at hx; subst hx; rfl
        | 4, hx => simp at hx; subst hx; rfl
        | 5, hx => simp at hx; subst hx; rfl
        | j + 6, hx => simp at hx) (by simp) (by simp) (by simp) (by rw [hjl]; omega)
    rw [hjl] at hj
    clear hjl hl
    generalize w2.alloc (.cells #[.string p, .string q, .string (bytesOf (itoa n)), .string (bytesOf (itoa lo)), .string (bytesOf (itoa hi)), .string (bytesOf (itoa seq))] 9) = WE at hj hBE ⊢
    go_wp2_with fail
    refine hj.mono ?_
    rintro e w9 ⟨rfl, hb9⟩
    go_wp2
    go_ret
    exact ⟨rfl, hBE.trans (hb9.mono hBE.size)⟩
  · rw [if_neg he]
    obtain ⟨j, hj⟩ : ∃ j, fileE f = j + 1 := ⟨fileE f - 1, by omega⟩
    rw [hj] at hck
    clear hbd hln he hj
    obtain ⟨p, q, n, lo, hi, seq⟩ := f
    dsimp only at h1 h2 hal
    unfold flV at hck ⊢
    dsimp only at hck ⊢
    simp only [errV] at hck
    go_enter Tryz.func13, Tryz.ntmps13
    go_wp2_with fail
    generalize w.alloc (.cells #[.string p, .string q, .int .i64 n, .int .i64 lo, .int .i64 hi, .int .i64 seq] 23) = WA at hal hfl hck ⊢
    refine hck.mono ?_
    rintro e W0 ⟨rfl, hb1⟩
    clear hck
    have hB1 : Below w.heap.size w W0 := hal.trans (hb1.mono hal.size)
    go_wp2
    go_ret
    exact ⟨rfl, hB1⟩
end Go.Proofs.YtpkoefpdpoikkaaGreatDoor
namespace Go.Proofs.YtpkoefpdpoikkaaGreatDoor
open Go.RowKit Go.Extern.Stop Go.Stop Go.Extern Go.Sort Go.Shelf Go.Lib

theorem neqF (f : Fl) (w : World) : (binOp .neq 23 (flV f) (flV f)).run Tryz.prog w = .ok (.bool false) w := by
  have u3 := Tryz.underlying3
  have u9 := Tryz.underlying9
  have a3 := Tryz.isAgg3
  have z3 := Tryz.sizeOf3
  have a9 := Tryz.isAgg9
  have z9 := Tryz.sizeOf9
  have hS : Tryz.prog.underlying 23 = some (.struct (Tryz.prog.fieldsOf 23)) := by kernel_rfl
  have hp : Tryz.prog.stoodInHeld 23 = false := by kernel_rfl
  obtain ⟨p, q, n, lo, hi, seq⟩ := f
  unfold flV
  dsimp only
  rw [run_neq_struct, show (10000 : Nat) = 9999 + 1 from rfl, run_equalIn_agg w 9999 23 _ _ hS hp]
  simp only [Program.fieldsOf, Tryz.underlying23]
  go_simp

theorem guardF : GuardAt Tryz.prog 23 flV := GuardAt.agg _ (by kernel_rfl)

def longFB (f : Fl) : Bool := decide (30 < f.1.size) || decide (30 < f.2.1.size)

theorem longFile_any (f : Fl) (w : World) (h1 : f.1.size ≤ maxLen) (h2 : f.2.1.size ≤ maxLen) :
    Calls Tryz.prog 10 #[flV f] w fun e w' => e = .returned (.int .i64 (if longFB f then 1 else 0)) ∧ Below w.heap.size w w' := by
  have hal : Below w.heap.size w (w.alloc (.cells #[.string f.1, .string f.2.1, .int .i64 f.2.2.1, .int .i64 f.2.2.2.1, .int .i64 f.2.2.2.2.1, .int .i64 f.2.2.2.2.2] 23)) := (Below.refl _ _).alloc (Nat.le_refl _) _
  have hfl := FlAt.new w f
  unfold maxLen at h1 h2
  obtain ⟨p, q, n, lo, hi, seq⟩ := f
  unfold flV longFB
  dsimp only at h1 h2 hal hfl ⊢
  by_cases hp : 30 < p.size
  · have e : (decide (30 < p.size) || decide (30 < q.size)) = true := by simp [hp]
    rw [e, if_pos rfl]
    clear e
    go_enter Tryz.func10, Tryz.ntmps10
    go_wp2
    go_ret
    exact ⟨rfl, hal⟩
  · by_cases hq : 30 < q.size
    · have e : (decide (30 < p.size) || decide (30 < q.size)) = true := by simp [hq]
      rw [e, if_pos rfl]
      clear e
      go_enter Tryz.func10, Tryz.ntmps10
      go_wp2
      go_ret
      exact ⟨rfl, hal⟩
    · have e : (decide (30 < p.size) || decide (30 < q.size)) = false := by simp [hp, hq]
      rw [e, if_neg (by simp)]
      clear e
      go_enter Tryz.func10, Tryz.ntmps10
      go_wp2
      go_ret
      exact ⟨rfl, hal⟩
end Go.Proofs.YtpkoefpdpoikkaaGreatDoor
namespace Go.Proofs.YtpkoefpdpoikkaaGreatDoor
open Go Go.Lib

def pk (s : List UInt8) : Int := match pathO s with
  | some (g, n) => if g then 1073741824 + n else n
  | none => 0

theorem pk_some {s : List UInt8} {g : Bool} {n : Int} (h : pathO s = some (g, n)) : pk s = (if g then 1073741824 + n else n) ∧ 1 ≤ n ∧ n ≤ 1073741824 := by
  have hc := (path_some h).2.2
  simp only [cntB, Bool.and_eq_true, decide_eq_true_eq] at hc
  exact ⟨by unfold pk; rw [h], hc⟩

theorem pk_pos {s : List UInt8} (h : pathO s ≠ none) : 0 < pk s := by
  cases hp : pathO s with
  | none => exact absurd hp h
  | some p =>
    obtain ⟨g, n⟩ := p
    obtain ⟨e, h1, h2⟩ := pk_some hp
    rw [e]
    split <;> omega

theorem pk_inj {s t : List UInt8} (hs : pathO s ≠ none) (ht : pathO t ≠ none) (h : pk s = pk t) : s = t := by
  cases hp : pathO s with
  | none => exact absurd hp hs
  | some p =>
    cases hq : pathO t with
    | none => exact absurd hq ht
    | some q =>
      obtain ⟨g, n⟩ := p
      obtain ⟨k, m⟩ := q
      obtain ⟨e1, a1, a2⟩ := pk_some hp
      obtain ⟨e2, b1, b2⟩ := pk_some hq
      rw [e1, e2] at h
      have hg : g = k ∧ n = m := by
        cases g <;> cases k <;> simp only [if_true, Bool.false_eq_true, if_false] at h
        · exact ⟨rfl, h⟩
        · omega
        · omega
        · exact ⟨rfl, by omega⟩
      rw [(path_some hp).1, (path_some hq).1, hg.1, hg.2]

def fk (f : Fl) : Int := pk f.1.data.toList

theorem ok_path {f : Fl} (h : fileE f = 0) : pathO f.1.data.toList ≠ none := by
  obtain ⟨g, n, hp, _⟩ := file_good h
  rw [hp]; simp

theorem fk_pos {f : Fl} (h : fileE f = 0) : 0 < fk f := pk_pos (ok_path h)

theorem fk_path {f g : Fl} (hf : fileE f = 0) (hg : fileE g = 0) (h : fk f = fk g) : f.1 = g.1 := by
  have e := pk_inj (ok_path hf) (ok_path hg) h
  have : bytesOf f.1.data.toList = bytesOf g.1.data.toList := by rw [e]
  rwa [bytesOf_data, bytesOf_data] at this

def lstG : Int → List Fl → Nat → Nat × Option Nat
  | _, [], _ => (0, none)
  | prev, f :: r, i => if fileE f ≠ 0 then (fileE f, some i) else if fk f ≤ prev then (9, some i) else lstG (fk f) r (i + 1)

def listE (fs : List Fl) : Nat × Option Nat := if 60 < fs.length then (8, none) else lstG 0 fs 0

def Rises (prev : Int) (fs : List Fl) : Prop := (∀ f ∈ fs, fileE f = 0 ∧ prev < fk f) ∧ fs.Pairwise fun f g => fk f < fk g

theorem rises_cons {prev : Int} {f : Fl} {r : List Fl} : Rises prev (f :: r) ↔ fileE f = 0 ∧ prev < fk f ∧ Rises (fk f) r := by
  unfold Rises
  rw [List.pairwise_cons]
  constructor
  · rintro ⟨h1, h2, h3⟩
    have h0 := h1 f List.mem_cons_self
    exact ⟨h0.1, h0.2, fun g hg => ⟨(h1 g (List.mem_cons_of_mem _ hg)).1, h2 g hg⟩, h3⟩
  · rintro ⟨h1, h2, h3, h4⟩
    refine ⟨fun g hg => ?_, fun g hg => (h3 g hg).2, h4⟩
    rw [List.mem_cons] at hg
    rcases hg with rfl | hg
    · exact ⟨h1, h2⟩
    · have := h3 g hg
      exact ⟨this.1, by omega⟩

theorem lstG_ok : ∀ (fs : List Fl) (prev : Int) (i : Nat), (lstG prev fs i).1 = 0 ↔ Rises prev fs
  | [], prev, i => by simp [lstG, Rises]
  | f :: r, prev, i => by
    have ih := lstG_ok r (fk f) (i + 1)
    unfold lstG
    rw [rises_cons]
    split
    · rename_i h
      simp [h]
    · rename_i h
      have h0 : fileE f = 0 := by simpa using h
      split
      · rename_i h'
        simp [h0]; omega
      · rename_i h'
        rw [ih]
        simp [h0]; omega

theorem listE_ok {fs : List Fl} : (listE fs).1 = 0 ↔ fs.length ≤ 60 ∧ Rises 0 fs := by
  unfold listE
  split
  · rename_i h
    simp; omega
  · rename_i h
    rw [lstG_ok]
    simp; omega

def listL (fs : List Fl) : List UInt8 := fs.flatMap fun f => fileL f ++ [10]

def fileK : FK Fl := ⟨[], readF, fun x y => decide (fk x ≤ fk y), fk, fileL, fun f => fileE f = 0, zeroF⟩

theorem file_no_end {f : Fl} (h : fileE f = 0) : ∀ c ∈ fileL f, c ≠ 10 := by
  obtain ⟨g, n, hp, hq, _⟩ := file_good h
  intro c hc
  unfold fileL at hc
  have hpart : ∀ c ∈ f.2.1.data.toList, c ≠ 10 := by
    intro c hc
    unfold partB at hq
    cases g
    · simp only [Bool.false_eq_true, if_false, wordB, Bool.and_eq_true, List.all_eq_true] at hq
      intro e
      subst e
      have := hq.2 _ hc
      simp [nbI] at this
    · simp only [if_true, decide_eq_true_eq] at hq
      rw [hq] at hc
      simp at hc
      subst hc
      decide
  have hpath : ∀ c ∈ f.1.data.toList, c ≠ 10 := by
    intro c hc
    rw [(path_some hp).1, List.mem_append, List.mem_cons] at hc
    rcases hc with hc | rfl | hc
    · exact (show ∀ c ∈ kindL g, c ≠ 10 by cases g <;> decide) c hc
    · decide
    · exact itoa_no_end n c hc
  simp only [List.mem_append, List.mem_cons] at hc
  rcases hc with hc | rfl | hc | rfl | hc | rfl | hc | rfl | hc | rfl | hc
  · exact hpath c hc
  · decide
  · exact hpart c hc
  · decide
  · exact itoa_no_end _ c hc
  · decide
  · exact itoa_no_end _ c hc
  · decide
  · exact itoa_no_end _ c hc
  · decide
  · exact itoa_no_end _ c hc

theorem list_pieces : ∀ fs : List Fl, (∀ f ∈ fs, fileE f = 0) → pieces 10 (listL fs) = fs.map fileL ++ [[]]
  | [], _ => rfl
  | f :: r, h => by
    have e : listL (f :: r) = fileL f ++ 10 :: listL r := by simp [listL]
    rw [e, pieces_append 10 _ _ (file_no_end (h f List.mem_cons_self)), list_pieces r (fun g hg => h g (List.mem_cons_of_mem _ hg))]
    rfl

def readL (s : List UInt8) : List Fl × Nat × Option Nat :=
  if 60 < (if (pieces 10 s).getLastD [] = [] then (pieces 10 s).length - 1 else (pieces 10 s).length) then ([], 8, none) else
  if (rowsG fileK (pieces 10 s) 0 []).2.1 ≠ 0 then ([], (rowsG fileK (pieces 10 s) 0 []).2.1, some (rowsG fileK (pieces 10 s) 0 []).2.2) else ((rowsG fileK (pieces 10 s) 0 []).1, 0, none)

theorem rows_lines : ∀ (fs acc : List Fl) (at_ : Nat), (∀ f ∈ fs, fileE f = 0) → (acc ++ fs).Pairwise (fun f g => fk f < fk g) → rowsG fileK (fs.map fileL ++ [[]]) at_ acc = (acc ++ fs, 0, 0)
  | [], acc, at_, _, _ => by simp [rowsG]
  | f :: r, acc, at_, h, hp => by
    have hr : fileK.rd (fileL f) = (f, 0) := readF_text (h f List.mem_cons_self)
    have hne : r.map fileL ++ [[]] ≠ [] := by simp
    obtain ⟨l2, q, e⟩ := List.exists_cons_of_ne_nil hne
    rw [List.map_cons, List.cons_append, e, rowsG_cons, hr, if_neg (by simp)]
    have hno : ¬ (acc ≠ [] ∧ fileK.bad f (acc.getLastD fileK.d) = true) := by
      rintro ⟨h1, h2⟩
      have hm : acc.getLastD fileK.d ∈ acc := by
        rw [List.getLastD_eq_getLast?, List.getLast?_eq_some_getLast h1]
        exact List.getLast_mem h1
      have := (List.pairwise_append.1 hp).2.2 _ hm f List.mem_cons_self
      have h2' : fk f ≤ fk (acc.getLastD fileK.d) := of_decide_eq_true h2
      omega
    dsimp only
    rw [if_neg hno, ← e]
    have := rows_lines r (acc ++ [f]) (at_ + 1) (fun y hy => h y (List.mem_cons_of_mem _ hy)) (by simpa using hp)
    simpa using this

theorem readL_text {fs : List Fl} (h : (listE fs).1 = 0) : readL (listL fs) = (fs, 0, none) := by
  obtain ⟨hl, h1, h2⟩ := listE_ok.1 h
  have hok : ∀ f ∈ fs, fileE f = 0 := fun f hf => (h1 f hf).1
  have hr := rows_lines fs [] 0 hok (by simpa using h2)
  unfold readL
  rw [list_pieces fs hok, hr]
  have e1 : (fs.map fileL ++ [[]]).getLastD [] = [] := by simp [List.getLastD_eq_getLast?]
  rw [e1, if_pos rfl, if_neg (by simp; omega), if_neg (by simp)]
  rfl

def placeL (fs : List Fl) (f : Fl) : List Fl := fs.takeWhile (fun g => decide (fk g < fk f)) ++ f :: fs.dropWhile (fun g => decide (fk g < fk f))

theorem place_mid {xs ys : List Fl} {f : Fl} (h1 : ∀ g ∈ xs, fk g < fk f) (h2 : ∀ g ∈ ys, fk f < fk g) : placeL (xs ++ ys) f = xs ++ f :: ys := by
  have ht : (xs ++ ys).takeWhile (fun g => decide (fk g < fk f)) = xs := by
    rw [List.takeWhile_append_of_pos (fun g hg => by simpa using h1 g hg)]
    cases ys with
    | nil => simp
    | cons y r =>
      have := h2 y List.mem_cons_self
      rw [List.takeWhile_cons_of_neg (by simp; omega), List.append_nil]
  have hd : (xs ++ ys).dropWhile (fun g => decide (fk g < fk f)) = ys := by
    rw [List.dropWhile_append_of_pos (fun g hg => by simpa using h1 g hg)]
    cases ys with
    | nil => simp
    | cons y r =>
      have := h2 y List.mem_cons_self
      rw [List.dropWhile_cons_of_neg (by simp; omega)]
  unfold placeL
  rw [ht, hd]

theorem rises_part {fs : List Fl} {prev : Int} (h : Rises prev fs) {z : Int} (hz : ∀ g ∈ fs, fk g ≠ z) : ∃ xs ys, fs = xs ++ ys ∧ (∀ g ∈ xs, fk g < z) ∧ ∀ g ∈ ys, z < fk g := by
  induction fs generalizing prev with
  | nil => exact ⟨[], [], rfl, by simp, by simp⟩
  | cons f r ih =>
    obtain ⟨h0, h1, h2⟩ := rises_cons.1 h
    by_cases hlt : fk f < z
    · obtain ⟨xs, ys, e, hx, hy⟩ := ih h2 (fun g hg => hz g (List.mem_cons_of_mem _ hg))
      refine ⟨f :: xs, ys, by rw [e]; rfl, fun g hg => ?_, hy⟩
      rw [List.mem_cons] at hg
      rcases hg with rfl | hg
      · exact hlt
      · exact hx g hg
    · have hne := hz f List.mem_cons_self
      refine ⟨[], f :: r, rfl, by simp, fun g hg => ?_⟩
      rw [List.mem_cons] at hg
      rcases hg with rfl | hg
      · omega
      · have := (h2.1 g hg).2
        omega

theorem place_rises {fs : List Fl} {f : Fl} (h : Rises 0 fs) (hf : fileE f = 0) (hz : ∀ g ∈ fs, fk g ≠ fk f) : Rises 0 (placeL fs f) ∧ (placeL fs f).length = fs.length + 1 ∧ (placeL fs f).filter (fun g => decide (g.1 ≠ f.1)) = fs := by
  obtain ⟨xs, ys, rfl, h1, h2⟩ := rises_part h hz
  rw [place_mid h1 h2]
  have hk : ∀ g ∈ xs ++ ys, g.1 ≠ f.1 := fun g hg e => hz g hg (by unfold fk; rw [e])
  refine ⟨⟨fun g hg => ?_, ?_⟩, by simp; omega, ?_⟩
  · simp only [List.mem_append, List.mem_cons] at hg
    rcases hg with hg | rfl | hg
    · exact h.1 g (List.mem_append_left _ hg)
    · exact ⟨hf, fk_pos hf⟩
    · exact h.1 g (List.mem_append_right _ hg)
  · have hp := List.pairwise_append.1 h.2
    rw [List.pairwise_append, List.pairwise_cons]
    refine ⟨hp.1, ⟨fun g hg => h2 g hg, hp.2.1⟩, fun g hg k hk' => ?_⟩
    rw [List.mem_cons] at hk'
    rcases hk' with rfl | hk'
    · exact h1 g hg
    · exact hp.2.2 g hg k hk'
  · rw [List.filter_append, List.filter_cons_of_neg (by simp), ← List.filter_append]
    exact List.filter_eq_self.2 fun g hg => by simpa using hk g hg

theorem rises_path {fs : List Fl} {prev : Int} (h : Rises prev fs) {i j : Nat} (hi : i < fs.length) (hj : j < fs.length) (e : fs[i].1 = fs[j].1) : i = j := by
  have key : ∀ a b (ha : a < fs.length) (hb : b < fs.length), a < b → fs[a].1 ≠ fs[b].1 := fun a b ha hb hab e => by
    have := List.pairwise_iff_getElem.1 h.2 a b ha hb hab
    unfold fk at this
    rw [e] at this
    omega
  rcases Nat.lt_trichotomy i j with h' | h' | h'
  · exact absurd e (key i j hi hj h')
  · exact h'
  · exact absurd e.symm (key j i hj hi h')

theorem place_back {fs : List Fl} (h : Rises 0 fs) {i : Nat} (hi : i < fs.length) : fs.filter (fun g => decide (g.1 ≠ fs[i].1)) = fs.eraseIdx i ∧ placeL (fs.eraseIdx i) fs[i] = fs := by
  have hsplit : fs = fs.take i ++ fs[i] :: fs.drop (i + 1) := by rw [List.getElem_cons_drop, List.take_append_drop]
  have hlow : ∀ g ∈ fs.take i, fk g < fk fs[i] := fun g hg => by
    obtain ⟨a, ha, rfl⟩ := List.mem_iff_getElem.1 hg
    rw [List.length_take] at ha
    rw [List.getElem_take]
    exact List.pairwise_iff_getElem.1 h.2 a i (by omega) hi (by omega)
  have hhigh : ∀ g ∈ fs.drop (i + 1), fk fs[i] < fk g := fun g hg => by
    obtain ⟨a, ha, rfl⟩ := List.mem_iff_getElem.1 hg
    rw [List.length_drop] at ha
    rw [List.getElem_drop]
    exact List.pairwise_iff_getElem.1 h.2 i (i + 1 + a) hi (by omega) (by omega)
  have he : fs.eraseIdx i = fs.take i ++ fs.drop (i + 1) := List.eraseIdx_eq_take_drop_succ fs i
  have hnl : ∀ g ∈ fs.take i, g.1 ≠ fs[i].1 := fun g hg e => by
    have := hlow g hg
    unfold fk at this
    rw [e] at this
    omega
  have hnh : ∀ g ∈ fs.drop (i + 1), g.1 ≠ fs[i].1 := fun g hg e => by
    have := hhigh g hg
    unfold fk at this
    rw [e] at this
    omega
  refine ⟨?_, by rw [he, place_mid hlow hhigh]; exact hsplit.symm⟩
  rw [he]
  generalize hf : fs[i] = f at *
  conv => lhs; rw [hsplit]
  rw [List.filter_append, List.filter_cons_of_neg (by simp)]
  rw [List.filter_eq_self.2 (fun g hg => by simpa using hnl g hg), List.filter_eq_self.2 (fun g hg => by simpa using hnh g hg)]
end Go.Proofs.YtpkoefpdpoikkaaGreatDoor
