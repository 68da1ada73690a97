/-
  The contracts of errors.Is, errors.As and plain.Code at the errors of package api, bare or within an api.Fault.
-/
import Derived.Test.YtpkoefpdpoikkaaGreatDoorFileChk
import Derived.Laws.Bits128
import Derived.LaidEql
import Derived.Stop.Asserts
import Derived.RowKitTokens
namespace Go.Proofs.YtpkoefpdpoikkaaGreatDoor
open Go.RowKit Go.Extern.Stop Go.Stop Go.Extern Go.Sort Go.Shelf Go.Lib

def encF (f : Fl) : List Value := [.string f.1, .string f.2.1, .int .i64 f.2.2.1, .int .i64 f.2.2.2.1, .int .i64 f.2.2.2.2.1, .int .i64 f.2.2.2.2.2]

def FlCells (w : World) (b o : Nat) (fs : List Fl) : Prop :=
  ∀ j (h : j < fs.length), w.cell? ⟨b, o + j * 6, none⟩ = some (.string fs[j].1) ∧ w.cell? ⟨b, o + j * 6 + 1, none⟩ = some (.string fs[j].2.1) ∧ w.cell? ⟨b, o + j * 6 + 2, none⟩ = some (.int .i64 fs[j].2.2.1) ∧ w.cell? ⟨b, o + j * 6 + 3, none⟩ = some (.int .i64 fs[j].2.2.2.1) ∧ w.cell? ⟨b, o + j * 6 + 4, none⟩ = some (.int .i64 fs[j].2.2.2.2.1) ∧ w.cell? ⟨b, o + j * 6 + 5, none⟩ = some (.int .i64 fs[j].2.2.2.2.2)

def FlsAt (w : World) (v : Value) (fs : List Fl) : Prop :=
  (∃ p c, v = .slice p 0 c ∧ (p = none → c = 0) ∧ fs = []) ∨ ∃ b o cap, v = .slice (some ⟨b, o, none⟩) fs.length cap ∧ fs.length ≤ cap ∧ FlCells w b o fs

theorem FlCells.below {w w' : World} {b o : Nat} {fs : List Fl} (h : FlCells w b o fs) (hb : Below w.heap.size w w') : FlCells w' b o fs :=
  fun j hj => ⟨below_keep hb (h j hj).1, below_keep hb (h j hj).2.1, below_keep hb (h j hj).2.2.1, below_keep hb (h j hj).2.2.2.1, below_keep hb (h j hj).2.2.2.2.1, below_keep hb (h j hj).2.2.2.2.2⟩

theorem FlsAt.below {w w' : World} {v : Value} {fs : List Fl} (h : FlsAt w v fs) (hb : Below w.heap.size w w') : FlsAt w' v fs := by
  rcases h with h | ⟨b, o, cap, hv, hl, hc⟩
  · exact Or.inl h
  · exact Or.inr ⟨b, o, cap, hv, hl, hc.below hb⟩

theorem FlsAt.form {w : World} {v : Value} {fs : List Fl} (h : FlsAt w v fs) : ∃ p c, v = .slice p fs.length c := by
  rcases h with ⟨p, c, rfl, _, rfl⟩ | ⟨b, o, cap, rfl, _⟩
  · exact ⟨_, _, rfl⟩
  · exact ⟨_, _, rfl⟩

theorem FlsAt.cells {w : World} {q : Option Addr} {n c : Nat} {fs : List Fl} (h : FlsAt w (.slice q n c) fs) (hne : fs ≠ []) : ∃ b o, q = some ⟨b, o, none⟩ ∧ FlCells w b o fs := by
  rcases h with ⟨_, _, _, _, e⟩ | ⟨b, o, cap, e, _, hc⟩
  · exact absurd e hne
  · simp only [Value.slice.injEq] at e
    exact ⟨b, o, e.1, hc⟩

theorem FlsAt.room {w : World} {q : Option Addr} {n c : Nat} {fs : List Fl} (h : FlsAt w (.slice q n c) fs) : n = fs.length ∧ (fs ≠ [] → n ≤ c) := by
  rcases h with ⟨p, c', e, _, rfl⟩ | ⟨b, o, cap, e, hl, hc⟩
  · simp only [Value.slice.injEq] at e
    exact ⟨e.2.1, fun h => absurd rfl h⟩
  · simp only [Value.slice.injEq] at e
    obtain ⟨_, rfl, rfl⟩ := e
    exact ⟨rfl, fun _ => hl⟩

def flatF (fs : List Fl) : List Value := fs.flatMap encF

theorem encF_len (f : Fl) : (encF f).length = 6 := rfl
theorem encF_one (f : Fl) : ∀ u ∈ encF f, u.oneCell' = true := by
  intro u hu
  simp only [encF, List.mem_cons, List.not_mem_nil, or_false] at hu
  rcases hu with rfl | rfl | rfl | rfl | rfl | rfl <;> rfl

theorem flatF_len : ∀ fs : List Fl, (flatF fs).length = fs.length * 6
  | [] => rfl
  | f :: fs => by
    have := flatF_len fs
    simp only [flatF, List.flatMap_cons, List.length_append, List.length_cons] at *
    rw [this, encF_len]; omega

theorem flatF_one (fs : List Fl) : ∀ u ∈ flatF fs, u.oneCell' = true := by
  intro u hu
  simp only [flatF, List.mem_flatMap] at hu
  obtain ⟨f, _, hf⟩ := hu
  exact encF_one f u hf

theorem flatF_append (xs ys : List Fl) : flatF (xs ++ ys) = flatF xs ++ flatF ys := by simp [flatF]

theorem flatF_get : ∀ (fs : List Fl) (j c : Nat) (h : j < fs.length), c < 6 → (flatF fs)[j * 6 + c]? = (encF fs[j])[c]?
  | [], j, _, h, _ => by simp at h
  | f :: fs, 0, c, _, hc => by
    simp only [flatF, List.flatMap_cons, Nat.zero_mul, Nat.zero_add, List.getElem_cons_zero]
    rw [List.getElem?_append_left (by rw [encF_len]; exact hc)]
  | f :: fs, j + 1, c, h, hc => by
    have hj : j < fs.length := by simp at h; omega
    have := flatF_get fs j c hj hc
    simp only [flatF, List.flatMap_cons, List.getElem_cons_succ] at *
    rw [List.getElem?_append_right (by rw [encF_len]; omega), encF_len, show (j + 1) * 6 + c - 6 = j * 6 + c by omega]
    exact this

theorem cellsF_flat {w : World} {b o : Nat} {fs : List Fl} (h : FlCells w b o fs) : ∀ t u, (flatF fs)[t]? = some u → w.cell? ⟨b, o + t, none⟩ = some u := by
  intro t u hu
  have ht : t < (flatF fs).length := by
    rcases Nat.lt_or_ge t (flatF fs).length with h' | h'
    · exact h'
    · rw [List.getElem?_eq_none h'] at hu; cases hu
  rw [flatF_len] at ht
  have hj : t / 6 < fs.length := by omega
  have e : t = t / 6 * 6 + t % 6 := by omega
  rw [e, flatF_get fs (t / 6) (t % 6) hj (by omega)] at hu
  obtain ⟨h0, h1, h2, h3, h4, h5⟩ := h (t / 6) hj
  have hm : t % 6 = 0 ∨ t % 6 = 1 ∨ t % 6 = 2 ∨ t % 6 = 3 ∨ t % 6 = 4 ∨ t % 6 = 5 := by omega
  rcases hm with hm | hm | hm | hm | hm | hm <;> rw [hm] at hu <;> simp only [encF, List.getElem?_cons_succ, List.getElem?_cons_zero, Option.some.injEq] at hu
  · rw [← hu, ← h0]; congr 2; omega
  · rw [← hu, ← h1]; congr 2; omega
  · rw [← hu, ← h2]; congr 2; omega
  · rw [← hu, ← h3]; congr 2; omega
  · rw [← hu, ← h4]; congr 2; omega
  · rw [← hu, ← h5]; congr 2; omega

theorem flCells_of {w : World} {b o : Nat} {fs : List Fl} (h : ∀ t u, (flatF fs)[t]? = some u → w.cell? ⟨b, o + t, none⟩ = some u) : FlCells w b o fs := fun j hj => by
  have g : ∀ c (hc : c < 6), w.cell? ⟨b, o + (j * 6 + c), none⟩ = (encF fs[j])[c]? := fun c hc => by
    have e := flatF_get fs j c hj hc
    have hl : c < (encF fs[j]).length := by rw [encF_len]; exact hc
    rw [List.getElem?_eq_getElem hl] at e ⊢
    exact h _ _ e
  refine ⟨?_, ?_, ?_, ?_, ?_, ?_⟩
  · simpa [encF] using g 0 (by omega)
  · simpa [encF, Nat.add_assoc] using g 1 (by omega)
  · simpa [encF, Nat.add_assoc] using g 2 (by omega)
  · simpa [encF, Nat.add_assoc] using g 3 (by omega)
  · simpa [encF, Nat.add_assoc] using g 4 (by omega)
  · simpa [encF, Nat.add_assoc] using g 5 (by omega)

theorem flsAt_of_own {w : World} {base : Nat} {v : Value} {n : Nat} {fs : List Fl} (h : w.ownsRow base 23 6 v n (flatF fs)) : FlsAt w v fs ∧ n = fs.length := by
  obtain ⟨hl, h⟩ := h
  have hn : n = fs.length := by rw [flatF_len] at hl; omega
  refine ⟨?_, hn⟩
  subst hn
  rcases h with ⟨hv, hn⟩ | ⟨g, cap, cur, rfl, _, hg, hcp, _, _, ht⟩
  · exact Or.inl ⟨none, 0, by rw [hv], fun _ => rfl, List.length_eq_zero_iff.1 hn⟩
  · refine Or.inr ⟨g, 0, cap, rfl, hcp, flCells_of fun t u hu => ?_⟩
    have ht' : t < fs.length * 6 := by
      rw [← flatF_len]
      rcases Nat.lt_or_ge t (flatF fs).length with h' | h'
      · exact h'
      · rw [List.getElem?_eq_none h'] at hu; cases hu
    rw [← ht, List.getElem?_take, if_pos ht'] at hu
    simp only [World.cell?, hg, Nat.zero_add]
    simpa using hu

theorem Tryz.fileInfo3 : (Tryz.prog.info? 23).map (fun i => (i.zero, i.size, i.bytes)) = some (some (.agg #[.string ⟨#[]⟩, .string ⟨#[]⟩, .int .i64 0, .int .i64 0, .int .i64 0, .int .i64 0]), 6, 64) := by kernel_rfl
theorem Tryz.fileInfo : ∃ i0 : TypeInfo, Tryz.prog.info? 23 = some i0 ∧ i0.zero = some (.agg #[.string ⟨#[]⟩, .string ⟨#[]⟩, .int .i64 0, .int .i64 0, .int .i64 0, .int .i64 0]) ∧ i0.size = 6 ∧ i0.bytes = 64 := by
  obtain ⟨i, hi, h⟩ := Option.map_eq_some_iff.1 Tryz.fileInfo3
  simp only [Prod.mk.injEq] at h
  exact ⟨i, hi, h.1, h.2.1, h.2.2⟩
end Go.Proofs.YtpkoefpdpoikkaaGreatDoor
namespace Go.Proofs.YtpkoefpdpoikkaaGreatDoor
open Go.RowKit Go.Extern.Stop Go.Stop Go.Extern Go.Sort Go.Shelf Go.Lib

def flSet (W : World) (b : Nat) (f : Fl) : World := (((((W.setCell ⟨b, 0, none⟩ (.string f.1)).setCell ⟨b, 1, none⟩ (.string f.2.1)).setCell ⟨b, 2, none⟩ (.int .i64 f.2.2.1)).setCell ⟨b, 3, none⟩ (.int .i64 f.2.2.2.1)).setCell ⟨b, 4, none⟩ (.int .i64 f.2.2.2.2.1)).setCell ⟨b, 5, none⟩ (.int .i64 f.2.2.2.2.2)

theorem FlAt.set {W : World} {b : Nat} {f : Fl} (h : FlAt W b f) (f' : Fl) : FlAt (flSet W b f') b f' := by
  unfold FlAt flSet at *
  rw [heap_setCell_same _ _ _ _ _ _ (heap_setCell_same _ _ _ _ _ _ (heap_setCell_same _ _ _ _ _ _ (heap_setCell_same _ _ _ _ _ _ (heap_setCell_same _ _ _ _ _ _ (heap_setCell_same _ _ _ _ _ _ h)))))]
  rfl
theorem flSet_below {W W0 : World} {B b : Nat} {f : Fl} (h : Below B W0 W) (hb : B ≤ b) : Below B W0 (flSet W b f) := (((((h.setCell hb _).setCell hb _).setCell hb _).setCell hb _).setCell hb _).setCell hb _
set_option maxRecDepth 100000 in
set_option maxHeartbeats 4000000 in
theorem checked_any (f : Fl) (w : World) (a : Nat → Addr) (h : EnvK w a) (h1 : f.1.size ≤ 100000) (h2 : f.2.1.size ≤ 100000) :
    Calls Tryz.prog 65 #[flV f] w fun e w' => e = .returned (.tuple #[flV (chkF f).1, errV a (chkF f).2]) ∧ Below w.heap.size w w' := by
  have hal : Below w.heap.size w ((w.alloc (.cells #[.string f.1, .string f.2.1, .int .i64 f.2.2.1, .int .i64 f.2.2.2.1, .int .i64 f.2.2.2.2.1, .int .i64 f.2.2.2.2.2] 23)).alloc (.cells #[.string ⟨#[]⟩, .string ⟨#[]⟩, .int .i64 0, .int .i64 0, .int .i64 0, .int .i64 0] 23)) := ((Below.refl _ _).alloc (Nat.le_refl _) _).alloc (by simp) _
  have hfl : FlAt ((w.alloc (.cells #[.string f.1, .string f.2.1, .int .i64 f.2.2.1, .int .i64 f.2.2.2.1, .int .i64 f.2.2.2.2.1, .int .i64 f.2.2.2.2.2] 23)).alloc (.cells #[.string ⟨#[]⟩, .string ⟨#[]⟩, .int .i64 0, .int .i64 0, .int .i64 0, .int .i64 0] 23)) w.heap.size f := (FlAt.new w f).below ((Below.refl _ _).alloc (Nat.le_refl _) _)
  have hfz : FlAt ((w.alloc (.cells #[.string f.1, .string f.2.1, .int .i64 f.2.2.1, .int .i64 f.2.2.2.1, .int .i64 f.2.2.2.2.1, .int .i64 f.2.2.2.2.2] 23)).alloc (.cells #[.string ⟨#[]⟩, .string ⟨#[]⟩, .int .i64 0, .int .i64 0, .int .i64 0, .int .i64 0] 23)) (w.heap.size + 1) zeroF := by
    have := FlAt.new (w.alloc (.cells #[.string f.1, .string f.2.1, .int .i64 f.2.2.1, .int .i64 f.2.2.2.1, .int .i64 f.2.2.2.2.1, .int .i64 f.2.2.2.2.2] 23)) zeroF
    rw [show (w.alloc (.cells #[.string f.1, .string f.2.1, .int .i64 f.2.2.1, .int .i64 f.2.2.2.1, .int .i64 f.2.2.2.2.1, .int .i64 f.2.2.2.2.2] 23)).heap.size = w.heap.size + 1 by simp] at this
    exact this
  have hck := fcheck_any f _ a (h.below hal) h1 h2
  unfold chkF
  by_cases he : fileE f = 0
  · rw [if_pos he]
    rw [he] at hck
    clear he
    obtain ⟨p, q, n, lo, hi, seq⟩ := f
    unfold flV at hck ⊢
    dsimp only at hck hal hfl hfz ⊢
    simp only [errV] at hck ⊢
    go_enter Tryz.func65, Tryz.ntmps65
    go_wp2_with fail
    generalize (w.alloc (.cells #[.string p, .string q, .int .i64 n, .int .i64 lo, .int .i64 hi, .int .i64 seq] 23)).alloc (.cells #[.string ⟨#[]⟩, .string ⟨#[]⟩, .int .i64 0, .int .i64 0, .int .i64 0, .int .i64 0] 23) = WA at hal hfl hfz hck ⊢
    refine hck.mono ?_
    rintro e w1 ⟨rfl, hb1⟩
    clear hck
    have hB1 : Below w.heap.size w w1 := hal.trans (hb1.mono hal.size)
    obtain ⟨x0, x1, x2, x3, x4, x5, _⟩ := (hfl.below hb1).cells
    have hz1 := hfz.below hb1
    obtain ⟨y0, y1, y2, y3, y4, y5, yf⟩ := hz1.cells
    obtain ⟨z0, z1, z2, z3, z4, z5, zf⟩ := (hz1.set (p, q, n, lo, hi, seq)).cells
    have hB2 := flSet_below (f := (p, q, n, lo, hi, seq)) hB1 (Nat.le_succ w.heap.size)
    unfold flSet at z0 z1 z2 z3 z4 z5 zf hB2
    dsimp only at x0 x1 x2 x3 x4 x5 y0 y1 y2 y3 y4 y5 z0 z1 z2 z3 z4 z5 zf hB2
    simp only [zeroF] at y0 y1 y2 y3 y4 y5
    clear hfl hfz hz1
    go_wp2
    exact bodyPost_ret (v := .tuple #[.agg #[.string p, .string q, .int .i64 n, .int .i64 lo, .int .i64 hi, .int .i64 seq], .nilIface]) (by simp [results, Tryz.results65, go_sem, z0, z1, z2, z3, z4, z5]) rfl ⟨rfl, hB2⟩
  · rw [if_neg he]
    obtain ⟨j, hj⟩ : ∃ j, fileE f = j + 1 := ⟨fileE f - 1, by omega⟩
    rw [hj] at hck ⊢
    clear he hj
    obtain ⟨p, q, n, lo, hi, seq⟩ := f
    unfold flV zeroF at *
    dsimp only at hck hal hfl hfz ⊢
    simp only [errV] at hck ⊢
    go_enter Tryz.func65, Tryz.ntmps65
    go_wp2_with fail
    generalize (w.alloc (.cells #[.string p, .string q, .int .i64 n, .int .i64 lo, .int .i64 hi, .int .i64 seq] 23)).alloc (.cells #[.string ⟨#[]⟩, .string ⟨#[]⟩, .int .i64 0, .int .i64 0, .int .i64 0, .int .i64 0] 23) = WA at hal hfl hfz hck ⊢
    refine hck.mono ?_
    rintro e w1 ⟨rfl, hb1⟩
    clear hck
    have hB1 : Below w.heap.size w w1 := hal.trans (hb1.mono hal.size)
    have hz1 := hfz.below hb1
    obtain ⟨y0, y1, y2, y3, y4, y5, yf⟩ := hz1.cells
    dsimp only at y0 y1 y2 y3 y4 y5
    simp only [bytesOf] at y0 y1
    have s0 := setCell_self y0
    have s1 := setCell_self y1
    have s2 := setCell_self y2
    have s3 := setCell_self y3
    have s4 := setCell_self y4
    have s5 := setCell_self y5
    clear hfl hfz hz1
    go_wp2
    exact bodyPost_ret (v := .tuple #[.agg #[.string ⟨#[]⟩, .string ⟨#[]⟩, .int .i64 0, .int .i64 0, .int .i64 0, .int .i64 0], .iface 289 (.pointer (some (a j)))]) (by simp [results, Tryz.results65, go_sem, y0, y1, y2, y3, y4, y5]) rfl ⟨rfl, hB1⟩

theorem fl_len {f : Fl} (h : fileE f = 0) : (fileL f).length ≤ f.1.size + f.2.1.size + 60 := by
  obtain ⟨g, n, _, _, hb⟩ := file_good h
  obtain ⟨b1, b2, b3, b4⟩ := bnd_nums hb
  simp only [inNum, Bool.and_eq_true, decide_eq_true_eq] at b1 b2 b3 b4
  have l1 := itoa_len _ b1.1 b1.2
  have l2 := itoa_len _ b2.1 b2.2
  have l3 := itoa_len _ b3.1 b3.2
  have l4 := itoa_len _ b4.1 b4.2
  unfold fileL
  simp only [List.length_append, List.length_cons, size_list]
  omega

set_option maxRecDepth 100000 in
set_option maxHeartbeats 8000000 in
theorem ftext_any (f : Fl) (w : World) (a : Nat → Addr) (h : EnvK w a) (h1 : f.1.size ≤ 100000) (h2 : f.2.1.size ≤ 100000) :
    Calls Tryz.prog 13 #[flV f] w fun e w' => e = .returned (.string (fileB f)) ∧ Below w.heap.size w w' := by
  have hal : Below w.heap.size w (w.alloc (.cells #[.string f.1, .string f.2.1, .int .i64 f.2.2.1, .int .i64 f.2.2.2.1, .int .i64 f.2.2.2.2.1, .int .i64 f.2.2.2.2.2] 23)) := (Below.refl _ _).alloc (Nat.le_refl _) _
  have hfl := FlAt.new w f
  have hck := fcheck_any f _ a (h.below hal) h1 h2
  have hbd : fileE f = 0 → (inNum f.2.2.1 = true ∧ inNum f.2.2.2.1 = true ∧ inNum f.2.2.2.2.1 = true ∧ inNum f.2.2.2.2.2 = true) := fun he => let ⟨_, _, _, _, hb⟩ := file_good he; bnd_nums hb
  have hln := @fl_len f
  unfold fileB
  by_cases he : fileE f = 0
  · rw [if_pos he]
    rw [he] at hck
    have hb := hbd he
    have hl := hln he
    clear hbd hln he
    obtain ⟨p, q, n, lo, hi, seq⟩ := f
    dsimp only at h1 h2 hal hb hl
    unfold flV at hck ⊢
    dsimp only at hck ⊢
    simp only [errV] at hck
    simp only [inNum, Bool.and_eq_true, decide_eq_true_eq] at hb
    go_enter Tryz.func13, Tryz.ntmps13
    go_wp2_with fail
    generalize w.alloc (.cells #[.string p, .string q, .int .i64 n, .int .i64 lo, .int .i64 hi, .int .i64 seq] 23) = WA at hal hfl hck ⊢
    refine hck.mono ?_
    rintro e W0 ⟨rfl, hb1⟩
    clear hck
    have hB1 : Below w.heap.size w W0 := hal.trans (hb1.mono hal.size)
    have hEA := (h.below hB1).env
    obtain ⟨x0, x1, x2, x3, x4, x5, _⟩ := (hfl.below hb1).cells
    dsimp only at x0 x1 x2 x3 x4 x5
    clear hfl
    generalize w.heap.size = g at x0 x1 x2 x3 x4 x5
    have hb0 : Below W0.heap.size W0 W0 := Below.refl _ _
    go_wp2_with fail
    go_region_held3 (fun w' => w'.cell? ⟨g, 0, none⟩ = some (.string p) ∧ w'.cell? ⟨g, 1, none⟩ = some (.string q) ∧ w'.cell? ⟨g, 2, none⟩ = some (.int .i64 n) ∧ w'.cell? ⟨g, 3, none⟩ = some (.int .i64 lo) ∧ w'.cell? ⟨g, 4, none⟩ = some (.int .i64 hi) ∧ w'.cell? ⟨g, 5, none⟩ = some (.int .i64 seq) ∧ Below W0.heap.size W0 w')
      (first
        | (go_split_ands; exact ⟨below_keep hbX (by assumption), below_keep hbX (by assumption), below_keep hbX (by assumption), below_keep hbX (by assumption), below_keep hbX (by assumption), below_keep hbX (by assumption), Below.trans (by assumption) (hbX.mono (Below.size (by assumption)))⟩)
        | (go_split_ands; exact ⟨by go_keep, by go_keep, by go_keep, by go_keep, by go_keep, by go_keep, by assumption⟩)
        | (go_split_ands; exact ⟨by go_keep, by go_keep, by go_keep, by go_keep, by go_keep, by go_keep, Below.drew (by assumption)⟩)
        | (go_split_ands; exact ⟨by go_keep, by go_keep, by go_keep, by go_keep, by go_keep, by go_keep, Below.alloc (by assumption) (Below.size (by assumption)) _⟩))
      (first
        | (go_at_call 61; refine (itoa_s _ _ (hEA.below (by go_split_ands; assumption)).base (by omega) (by omega)).mono ?_; rintro e w2 ⟨rfl, hbX⟩))
    go_split_ands
    have hbE : Below W0.heap.size W0 (w2.alloc (.cells #[.string p, .string q, .string (bytesOf (itoa n)), .string (bytesOf (itoa lo)), .string (bytesOf (itoa hi)), .string (bytesOf (itoa seq))] 9)) := by assumption
    have hBE : Below w.heap.size w (w2.alloc (.cells #[.string p, .string q, .string (bytesOf (itoa n)), .string (bytesOf (itoa lo)), .string (bytesOf (itoa hi)), .string (bytesOf (itoa seq))] 9)) := hB1.trans (hbE.mono hB1.size)
    have hjl : (Lib.join ([p, q, bytesOf (itoa n), bytesOf (itoa lo), bytesOf (itoa hi), bytesOf (itoa seq)].map (·.data.toList)) (⟨#[32]⟩ : ByteArray).data.toList) = fileL (p, q, n, lo, hi, seq) := by
      simp [Lib.join, fileL, bytesOf]
    have hj := Tryz.strings_Join w2.heap.size 0 6 [p, q, bytesOf (itoa n), bytesOf (itoa lo), bytesOf (itoa hi), bytesOf (itoa seq)] ⟨#[32]⟩ (w2.alloc (.cells #[.string p, .string q, .string (bytesOf (itoa n)), .string (bytesOf (itoa lo)), .string (bytesOf (itoa hi)), .string (bytesOf (itoa seq))] 9)) (fun j x hx => by
        rw [Nat.zero_add, cell_of_row _ _ _ _ _ _ (heap_alloc_new _ _)]
        match j, hx with
        | 0, hx => simp at hx; subst hx; rfl
        | 1, hx => simp at hx; subst hx; rfl
        | 2, hx => simp at hx; subst hx; rfl
        | 3, hx => simp at hx; subst hx; rfl
        | 4, hx => simp at hx; subst hx; rfl
        | 5, hx => simp at hx; subst hx; rfl
        | j + 6, hx => simp at hx) (by simp) (by simp) (by simp) (by rw [hjl]; omega)
    rw [hjl] at hj
    clear hjl hl
    generalize w2.alloc (.cells #[.string p, .string q, .string (bytesOf (itoa n)), .string (bytesOf (itoa lo)), .string (bytesOf (itoa hi)), .string (bytesOf (itoa seq))] 9) = WE at hj hBE ⊢
    go_wp2_with fail
    refine hj.mono ?_
    rintro e w9 ⟨rfl, hb9⟩
    go_wp2
    go_ret
    exact ⟨rfl, hBE.trans (hb9.mono hBE.size)⟩
  · rw [if_neg he]
    obtain ⟨j, hj⟩ : ∃ j, fileE f = j + 1 := ⟨fileE f - 1, by omega⟩
    rw [hj] at hck
    clear hbd hln he hj
    obtain ⟨p, q, n, lo, hi, seq⟩ := f
    dsimp only at h1 h2 hal
    unfold flV at hck ⊢
    dsimp only at hck ⊢
    simp only [errV] at hck
    go_enter Tryz.func13, Tryz.ntmps13
    go_wp2_with fail
    generalize w.alloc (.cells #[.string p, .string q, .int .i64 n, .int .i64 lo, .int .i64 hi, .int .i64 seq] 23) = WA at hal hfl hck ⊢
    refine hck.mono ?_
    rintro e W0 ⟨rfl, hb1⟩
    clear hck
    have hB1 : Below w.heap.size w W0 := hal.trans (hb1.mono hal.size)
    go_wp2
    go_ret
    exact ⟨rfl, hB1⟩
end Go.Proofs.YtpkoefpdpoikkaaGreatDoor
namespace Go.Proofs.YtpkoefpdpoikkaaGreatDoor
open Go.RowKit Go.Extern.Stop Go.Stop Go.Extern Go.Sort Go.Shelf Go.Lib

theorem neqF (f : Fl) (w : World) : (binOp .neq 23 (flV f) (flV f)).run Tryz.prog w = .ok (.bool false) w := by
  have u3 := Tryz.underlying3
  have u9 := Tryz.underlying9
  have a3 := Tryz.isAgg3
  have z3 := Tryz.sizeOf3
  have a9 := Tryz.isAgg9
  have z9 := Tryz.sizeOf9
  have hS : Tryz.prog.underlying 23 = some (.struct (Tryz.prog.fieldsOf 23)) := by kernel_rfl
  have hp : Tryz.prog.stoodInHeld 23 = false := by kernel_rfl
  obtain ⟨p, q, n, lo, hi, seq⟩ := f
  unfold flV
  dsimp only
  rw [run_neq_struct, show (10000 : Nat) = 9999 + 1 from rfl, run_equalIn_agg w 9999 23 _ _ hS hp]
  simp only [Program.fieldsOf, Tryz.underlying23]
  go_simp

theorem guardF : GuardAt Tryz.prog 23 flV := GuardAt.agg _ (by kernel_rfl)

def longFB (f : Fl) : Bool := decide (30 < f.1.size) || decide (30 < f.2.1.size)

theorem longFile_any (f : Fl) (w : World) (h1 : f.1.size ≤ maxLen) (h2 : f.2.1.size ≤ maxLen) :
    Calls Tryz.prog 10 #[flV f] w fun e w' => e = .returned (.int .i64 (if longFB f then 1 else 0)) ∧ Below w.heap.size w w' := by
  have hal : Below w.heap.size w (w.alloc (.cells #[.string f.1, .string f.2.1, .int .i64 f.2.2.1, .int .i64 f.2.2.2.1, .int .i64 f.2.2.2.2.1, .int .i64 f.2.2.2.2.2] 23)) := (Below.refl _ _).alloc (Nat.le_refl _) _
  have hfl := FlAt.new w f
  unfold maxLen at h1 h2
  obtain ⟨p, q, n, lo, hi, seq⟩ := f
  unfold flV longFB
  dsimp only at h1 h2 hal hfl ⊢
  by_cases hp : 30 < p.size
  · have e : (decide (30 < p.size) || decide (30 < q.size)) = true := by simp [hp]
    rw [e, if_pos rfl]
    clear e
    go_enter Tryz.func10, Tryz.ntmps10
    go_wp2
    go_ret
    exact ⟨rfl, hal⟩
  · by_cases hq : 30 < q.size
    · have e : (decide (30 < p.size) || decide (30 < q.size)) = true := by simp [hq]
      rw [e, if_pos rfl]
      clear e
      go_enter Tryz.func10, Tryz.ntmps10
      go_wp2
      go_ret
      exact ⟨rfl, hal⟩
    · have e : (decide (30 < p.size) || decide (30 < q.size)) = false := by simp [hp, hq]
      rw [e, if_neg (by simp)]
      clear e
      go_enter Tryz.func10, Tryz.ntmps10
      go_wp2
      go_ret
      exact ⟨rfl, hal⟩
end Go.Proofs.YtpkoefpdpoikkaaGreatDoor
namespace Go.Proofs.YtpkoefpdpoikkaaGreatDoor
open Go.RowKit Go.Extern.Stop Go.Stop Go.Extern Go.Sort Go.Shelf Go.Lib

theorem cells6 (w : World) (f : Fl) : ∀ j u, (encF f)[j]? = some u → (w.alloc (.cells #[.string f.1, .string f.2.1, .int .i64 f.2.2.1, .int .i64 f.2.2.2.1, .int .i64 f.2.2.2.2.1, .int .i64 f.2.2.2.2.2] 23)).cell? ((⟨w.heap.size, 0, none⟩ : Addr).add j) = some u := by
  intro j u hu
  rw [Addr.add_lit, Nat.zero_add, cell_of_row _ _ _ _ _ _ (heap_alloc_new _ _)]
  rw [← hu]
  simp [encF]

end Go.Proofs.YtpkoefpdpoikkaaGreatDoor
namespace Go.Proofs.YtpkoefpdpoikkaaGreatDoor
open Go.RowKit Go.Extern.Stop Go.Stop Go.Extern

theorem Tryz.isTypeOf (v : Value) (w : World) : (Extern.ReflectliteType.typeOf #[.iface 289 v]).run Tryz.prog w = .ok (.iface 247 (.agg #[.pointer (some ⟨21, 289, none⟩)])) w := by kernel_rfl
def compEntry : Array Value → Sem Value := Extern.ReflectliteType.method fun t => do Extern.Rtype.noPackHeld "Comparable" t; pure (.bool (← typeInfo t).comparable)
theorem Tryz.isComparable (w : World) : (compEntry #[.agg #[.pointer (some ⟨21, 289, none⟩)]]).run Tryz.prog w = .ok (.bool true) w := by kernel_rfl
theorem Tryz.isMethodComparable (v : Value) (w : World) : (Go.method 424 247 v "Comparable").run Tryz.prog w = .ok (275, v) w := by kernel_rfl
theorem Tryz.isComp : (Tryz.prog.info? 289).map (·.comparable) = some true := by kernel_rfl
theorem Tryz.isSize : (Tryz.prog.info? 291).map (·.size) = some 1 := by kernel_rfl
theorem Tryz.noIsE (v : Value) (xT : TypeId) (w : World) : (Instr.typeAssert (.iface 289 v) xT 258 true).run Tryz.prog w = .ok (.tuple #[.nilIface, .bool false]) w := run_typeAssert_lacksB Tryz.underlying258 (by kernel_rfl) (by kernel_rfl) v xT w
theorem Tryz.noUnwrapE (v : Value) (xT : TypeId) (w : World) : (Instr.typeAssert (.iface 289 v) xT 254 true).run Tryz.prog w = .ok (.tuple #[.nilIface, .bool false]) w := run_typeAssert_lacksB Tryz.underlying254 (by kernel_rfl) (by kernel_rfl) v xT w
theorem Tryz.noUnwrapsE (v : Value) (xT : TypeId) (w : World) : (Instr.typeAssert (.iface 289 v) xT 256 true).run Tryz.prog w = .ok (.tuple #[.nilIface, .bool false]) w := run_typeAssert_lacksB Tryz.underlying256 (by kernel_rfl) (by kernel_rfl) v xT w
theorem Tryz.noAsE (v : Value) (xT : TypeId) (w : World) : (Instr.typeAssert (.iface 289 v) xT 251 true).run Tryz.prog w = .ok (.tuple #[.nilIface, .bool false]) w := run_typeAssert_lacksB Tryz.underlying251 (by kernel_rfl) (by kernel_rfl) v xT w
theorem is_same (a : Addr) (w : World) :
    Calls Tryz.prog 130 #[.iface 289 (.pointer (some a)), .iface 289 (.pointer (some a))] w fun e w' => e = .returned (.bool true) ∧ w' = w := by
  obtain ⟨i, hi, hcmp⟩ := Option.map_eq_some_iff.1 Tryz.isComp
  obtain ⟨j, hj, hjs⟩ := Option.map_eq_some_iff.1 Tryz.isSize
  have h8 := @run_callFunc_extern Tryz.prog 172 _ Extern.ReflectliteType.typeOf Tryz.func172 (by kernel_rfl) (by kernel_rfl) (by kernel_rfl) (by kernel_rfl)
  have h32 := @run_callFunc_extern Tryz.prog 275 _ compEntry Tryz.func275 (by kernel_rfl) (by kernel_rfl) (by kernel_rfl) (by kernel_rfl)
  have tT := Tryz.isTypeOf
  have cT := Tryz.isComparable
  have mR := Tryz.isMethodComparable
  have heq := run_eql_iface_ptr_same (P := Tryz.prog) w a Tryz.underlying29 Tryz.underlying289 hi hcmp hj
  go_enter Tryz.func130, Tryz.ntmps130
  go_wp2
  refine wp_loop_rounds 1 ?_
  rw [rounds_succ]
  go_wp2
  go_ret
  exact ⟨rfl, rfl⟩

theorem is_other (a b : Addr) (ca cb : Array Value) (ta tb : TypeId) (w : World) (hne : a ≠ b) (ha : w.heap[a.block]? = some (.cells ca ta (0, 0))) (hb : w.heap[b.block]? = some (.cells cb tb (0, 0))) :
    Calls Tryz.prog 130 #[.iface 289 (.pointer (some a)), .iface 289 (.pointer (some b))] w fun e w' => e = .returned (.bool false) ∧ w' = w := by
  obtain ⟨i, hi, hcmp⟩ := Option.map_eq_some_iff.1 Tryz.isComp
  obtain ⟨j, hj, hjs⟩ := Option.map_eq_some_iff.1 Tryz.isSize
  have h8 := @run_callFunc_extern Tryz.prog 172 _ Extern.ReflectliteType.typeOf Tryz.func172 (by kernel_rfl) (by kernel_rfl) (by kernel_rfl) (by kernel_rfl)
  have h32 := @run_callFunc_extern Tryz.prog 275 _ compEntry Tryz.func275 (by kernel_rfl) (by kernel_rfl) (by kernel_rfl) (by kernel_rfl)
  have tT := Tryz.isTypeOf
  have cT := Tryz.isComparable
  have mR := Tryz.isMethodComparable
  have nE := Tryz.noIsE
  have uE := Tryz.noUnwrapE
  have vE := Tryz.noUnwrapsE
  have heq := run_eql_iface_ptr_other (P := Tryz.prog) w Tryz.underlying29 Tryz.underlying289 hi hcmp hj (by rw [hjs]; decide) hne ha hb
  go_enter Tryz.func130, Tryz.ntmps130
  go_wp2
  refine wp_loop_rounds 1 ?_
  rw [rounds_succ]
  go_wp2
  go_ret
  exact ⟨rfl, rfl⟩

end Go.Proofs.YtpkoefpdpoikkaaGreatDoor
