/-
  The contract of the document's own PathOf.
-/
import Derived.Test.YtcpplldfmmpaoaaGreatDoorFileNum
import Derived.Laws.Bits128
namespace Go.Proofs.YtcpplldfmmpaoaaGreatDoor
open Go.RowKit Go.Extern.Stop Go.Stop Go.Extern Go.Sort Go.Shelf Go.Lib

def FlAt (W : World) (b : Nat) (f : Fl) : Prop := W.heap[b]? = some (.cells #[.string f.1, .string f.2.1, .int .i64 f.2.2.1, .int .i64 f.2.2.2.1, .int .i64 f.2.2.2.2.1, .int .i64 f.2.2.2.2.2] 37 (0, 0))

theorem FlAt.lt {W : World} {b : Nat} {f : Fl} (h : FlAt W b f) : b < W.heap.size := lt_of_block h
theorem FlAt.below {W W' : World} {b : Nat} {f : Fl} (h : FlAt W b f) (hb : Below W.heap.size W W') : FlAt W' b f := (hb.block b h.lt).trans h
theorem FlAt.cells {W : World} {b : Nat} {f : Fl} (h : FlAt W b f) : W.cell? ⟨b, 0, none⟩ = some (.string f.1) ∧ W.cell? ⟨b, 1, none⟩ = some (.string f.2.1) ∧ W.cell? ⟨b, 2, none⟩ = some (.int .i64 f.2.2.1) ∧ W.cell? ⟨b, 3, none⟩ = some (.int .i64 f.2.2.2.1) ∧ W.cell? ⟨b, 4, none⟩ = some (.int .i64 f.2.2.2.2.1) ∧ W.cell? ⟨b, 5, none⟩ = some (.int .i64 f.2.2.2.2.2) ∧ ∀ o, W.frozen? ⟨b, o, none⟩ = false := by
  unfold FlAt at h
  exact ⟨by rw [cell_of_row _ _ _ _ _ _ h]; rfl, by rw [cell_of_row _ _ _ _ _ _ h]; rfl, by rw [cell_of_row _ _ _ _ _ _ h]; rfl, by rw [cell_of_row _ _ _ _ _ _ h]; rfl, by rw [cell_of_row _ _ _ _ _ _ h]; rfl, by rw [cell_of_row _ _ _ _ _ _ h]; rfl, fun o => frozen_of_row _ _ _ _ _ h⟩
theorem FlAt.new (w : World) (f : Fl) : FlAt (w.alloc (.cells #[.string f.1, .string f.2.1, .int .i64 f.2.2.1, .int .i64 f.2.2.2.1, .int .i64 f.2.2.2.2.1, .int .i64 f.2.2.2.2.2] 37)) w.heap.size f := heap_alloc_new _ _

set_option maxRecDepth 100000 in
set_option maxHeartbeats 4000000 in
theorem fcheck_any (f : Fl) (w : World) (a : Nat → Addr) (h : EnvK w a) (h1 : f.1.size ≤ 100000) (h2 : f.2.1.size ≤ 100000) :
    Calls Tryz.prog 28 #[flV f] w fun e w' => e = .returned (errV a (fileE f)) ∧ Below w.heap.size w w' := by
  have hal : Below w.heap.size w (w.alloc (.cells #[.string f.1, .string f.2.1, .int .i64 f.2.2.1, .int .i64 f.2.2.2.1, .int .i64 f.2.2.2.2.1, .int .i64 f.2.2.2.2.2] 37)) := (Below.refl _ _).alloc (Nat.le_refl _) _
  have hfl := FlAt.new w f
  obtain ⟨p, q, n, lo, hi, seq⟩ := f
  dsimp only at h1 h2 hal
  have hnm := fnumber_n p _ a (h.below hal).env h1
  unfold flV
  dsimp only
  generalize hE : fileE (p, q, n, lo, hi, seq) = E
  have HE : Hid (fileE (p, q, n, lo, hi, seq) = E) := hE
  clear hE
  go_enter Tryz.func28, Tryz.ntmps28
  go_wp2_with fail
  generalize w.alloc (.cells #[.string p, .string q, .int .i64 n, .int .i64 lo, .int .i64 hi, .int .i64 seq] 37) = WA at hal hfl hnm ⊢
  refine hnm.mono ?_
  rintro e w1 ⟨rfl, hb1⟩
  clear hnm
  have hB1 : Below w.heap.size w w1 := hal.trans (hb1.mono hal.size)
  have hfl1 := hfl.below hb1
  obtain ⟨c0, c1, c2, c3, c4, c5, cf⟩ := hfl1.cells
  dsimp only at c0 c1 c2 c3 c4 c5
  clear hfl hfl1
  cases hp : pathO p.data.toList with
  | none =>
    have hEE : E = 5 := by rw [← HE.out]; unfold fileE; dsimp only; rw [hp]
    subst hEE
    rw [pathR_none hp]
    simp only [errV]
    clear hp c0 c1 c2 c3 c4 c5 cf
    go_wp2
    go_ret
    exact ⟨rfl, hB1⟩
  | some gn =>
    obtain ⟨g, k⟩ := gn
    rw [pathR_some hp]
    have HEE : Hid (E = if partB g q.data.toList then (if bndB (p, q, n, lo, hi, seq) then 0 else 2) else 4) := by
      show _ = _
      rw [← HE.out]; unfold fileE; dsimp only; rw [hp]
    simp only [errV]
    clear hp
    have hpo := partOf_any g q w1 (by unfold maxLen; omega)
    go_wp2_with fail
    refine hpo.mono ?_
    rintro e w2 ⟨rfl, hw2⟩
    rw [hw2]
    clear hpo hw2
    have ek := (h.below hB1).kind
    have eb := (h.below hB1).env.bound
    cases hpb : partB g q.data.toList with
    | false =>
      have hEE := HEE.out
      rw [hpb] at hEE
      simp only [Bool.false_eq_true, if_false] at hEE
      subst hEE
      clear hpb c0 c1 c2 c3 c4 c5 cf
      go_wp2
      go_ret
      exact ⟨rfl, hB1⟩
    | true =>
      have hEE := HEE.out
      rw [hpb, if_pos rfl] at hEE
      have HB : Hid (E = if bndB (p, q, n, lo, hi, seq) then 0 else 2) := hEE
      clear hEE hpb
      have bad : bndB (p, q, n, lo, hi, seq) = false → E = 2 := fun hb => by rw [HB.out, hb]; rfl
      have BAD : Hid (bndB (p, q, n, lo, hi, seq) = false → E = 2) := bad
      clear bad
      by_cases g1 : 1 ≤ n
      · by_cases g2 : n ≤ 40
        · have hL := fun W => inBounds_any lo W
          have hH := fun W => inBounds_any hi W
          cases g3 : inNum lo with
          | false =>
            obtain rfl := BAD.out (by simp [bndB, g3])
            rw [g3] at hL
            clear g3
            go_wp2_with (go_at_call 48; refine (hL _).mono ?_; rintro e w' ⟨rfl, rfl⟩)
            go_ret
            exact ⟨rfl, hB1⟩
          | true =>
            rw [g3] at hL
            cases g4 : inNum hi with
            | false =>
              obtain rfl := BAD.out (by simp [bndB, g4])
              rw [g4] at hH
              clear g3 g4
              go_wp2_with (first | (go_at_call 48; refine (hL _).mono ?_; rintro e w' ⟨rfl, rfl⟩) | (go_at_call 48; refine (hH _).mono ?_; rintro e w' ⟨rfl, rfl⟩))
              go_ret
              exact ⟨rfl, hB1⟩
            | true =>
              rw [g4] at hH
              by_cases g5 : lo ≤ hi
              · have g5' : ¬ hi < lo := by omega
                have hC := fun W => counts_any seq W
                cases g6 : cntB seq with
                | false =>
                  obtain rfl := BAD.out (by simp [bndB, g6])
                  rw [g6] at hC
                  clear g3 g4 g6
                  go_wp2_with (first | (go_at_call 48; refine (hL _).mono ?_; rintro e w' ⟨rfl, rfl⟩) | (go_at_call 48; refine (hH _).mono ?_; rintro e w' ⟨rfl, rfl⟩) | (go_at_call 49; refine (hC _).mono ?_; rintro e w' ⟨rfl, rfl⟩))
                  go_ret
                  exact ⟨rfl, hB1⟩
                | true =>
                  have hgood : E = 0 := by
                    rw [HB.out, if_pos]
                    simp [bndB, g1, g2, g3, g4, g5, g6]
                  subst hgood
                  rw [g6] at hC
                  clear g3 g4 g6
                  go_wp2_with (first | (go_at_call 48; refine (hL _).mono ?_; rintro e w' ⟨rfl, rfl⟩) | (go_at_call 48; refine (hH _).mono ?_; rintro e w' ⟨rfl, rfl⟩) | (go_at_call 49; refine (hC _).mono ?_; rintro e w' ⟨rfl, rfl⟩))
                  go_ret
                  exact ⟨rfl, hB1⟩
              · obtain rfl := BAD.out (by simp [bndB, g5])
                have g5' : hi < lo := by omega
                clear g3 g4
                go_wp2_with (first | (go_at_call 48; refine (hL _).mono ?_; rintro e w' ⟨rfl, rfl⟩) | (go_at_call 48; refine (hH _).mono ?_; rintro e w' ⟨rfl, rfl⟩))
                go_ret
                exact ⟨rfl, hB1⟩
        · obtain rfl := BAD.out (by simp [bndB, g2])
          have g2' : 40 < n := by omega
          go_wp2
          go_ret
          exact ⟨rfl, hB1⟩
      · obtain rfl := BAD.out (by simp [bndB, g1])
        have g1' : n < 1 := by omega
        go_wp2
        go_ret
        exact ⟨rfl, hB1⟩
end Go.Proofs.YtcpplldfmmpaoaaGreatDoor
namespace Go.Proofs.YtcpplldfmmpaoaaGreatDoor
open Go.RowKit Go.Extern.Stop Go.Stop Go.Extern Go.Sort Go.Shelf Go.Lib

def encF (f : Fl) : List Value := [.string f.1, .string f.2.1, .int .i64 f.2.2.1, .int .i64 f.2.2.2.1, .int .i64 f.2.2.2.2.1, .int .i64 f.2.2.2.2.2]

def FlCells (w : World) (b o : Nat) (fs : List Fl) : Prop :=
  ∀ j (h : j < fs.length), w.cell? ⟨b, o + j * 6, none⟩ = some (.string fs[j].1) ∧ w.cell? ⟨b, o + j * 6 + 1, none⟩ = some (.string fs[j].2.1) ∧ w.cell? ⟨b, o + j * 6 + 2, none⟩ = some (.int .i64 fs[j].2.2.1) ∧ w.cell? ⟨b, o + j * 6 + 3, none⟩ = some (.int .i64 fs[j].2.2.2.1) ∧ w.cell? ⟨b, o + j * 6 + 4, none⟩ = some (.int .i64 fs[j].2.2.2.2.1) ∧ w.cell? ⟨b, o + j * 6 + 5, none⟩ = some (.int .i64 fs[j].2.2.2.2.2)

def FlsAt (w : World) (v : Value) (fs : List Fl) : Prop :=
  (∃ p c, v = .slice p 0 c ∧ (p = none → c = 0) ∧ fs = []) ∨ ∃ b o cap, v = .slice (some ⟨b, o, none⟩) fs.length cap ∧ fs.length ≤ cap ∧ FlCells w b o fs

theorem FlCells.below {w w' : World} {b o : Nat} {fs : List Fl} (h : FlCells w b o fs) (hb : Below w.heap.size w w') : FlCells w' b o fs :=
  fun j hj => ⟨below_keep hb (h j hj).1, below_keep hb (h j hj).2.1, below_keep hb (h j hj).2.2.1, below_keep hb (h j hj).2.2.2.1, below_keep hb (h j hj).2.2.2.2.1, below_keep hb (h j hj).2.2.2.2.2⟩

theorem FlsAt.below {w w' : World} {v : Value} {fs : List Fl} (h : FlsAt w v fs) (hb : Below w.heap.size w w') : FlsAt w' v fs := by
  rcases h with h | ⟨b, o, cap, hv, hl, hc⟩
  · exact Or.inl h
  · exact Or.inr ⟨b, o, cap, hv, hl, hc.below hb⟩

theorem FlsAt.form {w : World} {v : Value} {fs : List Fl} (h : FlsAt w v fs) : ∃ p c, v = .slice p fs.length c := by
  rcases h with ⟨p, c, rfl, _, rfl⟩ | ⟨b, o, cap, rfl, _⟩
  · exact ⟨_, _, rfl⟩
  · exact ⟨_, _, rfl⟩

theorem FlsAt.cells {w : World} {q : Option Addr} {n c : Nat} {fs : List Fl} (h : FlsAt w (.slice q n c) fs) (hne : fs ≠ []) : ∃ b o, q = some ⟨b, o, none⟩ ∧ FlCells w b o fs := by
  rcases h with ⟨_, _, _, _, e⟩ | ⟨b, o, cap, e, _, hc⟩
  · exact absurd e hne
  · simp only [Value.slice.injEq] at e
    exact ⟨b, o, e.1, hc⟩

theorem FlsAt.room {w : World} {q : Option Addr} {n c : Nat} {fs : List Fl} (h : FlsAt w (.slice q n c) fs) : n = fs.length ∧ (fs ≠ [] → n ≤ c) := by
  rcases h with ⟨p, c', e, _, rfl⟩ | ⟨b, o, cap, e, hl, hc⟩
  · simp only [Value.slice.injEq] at e
    exact ⟨e.2.1, fun h => absurd rfl h⟩
  · simp only [Value.slice.injEq] at e
    obtain ⟨_, rfl, rfl⟩ := e
    exact ⟨rfl, fun _ => hl⟩

def flatF (fs : List Fl) : List Value := fs.flatMap encF

theorem encF_len (f : Fl) : (encF f).length = 6 := rfl
theorem encF_one (f : Fl) : ∀ u ∈ encF f, u.oneCell' = true := by
  intro u hu
  simp only [encF, List.mem_cons, List.not_mem_nil, or_false] at hu
  rcases hu with rfl | rfl | rfl | rfl | rfl | rfl <;> rfl

theorem flatF_len : ∀ fs : List Fl, (flatF fs).length = fs.length * 6
  | [] => rfl
  | f :: fs => by
    have := flatF_len fs
    simp only [flatF, List.flatMap_cons, List.length_append, List.length_cons] at *
    rw [this, encF_len]; omega

theorem flatF_one (fs : List Fl) : ∀ u ∈ flatF fs, u.oneCell' = true := by
  intro u hu
  simp only [flatF, List.mem_flatMap] at hu
  obtain ⟨f, _, hf⟩ := hu
  exact encF_one f u hf

theorem flatF_append (xs ys : List Fl) : flatF (xs ++ ys) = flatF xs ++ flatF ys := by simp [flatF]

theorem flatF_get : ∀ (fs : List Fl) (j c : Nat) (h : j < fs.length), c < 6 → (flatF fs)[j * 6 + c]? = (encF fs[j])[c]?
  | [], j, _, h, _ => by simp at h
  | f :: fs, 0, c, _, hc => by
    simp only [flatF, List.flatMap_cons, Nat.zero_mul, Nat.zero_add, List.getElem_cons_zero]
    rw [List.getElem?_append_left (by rw [encF_len]; exact hc)]
  | f :: fs, j + 1, c, h, hc => by
    have hj : j < fs.length := by simp at h; omega
    have := flatF_get fs j c hj hc
    simp only [flatF, List.flatMap_cons, List.getElem_cons_succ] at *
    rw [List.getElem?_append_right (by rw [encF_len]; omega), encF_len, show (j + 1) * 6 + c - 6 = j * 6 + c by omega]
    exact this

theorem cellsF_flat {w : World} {b o : Nat} {fs : List Fl} (h : FlCells w b o fs) : ∀ t u, (flatF fs)[t]? = some u → w.cell? ⟨b, o + t, none⟩ = some u := by
  intro t u hu
  have ht : t < (flatF fs).length := by
    rcases Nat.lt_or_ge t (flatF fs).length with h' | h'
    · exact h'
    · rw [List.getElem?_eq_none h'] at hu; cases hu
  rw [flatF_len] at ht
  have hj : t / 6 < fs.length := by omega
  have e : t = t / 6 * 6 + t % 6 := by omega
  rw [e, flatF_get fs (t / 6) (t % 6) hj (by omega)] at hu
  obtain ⟨h0, h1, h2, h3, h4, h5⟩ := h (t / 6) hj
  have hm : t % 6 = 0 ∨ t % 6 = 1 ∨ t % 6 = 2 ∨ t % 6 = 3 ∨ t % 6 = 4 ∨ t % 6 = 5 := by omega
  rcases hm with hm | hm | hm | hm | hm | hm <;> rw [hm] at hu <;> simp only [encF, List.getElem?_cons_succ, List.getElem?_cons_zero, Option.some.injEq] at hu
  · rw [← hu, ← h0]; congr 2; omega
  · rw [← hu, ← h1]; congr 2; omega
  · rw [← hu, ← h2]; congr 2; omega
  · rw [← hu, ← h3]; congr 2; omega
  · rw [← hu, ← h4]; congr 2; omega
  · rw [← hu, ← h5]; congr 2; omega

theorem flCells_of {w : World} {b o : Nat} {fs : List Fl} (h : ∀ t u, (flatF fs)[t]? = some u → w.cell? ⟨b, o + t, none⟩ = some u) : FlCells w b o fs := fun j hj => by
  have g : ∀ c (hc : c < 6), w.cell? ⟨b, o + (j * 6 + c), none⟩ = (encF fs[j])[c]? := fun c hc => by
    have e := flatF_get fs j c hj hc
    have hl : c < (encF fs[j]).length := by rw [encF_len]; exact hc
    rw [List.getElem?_eq_getElem hl] at e ⊢
    exact h _ _ e
  refine ⟨?_, ?_, ?_, ?_, ?_, ?_⟩
  · simpa [encF] using g 0 (by omega)
  · simpa [encF, Nat.add_assoc] using g 1 (by omega)
  · simpa [encF, Nat.add_assoc] using g 2 (by omega)
  · simpa [encF, Nat.add_assoc] using g 3 (by omega)
  · simpa [encF, Nat.add_assoc] using g 4 (by omega)
  · simpa [encF, Nat.add_assoc] using g 5 (by omega)

theorem flsAt_of_own {w : World} {base : Nat} {v : Value} {n : Nat} {fs : List Fl} (h : w.ownsRow base 37 6 v n (flatF fs)) : FlsAt w v fs ∧ n = fs.length := by
  obtain ⟨hl, h⟩ := h
  have hn : n = fs.length := by rw [flatF_len] at hl; omega
  refine ⟨?_, hn⟩
  subst hn
  rcases h with ⟨hv, hn⟩ | ⟨g, cap, cur, rfl, _, hg, hcp, _, _, ht⟩
  · exact Or.inl ⟨none, 0, by rw [hv], fun _ => rfl, List.length_eq_zero_iff.1 hn⟩
  · refine Or.inr ⟨g, 0, cap, rfl, hcp, flCells_of fun t u hu => ?_⟩
    have ht' : t < fs.length * 6 := by
      rw [← flatF_len]
      rcases Nat.lt_or_ge t (flatF fs).length with h' | h'
      · exact h'
      · rw [List.getElem?_eq_none h'] at hu; cases hu
    rw [← ht, List.getElem?_take, if_pos ht'] at hu
    simp only [World.cell?, hg, Nat.zero_add]
    simpa using hu

theorem Tryz.fileInfo3 : (Tryz.prog.info? 37).map (fun i => (i.zero, i.size, i.bytes)) = some (some (.agg #[.string ⟨#[]⟩, .string ⟨#[]⟩, .int .i64 0, .int .i64 0, .int .i64 0, .int .i64 0]), 6, 64) := by kernel_rfl
theorem Tryz.fileInfo : ∃ i0 : TypeInfo, Tryz.prog.info? 37 = some i0 ∧ i0.zero = some (.agg #[.string ⟨#[]⟩, .string ⟨#[]⟩, .int .i64 0, .int .i64 0, .int .i64 0, .int .i64 0]) ∧ i0.size = 6 ∧ i0.bytes = 64 := by
  obtain ⟨i, hi, h⟩ := Option.map_eq_some_iff.1 Tryz.fileInfo3
  simp only [Prod.mk.injEq] at h
  exact ⟨i, hi, h.1, h.2.1, h.2.2⟩
end Go.Proofs.YtcpplldfmmpaoaaGreatDoor
namespace Go.Proofs.YtcpplldfmmpaoaaGreatDoor
open Go.RowKit Go.Extern.Stop Go.Stop Go.Extern Go.Sort Go.Shelf Go.Lib

set_option maxRecDepth 100000 in
set_option maxHeartbeats 4000000 in
theorem pathOf_any (s : ByteArray) (w : World) (hs : s.size ≤ 100000) :
    Calls Tryz.prog 71 #[.string s] w fun e w' => e = .returned (.tuple #[.string (bytesOf (pathR s.data.toList).1), .int .i64 (pathR s.data.toList).2.1, .int .i64 (pathR s.data.toList).2.2]) ∧ w' = w := by
  have hsz := size_list s
  have bad : pathO s.data.toList = none → (Ending.returned (.tuple #[.string ⟨#[]⟩, .int .i64 0, .int .i64 5]) = Ending.returned (.tuple #[.string (bytesOf (pathR s.data.toList).1), .int .i64 (pathR s.data.toList).2.1, .int .i64 (pathR s.data.toList).2.2])) := fun hp0 => by
    rw [pathR_none hp0]; rfl
  have BAD : Hid (pathO s.data.toList = none → (Ending.returned (.tuple #[.string ⟨#[]⟩, .int .i64 0, .int .i64 5]) = Ending.returned (.tuple #[.string (bytesOf (pathR s.data.toList).1), .int .i64 (pathR s.data.toList).2.1, .int .i64 (pathR s.data.toList).2.2]))) := bad
  clear bad
  by_cases hl : s.size < 6
  · have HN : Hid (pathO s.data.toList = none) := path_short (by omega)
    clear hsz
    go_enter Tryz.func71, Tryz.ntmps71
    go_wp2
    go_ret3
    exact ⟨BAD.out HN.out, rfl⟩
  · have HPP : Hid (pathO s.data.toList = if (s.data.toList.take 4 = kData ∨ s.data.toList.take 4 = kGone) ∧ s.data.toList[4]? = some 47 then (pathN (s.data.toList.drop 5)).map fun n => (decide (s.data.toList.take 4 = kGone), n) else none) := path_parts (by omega)
    have hb4 := byte_list s 4 (by omega)
    have HB4 : Hid (s.data.toList[4]? = some s[4]) := hb4
    have eA : (s.extract 0 4).data.toList = s.data.toList.take 4 := by rw [extract_from_zero]
    have eB : (s.extract 5 s.size).data.toList = s.data.toList.drop 5 := by rw [extract_to_end]
    have hnum := numberOf_any (s.extract 5 s.size) w (by rw [ByteArray.size_extract]; unfold maxLen; omega)
    rw [eB] at hnum
    have i1 : ¬ (s.size : Int) < 6 := by omega
    have i2 : (4 : Int) ≤ (s.size : Int) := by omega
    have i3 : (5 : Int) ≤ (s.size : Int) := by omega
    have i4 : (4 : Int) < (s.size : Int) := by omega
    clear hb4 eB
    by_cases hk : (s.data.toList.take 4 = kData ∨ s.data.toList.take 4 = kGone)
    · by_cases h47 : s[4] = 47
      · unfold numR at hnum
        have HP : Hid (pathO s.data.toList = (pathN (s.data.toList.drop 5)).map fun n => (decide (s.data.toList.take 4 = kGone), n)) := by
          show _ = _
          rw [HPP.out, if_pos ⟨hk, by rw [HB4.out, h47]⟩]
        have c47 : (s[4].toNat : Int) = 47 := by rw [h47]; rfl
        cases hn : numO (s.data.toList.drop 5) with
        | none =>
          have HN : Hid (pathO s.data.toList = none) := by
            show _ = _
            rw [HP.out]; unfold pathN; rw [hn]; rfl
          rw [hn] at hnum
          dsimp only at hnum
          clear hn h47
          rcases hk with hk | hk
          · have d1 := eqB_of (eA.trans hk)
            simp only [kData] at d1
            clear hk eA
            go_enter Tryz.func71, Tryz.ntmps71
            go_wp2_with (go_at_call 89; refine hnum.mono ?_; rintro e w1 ⟨rfl, hw⟩; rw [hw]; clear hw)
            go_ret3
            exact ⟨BAD.out HN.out, rfl⟩
          · have d1 := neB_of (s := s.extract 0 4) (l := [100, 97, 116, 97]) (by rw [eA, hk]; decide)
            have d2 := eqB_of (eA.trans hk)
            simp only [kGone] at d2
            clear hk eA
            go_enter Tryz.func71, Tryz.ntmps71
            go_wp2_with (go_at_call 89; refine hnum.mono ?_; rintro e w1 ⟨rfl, hw⟩; rw [hw]; clear hw)
            go_ret3
            exact ⟨BAD.out HN.out, rfl⟩
        | some n =>
          rw [hn] at hnum
          dsimp only at hnum
          by_cases hc : 1 ≤ n ∧ n ≤ 1073741824
          · have hcn : cntB n = true := by simp [cntB, hc.1, hc.2]
            have HS : Hid (pathO s.data.toList = some (decide (s.data.toList.take 4 = kGone), n)) := by
              show _ = _
              rw [HP.out]; unfold pathN; rw [hn]; simp [hcn]
            obtain ⟨hc1, hc2⟩ := hc
            clear hn hcn h47
            have HR : Hid (pathR s.data.toList = (s.data.toList.take 4, n, 0)) := by
              show _ = _
              rw [pathR_some HS.out]
              rcases hk with hk | hk
              · rw [hk]; rfl
              · rw [hk]; rfl
            have HX : Hid (bytesOf (s.data.toList.take 4) = s.extract 0 4) := by
              show _ = _
              rw [← eA, bytesOf_data]
            rcases hk with hk | hk
            · have d1 := eqB_of (eA.trans hk)
              simp only [kData] at d1
              clear hk eA
              go_enter Tryz.func71, Tryz.ntmps71
              go_wp2_with (go_at_call 89; refine hnum.mono ?_; rintro e w1 ⟨rfl, hw⟩; rw [hw]; clear hw)
              go_ret3
              exact ⟨by rw [HR.out, HX.out]; rfl, rfl⟩
            · have d1 := neB_of (s := s.extract 0 4) (l := [100, 97, 116, 97]) (by rw [eA, hk]; decide)
              have d2 := eqB_of (eA.trans hk)
              simp only [kGone] at d2
              clear hk eA
              go_enter Tryz.func71, Tryz.ntmps71
              go_wp2_with (go_at_call 89; refine hnum.mono ?_; rintro e w1 ⟨rfl, hw⟩; rw [hw]; clear hw)
              go_ret3
              exact ⟨by rw [HR.out, HX.out]; rfl, rfl⟩
          · have hcn : cntB n = false := by
              cases h : cntB n with
              | false => rfl
              | true => simp only [cntB, Bool.and_eq_true, decide_eq_true_eq] at h; exact absurd h hc
            have HN : Hid (pathO s.data.toList = none) := by
              show _ = _
              rw [HP.out]; unfold pathN; rw [hn]; simp [hcn]
            clear hn hcn h47
            rcases hk with hk | hk
            · have d1 := eqB_of (eA.trans hk)
              simp only [kData] at d1
              clear hk eA
              by_cases hc1 : n < 1
              · clear hc
                go_enter Tryz.func71, Tryz.ntmps71
                go_wp2_with (go_at_call 89; refine hnum.mono ?_; rintro e w1 ⟨rfl, hw⟩; rw [hw]; clear hw)
                go_ret3
                exact ⟨BAD.out HN.out, rfl⟩
              · have hc2 : 1073741824 < n := by omega
                clear hc
                go_enter Tryz.func71, Tryz.ntmps71
                go_wp2_with (go_at_call 89; refine hnum.mono ?_; rintro e w1 ⟨rfl, hw⟩; rw [hw]; clear hw)
                go_ret3
                exact ⟨BAD.out HN.out, rfl⟩
            · have d1 := neB_of (s := s.extract 0 4) (l := [100, 97, 116, 97]) (by rw [eA, hk]; decide)
              have d2 := eqB_of (eA.trans hk)
              simp only [kGone] at d2
              clear hk eA
              by_cases hc1 : n < 1
              · clear hc
                go_enter Tryz.func71, Tryz.ntmps71
                go_wp2_with (go_at_call 89; refine hnum.mono ?_; rintro e w1 ⟨rfl, hw⟩; rw [hw]; clear hw)
                go_ret3
                exact ⟨BAD.out HN.out, rfl⟩
              · have hc2 : 1073741824 < n := by omega
                clear hc
                go_enter Tryz.func71, Tryz.ntmps71
                go_wp2_with (go_at_call 89; refine hnum.mono ?_; rintro e w1 ⟨rfl, hw⟩; rw [hw]; clear hw)
                go_ret3
                exact ⟨BAD.out HN.out, rfl⟩
      · have HN : Hid (pathO s.data.toList = none) := by
          show _ = _
          rw [HPP.out, if_neg]
          rintro ⟨_, e⟩
          rw [HB4.out] at e
          exact h47 (Option.some.inj e)
        have c47 : ¬ (s[4].toNat : Int) = 47 := fun e => h47 (by
          have e' : s[4].toNat = 47 := by omega
          exact UInt8.toNat_inj.1 e')
        generalize numR (s.data.toList.drop 5) = R at hnum
        obtain ⟨nv, bv⟩ := R
        dsimp only at hnum
        clear h47
        rcases hk with hk | hk
        · have d1 := eqB_of (eA.trans hk)
          simp only [kData] at d1
          clear hk eA
          go_enter Tryz.func71, Tryz.ntmps71
          go_wp2_with (go_at_call 89; refine hnum.mono ?_; rintro e w1 ⟨rfl, hw⟩; rw [hw]; clear hw)
          go_ret3
          exact ⟨BAD.out HN.out, rfl⟩
        · have d1 := neB_of (s := s.extract 0 4) (l := [100, 97, 116, 97]) (by rw [eA, hk]; decide)
          have d2 := eqB_of (eA.trans hk)
          simp only [kGone] at d2
          clear hk eA
          go_enter Tryz.func71, Tryz.ntmps71
          go_wp2_with (go_at_call 89; refine hnum.mono ?_; rintro e w1 ⟨rfl, hw⟩; rw [hw]; clear hw)
          go_ret3
          exact ⟨BAD.out HN.out, rfl⟩
    · have HN : Hid (pathO s.data.toList = none) := by
        show _ = _
        rw [HPP.out, if_neg]
        rintro ⟨e, _⟩
        exact hk e
      have d1 := neB_of (s := s.extract 0 4) (l := [100, 97, 116, 97]) (by rw [eA]; exact fun e => hk (Or.inl e))
      have d2 := neB_of (s := s.extract 0 4) (l := [103, 111, 110, 101]) (by rw [eA]; exact fun e => hk (Or.inr e))
      generalize numR (s.data.toList.drop 5) = R at hnum
      obtain ⟨nv, bv⟩ := R
      dsimp only at hnum
      clear hk eA
      go_enter Tryz.func71, Tryz.ntmps71
      go_wp2_with (go_at_call 89; refine hnum.mono ?_; rintro e w1 ⟨rfl, hw⟩; rw [hw]; clear hw)
      go_ret3
      exact ⟨BAD.out HN.out, rfl⟩

end Go.Proofs.YtcpplldfmmpaoaaGreatDoor
