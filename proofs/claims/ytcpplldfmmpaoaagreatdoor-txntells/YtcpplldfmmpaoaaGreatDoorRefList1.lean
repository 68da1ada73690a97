/-
  The contracts of the document's own IsBehind, FindOf, SameFiles, Without, PruneOf and ListText.
-/
import Derived.Test.YtcpplldfmmpaoaaGreatDoorRefPath
namespace Go.Proofs.YtcpplldfmmpaoaaGreatDoor
open Go.RowKit Go.Extern.Stop Go.Stop Go.Extern Go.Sort Go.Shelf Go.Lib

set_option maxRecDepth 100000 in
set_option maxHeartbeats 4000000 in
theorem fileError_any (f : Fl) (w : World) (h1 : f.1.size ≤ 100000) (h2 : f.2.1.size ≤ 100000) :
    Calls Tryz.prog 42 #[flV f] w fun e w' => e = .returned (.int .i64 (fileE f)) ∧ Below w.heap.size w w' := by
  have hal : Below w.heap.size w (w.alloc (.cells #[.string f.1, .string f.2.1, .int .i64 f.2.2.1, .int .i64 f.2.2.2.1, .int .i64 f.2.2.2.2.1, .int .i64 f.2.2.2.2.2] 37)) := (Below.refl _ _).alloc (Nat.le_refl _) _
  have hfl := FlAt.new w f
  obtain ⟨p, q, n, lo, hi, seq⟩ := f
  dsimp only at h1 h2 hal
  have hnm := fun W => pathOf_any p W h1
  have hnw := fun W => isWord_any q 12 W (by unfold maxLen; omega)
  have hL := fun W => isFar_any lo W
  have hH := fun W => isFar_any hi W
  unfold flV
  dsimp only
  generalize hE : fileE (p, q, n, lo, hi, seq) = E
  have HE : Hid (fileE (p, q, n, lo, hi, seq) = E) := hE
  clear hE
  have H1 : Hid (E = match pathO p.data.toList with
    | none => 5
    | some (g, _) => if partB g q.data.toList then (if bndB (p, q, n, lo, hi, seq) then 0 else 2) else 4) := by
    show _ = _
    rw [← HE.out]; rfl
  clear HE
  go_enter Tryz.func42, Tryz.ntmps42
  go_wp2_with fail
  generalize w.alloc (.cells #[.string p, .string q, .int .i64 n, .int .i64 lo, .int .i64 hi, .int .i64 seq] 37) = WA at hal hfl ⊢
  refine (hnm _).mono ?_
  rintro e w1 ⟨rfl, hw1⟩
  rw [hw1]
  clear hnm hw1
  obtain ⟨c0, c1, c2, c3, c4, c5, cf⟩ := hfl.cells
  dsimp only at c0 c1 c2 c3 c4 c5
  clear hfl
  cases hp : pathO p.data.toList with
  | none =>
    have hEE := H1.out
    rw [hp] at hEE
    dsimp only at hEE
    subst hEE
    rw [pathR_none hp]
    clear hp hnw hL hH c0 c1 c2 c3 c4 c5 cf
    go_wp2
    go_ret
    exact ⟨rfl, hal⟩
  | some gn =>
    obtain ⟨g, k⟩ := gn
    have hEE := H1.out
    rw [hp] at hEE
    dsimp only at hEE
    have HEE : Hid (E = if partB g q.data.toList then (if bndB (p, q, n, lo, hi, seq) then 0 else 2) else 4) := hEE
    rw [pathR_some hp]
    clear hp hEE H1
    dsimp only
    go_wp2_with fail
    refine (hnw _).mono ?_
    rintro e w2 ⟨rfl, hw2⟩
    rw [hw2]
    clear hnw hw2
    have hkd : (bytesOf (kindL g)).data.toList = kindL g := bytes_data _
    by_cases hpb : partB g q.data.toList = true
    · have HB : Hid (E = if bndB (p, q, n, lo, hi, seq) then 0 else 2) := by
        show _ = _
        rw [HEE.out, if_pos hpb]
      have HBN : Hid (bndB (p, q, n, lo, hi, seq) = true ↔ 1 ≤ n ∧ n ≤ 40 ∧ inNum lo = true ∧ inNum hi = true ∧ lo ≤ hi ∧ 1 ≤ seq ∧ seq ≤ 1073741824) := by
        show _ ↔ _
        simp only [bndB, cntB, Bool.and_eq_true, decide_eq_true_eq]
        constructor
        · rintro ⟨⟨⟨⟨⟨a1, a2⟩, a3⟩, a4⟩, a5⟩, a6, a7⟩
          exact ⟨a1, a2, a3, a4, a5, a6, a7⟩
        · rintro ⟨a1, a2, a3, a4, a5, a6, a7⟩
          exact ⟨⟨⟨⟨⟨a1, a2⟩, a3⟩, a4⟩, a5⟩, a6, a7⟩
      have bad : ¬ (1 ≤ n ∧ n ≤ 40 ∧ inNum lo = true ∧ inNum hi = true ∧ lo ≤ hi ∧ 1 ≤ seq ∧ seq ≤ 1073741824) → E = 2 := fun hb => by
        rw [HB.out, if_neg (fun e => hb (HBN.out.1 e))]
      have BAD : Hid (¬ (1 ≤ n ∧ n ≤ 40 ∧ inNum lo = true ∧ inNum hi = true ∧ lo ≤ hi ∧ 1 ≤ seq ∧ seq ≤ 1073741824) → E = 2) := bad
      clear bad HEE
      cases g
      · have d1 := neB_of (s := bytesOf (kindL false)) (l := [103, 111, 110, 101]) (by rw [hkd]; decide)
        have d2 := eqB_of (s := bytesOf (kindL false)) (l := [100, 97, 116, 97]) (by rw [hkd]; rfl)
        have hwb : wordB 12 q.data.toList = true := by simpa [partB] using hpb
        rw [hwb]
        generalize bytesOf (kindL false) = kB at d1 d2 ⊢
        clear hkd hpb hwb
        go_wp2_with fail
        refine (hL _).mono ?_
        rintro e w3 ⟨rfl, hw3⟩
        rw [hw3]
        clear hw3 hL
        go_wp2_with fail
        refine (hH _).mono ?_
        rintro e w4 ⟨rfl, hw4⟩
        rw [hw4]
        clear hw4 hH
        by_cases g1 : n < 1
        · obtain rfl := BAD.out (fun ⟨b1, _⟩ => by omega)
          go_wp2
          go_ret
          exact ⟨rfl, hal⟩
        · by_cases g2 : 40 < n
          · obtain rfl := BAD.out (fun ⟨_, b1, _⟩ => by omega)
            go_wp2
            go_ret
            exact ⟨rfl, hal⟩
          · cases g3 : inNum lo with
            | false =>
              obtain rfl := BAD.out (fun ⟨_, _, b1, _⟩ => by rw [g3] at b1; cases b1)
              clear g3
              go_wp2
              go_ret
              exact ⟨rfl, hal⟩
            | true =>
              cases g4 : inNum hi with
              | false =>
                obtain rfl := BAD.out (fun ⟨_, _, _, b1, _⟩ => by rw [g4] at b1; cases b1)
                clear g3 g4
                go_wp2
                go_ret
                exact ⟨rfl, hal⟩
              | true =>
                by_cases g5 : hi < lo
                · obtain rfl := BAD.out (fun ⟨_, _, _, _, b1, _⟩ => by omega)
                  clear g3 g4
                  go_wp2
                  go_ret
                  exact ⟨rfl, hal⟩
                · by_cases g6 : seq < 1
                  · obtain rfl := BAD.out (fun ⟨_, _, _, _, _, b1, _⟩ => by omega)
                    clear g3 g4
                    go_wp2
                    go_ret
                    exact ⟨rfl, hal⟩
                  · by_cases g7 : 1073741824 < seq
                    · obtain rfl := BAD.out (fun ⟨_, _, _, _, _, _, b1⟩ => by omega)
                      clear g3 g4
                      go_wp2
                      go_ret
                      exact ⟨rfl, hal⟩
                    · have hgood : E = 0 := by rw [HB.out, if_pos (HBN.out.2 ⟨by omega, by omega, g3, g4, by omega, by omega, by omega⟩)]
                      subst hgood
                      clear g3 g4
                      go_wp2
                      go_ret
                      exact ⟨rfl, hal⟩
      · have d1 := eqB_of (s := bytesOf (kindL true)) (l := [103, 111, 110, 101]) (by rw [hkd]; rfl)
        have d2 := neB_of (s := bytesOf (kindL true)) (l := [100, 97, 116, 97]) (by rw [hkd]; decide)
        have hqq : q.data.toList = [45] := by simpa [partB] using hpb
        have d3 := eqB_of hqq
        generalize wordB 12 q.data.toList = wb
        generalize bytesOf (kindL true) = kB at d1 d2 ⊢
        clear hkd hpb hqq
        go_wp2_with fail
        refine (hL _).mono ?_
        rintro e w3 ⟨rfl, hw3⟩
        rw [hw3]
        clear hw3 hL
        go_wp2_with fail
        refine (hH _).mono ?_
        rintro e w4 ⟨rfl, hw4⟩
        rw [hw4]
        clear hw4 hH
        by_cases g1 : n < 1
        · obtain rfl := BAD.out (fun ⟨b1, _⟩ => by omega)
          go_wp2
          go_ret
          exact ⟨rfl, hal⟩
        · by_cases g2 : 40 < n
          · obtain rfl := BAD.out (fun ⟨_, b1, _⟩ => by omega)
            go_wp2
            go_ret
            exact ⟨rfl, hal⟩
          · cases g3 : inNum lo with
            | false =>
              obtain rfl := BAD.out (fun ⟨_, _, b1, _⟩ => by rw [g3] at b1; cases b1)
              clear g3
              go_wp2
              go_ret
              exact ⟨rfl, hal⟩
            | true =>
              cases g4 : inNum hi with
              | false =>
                obtain rfl := BAD.out (fun ⟨_, _, _, b1, _⟩ => by rw [g4] at b1; cases b1)
                clear g3 g4
                go_wp2
                go_ret
                exact ⟨rfl, hal⟩
              | true =>
                by_cases g5 : hi < lo
                · obtain rfl := BAD.out (fun ⟨_, _, _, _, b1, _⟩ => by omega)
                  clear g3 g4
                  go_wp2
                  go_ret
                  exact ⟨rfl, hal⟩
                · by_cases g6 : seq < 1
                  · obtain rfl := BAD.out (fun ⟨_, _, _, _, _, b1, _⟩ => by omega)
                    clear g3 g4
                    go_wp2
                    go_ret
                    exact ⟨rfl, hal⟩
                  · by_cases g7 : 1073741824 < seq
                    · obtain rfl := BAD.out (fun ⟨_, _, _, _, _, _, b1⟩ => by omega)
                      clear g3 g4
                      go_wp2
                      go_ret
                      exact ⟨rfl, hal⟩
                    · have hgood : E = 0 := by rw [HB.out, if_pos (HBN.out.2 ⟨by omega, by omega, g3, g4, by omega, by omega, by omega⟩)]
                      subst hgood
                      clear g3 g4
                      go_wp2
                      go_ret
                      exact ⟨rfl, hal⟩
    · have hEE : E = 4 := by rw [HEE.out, if_neg hpb]
      subst hEE
      clear HEE hL hH
      cases g
      · have d1 := neB_of (s := bytesOf (kindL false)) (l := [103, 111, 110, 101]) (by rw [hkd]; decide)
        have d2 := eqB_of (s := bytesOf (kindL false)) (l := [100, 97, 116, 97]) (by rw [hkd]; rfl)
        have hwb : wordB 12 q.data.toList = false := by simpa [partB] using hpb
        rw [hwb]
        generalize bytesOf (kindL false) = kB at d1 d2 ⊢
        clear hkd hpb hwb
        go_wp2
        go_ret
        exact ⟨rfl, hal⟩
      · have d1 := eqB_of (s := bytesOf (kindL true)) (l := [103, 111, 110, 101]) (by rw [hkd]; rfl)
        have hqq : q.data.toList ≠ [45] := by simpa [partB] using hpb
        have d3 := neB_of hqq
        generalize wordB 12 q.data.toList = wb
        generalize bytesOf (kindL true) = kB at d1 ⊢
        clear hkd hpb hqq
        go_wp2
        go_ret
        exact ⟨rfl, hal⟩

end Go.Proofs.YtcpplldfmmpaoaaGreatDoor
namespace Go.Proofs.YtcpplldfmmpaoaaGreatDoor
open Go.RowKit Go.Extern.Stop Go.Stop Go.Extern Go.Sort Go.Shelf Go.Lib

theorem neqF (f : Fl) (w : World) : (binOp .neq 37 (flV f) (flV f)).run Tryz.prog w = .ok (.bool false) w := by
  have u3 := Tryz.underlying3
  have u9 := Tryz.underlying9
  have a3 := Tryz.isAgg3
  have z3 := Tryz.sizeOf3
  have a9 := Tryz.isAgg9
  have z9 := Tryz.sizeOf9
  have hS : Tryz.prog.underlying 37 = some (.struct (Tryz.prog.fieldsOf 37)) := by kernel_rfl
  have hp : Tryz.prog.stoodInHeld 37 = false := by kernel_rfl
  obtain ⟨p, q, n, lo, hi, seq⟩ := f
  unfold flV
  dsimp only
  rw [run_neq_struct, show (10000 : Nat) = 9999 + 1 from rfl, run_equalIn_agg w 9999 37 _ _ hS hp]
  simp only [Program.fieldsOf, Tryz.underlying37]
  go_simp

theorem guardF : GuardAt Tryz.prog 37 flV := GuardAt.agg _ (by kernel_rfl)

def longFB (f : Fl) : Bool := decide (30 < f.1.size) || decide (30 < f.2.1.size)

theorem longFile_any (f : Fl) (w : World) (h1 : f.1.size ≤ maxLen) (h2 : f.2.1.size ≤ maxLen) :
    Calls Tryz.prog 25 #[flV f] w fun e w' => e = .returned (.int .i64 (if longFB f then 1 else 0)) ∧ Below w.heap.size w w' := by
  have hal : Below w.heap.size w (w.alloc (.cells #[.string f.1, .string f.2.1, .int .i64 f.2.2.1, .int .i64 f.2.2.2.1, .int .i64 f.2.2.2.2.1, .int .i64 f.2.2.2.2.2] 37)) := (Below.refl _ _).alloc (Nat.le_refl _) _
  have hfl := FlAt.new w f
  unfold maxLen at h1 h2
  obtain ⟨p, q, n, lo, hi, seq⟩ := f
  unfold flV longFB
  dsimp only at h1 h2 hal hfl ⊢
  by_cases hp : 30 < p.size
  · have e : (decide (30 < p.size) || decide (30 < q.size)) = true := by simp [hp]
    rw [e, if_pos rfl]
    clear e
    go_enter Tryz.func25, Tryz.ntmps25
    go_wp2
    go_ret
    exact ⟨rfl, hal⟩
  · by_cases hq : 30 < q.size
    · have e : (decide (30 < p.size) || decide (30 < q.size)) = true := by simp [hq]
      rw [e, if_pos rfl]
      clear e
      go_enter Tryz.func25, Tryz.ntmps25
      go_wp2
      go_ret
      exact ⟨rfl, hal⟩
    · have e : (decide (30 < p.size) || decide (30 < q.size)) = false := by simp [hp, hq]
      rw [e, if_neg (by simp)]
      clear e
      go_enter Tryz.func25, Tryz.ntmps25
      go_wp2
      go_ret
      exact ⟨rfl, hal⟩
end Go.Proofs.YtcpplldfmmpaoaaGreatDoor
namespace Go.Proofs.YtcpplldfmmpaoaaGreatDoor
open Go.RowKit Go.Extern.Stop Go.Stop Go.Extern Go.Sort Go.Shelf Go.Lib

theorem cells6 (w : World) (f : Fl) : ∀ j u, (encF f)[j]? = some u → (w.alloc (.cells #[.string f.1, .string f.2.1, .int .i64 f.2.2.1, .int .i64 f.2.2.2.1, .int .i64 f.2.2.2.2.1, .int .i64 f.2.2.2.2.2] 37)).cell? ((⟨w.heap.size, 0, none⟩ : Addr).add j) = some u := by
  intro j u hu
  rw [Addr.add_lit, Nat.zero_add, cell_of_row _ _ _ _ _ _ (heap_alloc_new _ _)]
  rw [← hu]
  simp [encF]

set_option maxRecDepth 100000 in
set_option maxHeartbeats 2000000 in
theorem isBehind_any (p q : ByteArray) (w : World) (h1 : p.size ≤ 100000) (h2 : q.size ≤ 100000) :
    Calls Tryz.prog 69 #[.string p, .string q] w fun e w' => e = .returned (.bool (decide (pk q.data.toList < pk p.data.toList))) ∧ w' = w := by
  have ha := pathOf_any p w h1
  have hb := pathOf_any q w h2
  have hpp := @pk_some p.data.toList
  have hpq := @pk_some q.data.toList
  have key : ∀ s : List UInt8, (pathR s = ([], 0, 5) ∧ pk s = 0) ∨ (∃ n : Int, pathR s = (kData, n, 0) ∧ pk s = n ∧ 1 ≤ n ∧ n ≤ 1073741824) ∨ ∃ n : Int, pathR s = (kGone, n, 0) ∧ pk s = 1073741824 + n ∧ 1 ≤ n ∧ n ≤ 1073741824 := fun s => by
    cases hs : pathO s with
    | none => exact Or.inl ⟨pathR_none hs, by unfold pk; rw [hs]⟩
    | some gn =>
      obtain ⟨g, n⟩ := gn
      obtain ⟨e, b1, b2⟩ := pk_some hs
      cases g
      · exact Or.inr (Or.inl ⟨n, pathR_some hs, by simpa using e, b1, b2⟩)
      · exact Or.inr (Or.inr ⟨n, pathR_some hs, by simpa using e, b1, b2⟩)
  have ka := key p.data.toList
  have kb := key q.data.toList
  generalize pk p.data.toList = A at ka
  generalize pk q.data.toList = B at kb
  generalize pathR p.data.toList = RA at ha ka
  generalize pathR q.data.toList = RB at hb kb
  clear key hpp hpq h1 h2
  have eD : bytesOf kData = ⟨#[100, 97, 116, 97]⟩ := rfl
  have eG : bytesOf kGone = ⟨#[103, 111, 110, 101]⟩ := rfl
  have eE : bytesOf [] = ⟨#[]⟩ := rfl
  rcases ka with ⟨rfl, rfl⟩ | ⟨n, rfl, rfl, n1, n2⟩ | ⟨n, rfl, rfl, n1, n2⟩ <;> rcases kb with ⟨rfl, rfl⟩ | ⟨m, rfl, rfl, m1, m2⟩ | ⟨m, rfl, rfl, m1, m2⟩
  · dsimp only at ha hb
    rw [eE] at ha
    rw [eE] at hb
    go_enter Tryz.func69, Tryz.ntmps69
    go_wp2_with fail
    refine ha.mono ?_
    rintro e w1 ⟨rfl, hw1⟩
    rw [hw1]
    clear ha hw1
    go_wp2_with fail
    refine hb.mono ?_
    rintro e w2 ⟨rfl, hw2⟩
    rw [hw2]
    clear hb hw2
    go_wp2
    go_ret
    exact ⟨rfl, rfl⟩
  · dsimp only at ha hb
    rw [eE] at ha
    rw [eD] at hb
    have hd : decide ((B : Int) < 0) = false := decide_eq_false (by omega)
    rw [hd]
    clear hd
    have hg : ∀ W : World, (binOp .gtr 9 (.string ⟨#[]⟩) (.string ⟨#[100, 97, 116, 97]⟩)).run Tryz.prog W = .ok (.bool false) W := fun W => by first | rfl | kernel_rfl | simp [binOp, Op.stringOp]
    go_enter Tryz.func69, Tryz.ntmps69
    go_wp2_with fail
    refine ha.mono ?_
    rintro e w1 ⟨rfl, hw1⟩
    rw [hw1]
    clear ha hw1
    go_wp2_with fail
    refine hb.mono ?_
    rintro e w2 ⟨rfl, hw2⟩
    rw [hw2]
    clear hb hw2
    go_wp2
    go_ret
    exact ⟨rfl, rfl⟩
  · dsimp only at ha hb
    rw [eE] at ha
    rw [eG] at hb
    have hd : decide ((1073741824 + m : Int) < 0) = false := decide_eq_false (by omega)
    rw [hd]
    clear hd
    have hg : ∀ W : World, (binOp .gtr 9 (.string ⟨#[]⟩) (.string ⟨#[103, 111, 110, 101]⟩)).run Tryz.prog W = .ok (.bool false) W := fun W => by first | rfl | kernel_rfl | simp [binOp, Op.stringOp]
    go_enter Tryz.func69, Tryz.ntmps69
    go_wp2_with fail
    refine ha.mono ?_
    rintro e w1 ⟨rfl, hw1⟩
    rw [hw1]
    clear ha hw1
    go_wp2_with fail
    refine hb.mono ?_
    rintro e w2 ⟨rfl, hw2⟩
    rw [hw2]
    clear hb hw2
    go_wp2
    go_ret
    exact ⟨rfl, rfl⟩
  · dsimp only at ha hb
    rw [eD] at ha
    rw [eE] at hb
    have hd : decide ((0 : Int) < A) = true := decide_eq_true (by omega)
    rw [hd]
    clear hd
    have hg : ∀ W : World, (binOp .gtr 9 (.string ⟨#[100, 97, 116, 97]⟩) (.string ⟨#[]⟩)).run Tryz.prog W = .ok (.bool true) W := fun W => by first | rfl | kernel_rfl | simp [binOp, Op.stringOp]
    go_enter Tryz.func69, Tryz.ntmps69
    go_wp2_with fail
    refine ha.mono ?_
    rintro e w1 ⟨rfl, hw1⟩
    rw [hw1]
    clear ha hw1
    go_wp2_with fail
    refine hb.mono ?_
    rintro e w2 ⟨rfl, hw2⟩
    rw [hw2]
    clear hb hw2
    go_wp2
    go_ret
    exact ⟨rfl, rfl⟩
  · dsimp only at ha hb
    rw [eD] at ha
    rw [eD] at hb
    go_enter Tryz.func69, Tryz.ntmps69
    go_wp2_with fail
    refine ha.mono ?_
    rintro e w1 ⟨rfl, hw1⟩
    rw [hw1]
    clear ha hw1
    go_wp2_with fail
    refine hb.mono ?_
    rintro e w2 ⟨rfl, hw2⟩
    rw [hw2]
    clear hb hw2
    go_wp2
    go_ret
    exact ⟨rfl, rfl⟩
  · dsimp only at ha hb
    rw [eD] at ha
    rw [eG] at hb
    have hd : decide ((1073741824 + m : Int) < A) = false := decide_eq_false (by omega)
    rw [hd]
    clear hd
    have hg : ∀ W : World, (binOp .gtr 9 (.string ⟨#[100, 97, 116, 97]⟩) (.string ⟨#[103, 111, 110, 101]⟩)).run Tryz.prog W = .ok (.bool false) W := fun W => by first | rfl | kernel_rfl | simp [binOp, Op.stringOp]
    go_enter Tryz.func69, Tryz.ntmps69
    go_wp2_with fail
    refine ha.mono ?_
    rintro e w1 ⟨rfl, hw1⟩
    rw [hw1]
    clear ha hw1
    go_wp2_with fail
    refine hb.mono ?_
    rintro e w2 ⟨rfl, hw2⟩
    rw [hw2]
    clear hb hw2
    go_wp2
    go_ret
    exact ⟨rfl, rfl⟩
  · dsimp only at ha hb
    rw [eG] at ha
    rw [eE] at hb
    have hd : decide ((0 : Int) < 1073741824 + n) = true := decide_eq_true (by omega)
    rw [hd]
    clear hd
    have hg : ∀ W : World, (binOp .gtr 9 (.string ⟨#[103, 111, 110, 101]⟩) (.string ⟨#[]⟩)).run Tryz.prog W = .ok (.bool true) W := fun W => by first | rfl | kernel_rfl | simp [binOp, Op.stringOp]
    go_enter Tryz.func69, Tryz.ntmps69
    go_wp2_with fail
    refine ha.mono ?_
    rintro e w1 ⟨rfl, hw1⟩
    rw [hw1]
    clear ha hw1
    go_wp2_with fail
    refine hb.mono ?_
    rintro e w2 ⟨rfl, hw2⟩
    rw [hw2]
    clear hb hw2
    go_wp2
    go_ret
    exact ⟨rfl, rfl⟩
  · dsimp only at ha hb
    rw [eG] at ha
    rw [eD] at hb
    have hd : decide ((B : Int) < 1073741824 + n) = true := decide_eq_true (by omega)
    rw [hd]
    clear hd
    have hg : ∀ W : World, (binOp .gtr 9 (.string ⟨#[103, 111, 110, 101]⟩) (.string ⟨#[100, 97, 116, 97]⟩)).run Tryz.prog W = .ok (.bool true) W := fun W => by first | rfl | kernel_rfl | simp [binOp, Op.stringOp]
    go_enter Tryz.func69, Tryz.ntmps69
    go_wp2_with fail
    refine ha.mono ?_
    rintro e w1 ⟨rfl, hw1⟩
    rw [hw1]
    clear ha hw1
    go_wp2_with fail
    refine hb.mono ?_
    rintro e w2 ⟨rfl, hw2⟩
    rw [hw2]
    clear hb hw2
    go_wp2
    go_ret
    exact ⟨rfl, rfl⟩
  · dsimp only at ha hb
    rw [eG] at ha
    rw [eG] at hb
    go_enter Tryz.func69, Tryz.ntmps69
    go_wp2_with fail
    refine ha.mono ?_
    rintro e w1 ⟨rfl, hw1⟩
    rw [hw1]
    clear ha hw1
    go_wp2_with fail
    refine hb.mono ?_
    rintro e w2 ⟨rfl, hw2⟩
    rw [hw2]
    clear hb hw2
    go_wp2
    go_ret
    exact ⟨congrArg (fun b => Ending.returned (Value.bool b)) (by first | rfl | (simp <;> omega)), rfl⟩

def findF (fs : List Fl) (p : ByteArray) : Int := match fs.findIdx? (fun f => decide (f.1 = p)) with
  | some i => i
  | none => -1

theorem findF_at {fs : List Fl} {p : ByteArray} {n : Nat} (hn : n < fs.length) (h : ∀ j (h : j < fs.length), j < n → fs[j].1 ≠ p) (e : fs[n].1 = p) : findF fs p = n := by
  unfold findF
  have : fs.findIdx? (fun f => decide (f.1 = p)) = some n := by
    rw [List.findIdx?_eq_some_iff_getElem]
    exact ⟨hn, by simpa using e, fun j hj => by simpa using h j (by omega) hj⟩
  rw [this]
theorem findF_no {fs : List Fl} {p : ByteArray} (h : ∀ j (h : j < fs.length), fs[j].1 ≠ p) : findF fs p = -1 := by
  unfold findF
  have : fs.findIdx? (fun f => decide (f.1 = p)) = none := by
    rw [List.findIdx?_eq_none_iff]
    intro f hf
    obtain ⟨j, hj, rfl⟩ := List.mem_iff_getElem.1 hf
    simpa using h j hj
  rw [this]

theorem nopath_succ {fs : List Fl} {n : Nat} {p : ByteArray} (h : ∀ j (h : j < fs.length), j < n → fs[j].1 ≠ p) (hn : n < fs.length) (e : fs[n].1 ≠ p) : ∀ j (h : j < fs.length), j < n + 1 → fs[j].1 ≠ p := fun j hj hjn => by
  rcases Nat.lt_or_ge j n with h' | h'
  · exact h j hj h'
  · obtain rfl : j = n := by omega
    exact e

set_option maxRecDepth 100000 in
set_option maxHeartbeats 2000000 in
theorem findOf_any (v : Value) (fs : List Fl) (p : ByteArray) (w : World) (hx : FlsAt w v fs) (hl : fs.length ≤ 20000) :
    Calls Tryz.prog 14 #[v, .string p] w fun e w' => e = .returned (.int .i64 (findF fs p)) ∧ w' = w := by
  obtain ⟨q, cap, rfl⟩ := hx.form
  have HFX : Hid (FlsAt w (.slice q fs.length cap) fs) := hx
  obtain ⟨L, hL⟩ : ∃ L, fs.length = L := ⟨_, rfl⟩
  have HX : Hid (fs.length = L) := hL
  rw [hL] at hl ⊢
  generalize hR : findF fs p = R
  have HR : Hid (findF fs p = R) := hR
  clear hL hx hR
  go_enter Tryz.func14, Tryz.ntmps14
  go_wp2
  go_loop [5] (fun k => ∃ n : Nat, n ≤ L ∧ k = .int .i64 n ∧ ∀ j (h : j < fs.length), j < n → fs[j].1 ≠ p) (fun k => L - (intOf k).toNat)
  case atStart => exact ⟨0, by omega, rfl, fun j h h' => absurd h' (Nat.not_lt_zero _)⟩
  case round =>
    obtain ⟨n, hn, rfl, hno⟩ := hrel
    have HNO : Hid (∀ j (h : j < fs.length), j < n → fs[j].1 ≠ p) := hno
    clear hno
    by_cases hlt : n < L
    · have hltx : n < fs.length := by rw [HX.out]; exact hlt
      obtain ⟨b, o, hq, hc⟩ := HFX.out.cells (fun e => by rw [e] at hltx; simp at hltx)
      subst hq
      have c0 := (hc n hltx).1
      have hi : (n : Int) < (L : Int) := by omega
      have hi0' : (0 : Int) ≤ (n : Int) := by omega
      by_cases he : fs[n].1 = p
      · have hRR : R = n := by rw [← HR.out]; exact findF_at hltx HNO.out he
        subst hRR
        rw [he] at c0
        have d1 : (p.toList == p.toList) = true := by simp
        clear hc he hltx
        go_wp2
        go_ret
        exact ⟨rfl, rfl⟩
      · have HN1 : Hid (∀ j (h : j < fs.length), j < n + 1 → fs[j].1 ≠ p) := nopath_succ HNO.out hltx he
        have d1 : (fs[n].1.toList == p.toList) = false := neBB (fun e => he (part_ext e))
        generalize fs[n].1 = fp at c0 d1
        clear hc he hltx
        go_wp2
        go_round
        case rel => exact ⟨n + 1, by omega, by go_num, HN1.out⟩
        case measure => simp [intOf]; omega
    · obtain rfl : n = L := by omega
      have hRR : R = -1 := by rw [← HR.out]; exact findF_no (fun j hj => HNO.out j hj (by rw [← HX.out]; exact hj))
      subst hRR
      go_wp2
      go_ret
      exact ⟨rfl, rfl⟩

def kept (P : Fl → Bool) (fs : List Fl) (n : Nat) : List Fl := (fs.take n).filter P
theorem kept_zero (P : Fl → Bool) (fs : List Fl) : kept P fs 0 = [] := by simp [kept]
theorem kept_len (P : Fl → Bool) (fs : List Fl) (n : Nat) : (kept P fs n).length ≤ n := by
  have := List.length_filter_le P (fs.take n)
  rw [List.length_take] at this
  unfold kept
  omega
theorem kept_succ (P : Fl → Bool) (fs : List Fl) (n : Nat) (h : n < fs.length) : kept P fs (n + 1) = if P fs[n] = true then kept P fs n ++ [fs[n]] else kept P fs n := by
  unfold kept
  rw [← List.take_append_getElem h, List.filter_append]
  split
  · rename_i hp; rw [List.filter_cons_of_pos hp]; rfl
  · rename_i hp; rw [List.filter_cons_of_neg hp]; simp
theorem kept_all (P : Fl → Bool) (fs : List Fl) : kept P fs fs.length = fs.filter P := by unfold kept; rw [List.take_length]

def offP (p : ByteArray) (f : Fl) : Bool := decide (f.1 ≠ p)
set_option maxRecDepth 100000 in
set_option maxHeartbeats 4000000 in
theorem without_any (v : Value) (fs : List Fl) (p : ByteArray) (w : World) (hx : FlsAt w v fs) (hl : fs.length ≤ 20000) :
    Calls Tryz.prog 43 #[v, .string p] w fun e w' => ∃ v', e = .returned v' ∧ FlsAt w' v' (fs.filter (offP p)) ∧ Below w.heap.size w w' := by
  obtain ⟨i0, hi0, hz0, hs0, hby0⟩ := Tryz.fileInfo
  obtain ⟨q, cap, rfl⟩ := hx.form
  have HFX : Hid (FlsAt w (.slice q fs.length cap) fs) := hx
  obtain ⟨L, hL⟩ : ∃ L, fs.length = L := ⟨_, rfl⟩
  have HX : Hid (fs.length = L) := hL
  rw [hL] at hl ⊢
  clear hL hx
  go_enter Tryz.func43, Tryz.ntmps43
  go_wp2
  go_loopw [5, 6] (fun out k wr => ∃ n : Nat, n ≤ L ∧ k = .int .i64 n ∧ Below w.heap.size w wr ∧ wr.ownsRow w.heap.size 37 6 out (kept (offP p) fs n).length (flatF (kept (offP p) fs n))) (fun _ k _ => L - (intOf k).toNat)
  case atStart => exact ⟨0, by omega, rfl, Below.refl _ _, by rw [kept_zero]; exact World.ownsRow_nil _ _ _ _⟩
  case round =>
    obtain ⟨n, hn, rfl, hb, hown⟩ := hrel
    have OW : Hid (wr.ownsRow w.heap.size 37 6 u5 (kept (offP p) fs n).length (flatF (kept (offP p) fs n))) := hown
    clear hown
    by_cases hlt : n < L
    · have hltx : n < fs.length := by rw [HX.out]; exact hlt
      obtain ⟨b, o, hq, hc⟩ := (HFX.out.below hb).cells (fun e => by rw [e] at hltx; simp at hltx)
      subst hq
      obtain ⟨c0, c1, c2, c3, c4, c5⟩ := hc n hltx
      have HKL : Hid ((kept (offP p) fs n).length ≤ L) := by
        show _ ≤ _
        have := kept_len (offP p) fs n
        omega
      have hke : (kept (offP p) fs (n + 1)) = if (offP p) fs[n] = true then (kept (offP p) fs n) ++ [fs[n]] else (kept (offP p) fs n) := kept_succ (offP p) fs n hltx
      generalize fs[n] = f at c0 c1 c2 c3 c4 c5 hke
      obtain ⟨fp, fq, fn, flo, fhi, fseq⟩ := f
      dsimp only at c0 c1 c2 c3 c4 c5
      have hiL : (n : Int) < (L : Int) := by omega
      have hi0' : (0 : Int) ≤ (n : Int) := by omega
      have hal : Below wr.heap.size wr (wr.alloc (.cells #[.string fp, .string fq, .int .i64 fn, .int .i64 flo, .int .i64 fhi, .int .i64 fseq] 37)) := (Below.refl _ _).alloc (Nat.le_refl _) _
      have hbA : Below w.heap.size w (wr.alloc (.cells #[.string fp, .string fq, .int .i64 fn, .int .i64 flo, .int .i64 fhi, .int .i64 fseq] 37)) := hb.alloc hb.size _
      clear hc hltx
      by_cases he : fp = p
      · have d1 : (fp.toList == p.toList) = true := eqBB (by rw [he])
        have HKE : Hid ((kept (offP p) fs (n + 1)) = (kept (offP p) fs n)) := by
          show _ = _
          rw [hke, if_neg (by simp [offP, he])]
        clear hke hal hbA
        go_wp2
        go_roundw
        case rel => exact ⟨n + 1, by omega, by go_num, hb, by rw [HKE.out]; exact OW.out⟩
        case measure => simp [intOf]; omega
      · have d1 : (fp.toList == p.toList) = false := neBB (fun e => he (part_ext e))
        have HKE : Hid ((kept (offP p) fs (n + 1)) = (kept (offP p) fs n) ++ [(fp, fq, fn, flo, fhi, fseq)]) := by
          show _ = _
          rw [hke, if_pos (by simp [offP, he])]
        clear hke
        go_wp2_with (at_builtin; refine wpList_append_own _ rfl _ _ 22 rfl w.heap.size 37 i0 (.agg #[.string ⟨#[]⟩, .string ⟨#[]⟩, .int .i64 0, .int .i64 0, .int .i64 0, .int .i64 0]) 6 64 Tryz.underlying22 hi0 hz0 hs0 hby0 rfl (by decide) u5 (kept (offP p) fs n).length (flatF (kept (offP p) fs n)) rfl ?qc0 ⟨wr.heap.size, 0, none⟩ 1 1 (encF (fp, fq, fn, flo, fhi, fseq)) rfl ?qc1 ?qc2 ?qc3 ?qc4 ?qc5 ?qc6 ?_)
        case qc0 => exact own_below OW.out hal
        case qc1 => rfl
        case qc2 => first | exact cells6 _ _ | exact fun j u hu => hu
        case qc3 => exact encF_one _
        case qc4 => have := HKL.out; unfold maxLen; omega
        case qc5 => have := HKL.out; omega
        case qc6 => first | exact hbA.size | (have := hb.size; omega)
        intro v' w4 hown4 hgrow hnil
        have hbC : Below w.heap.size w w4 := hbA.grown hgrow hbA.size (fun k hk => by
          rcases OW.out.2 with ⟨e, _⟩ | ⟨g', cap', cur, e, hg', _⟩
          · rw [e] at hk; simp [Value.ownBlock] at hk
          · rw [e] at hk; simp [Value.ownBlock] at hk; omega)
        have OW4 : Hid (w4.ownsRow w.heap.size 37 6 v' ((kept (offP p) fs n).length + 1) (flatF (kept (offP p) fs n) ++ encF (fp, fq, fn, flo, fhi, fseq))) := hown4
        clear hown4 hnil hgrow
        go_wp2
        go_roundw
        case rel => exact ⟨n + 1, by omega, by go_num, hbC, by rw [HKE.out, List.length_append, flatF_append]; simpa [flatF] using OW4.out⟩
        case measure => simp [intOf]; omega
    · obtain rfl : n = L := by omega
      have HKA : Hid (FlsAt wr u5 (fs.filter (offP p))) := by
        have h' := (flsAt_of_own OW.out).1
        rw [← HX.out, kept_all] at h'
        exact h'
      go_wp2
      go_ret
      exact ⟨_, rfl, HKA.out, hb⟩

end Go.Proofs.YtcpplldfmmpaoaaGreatDoor
