/-
  The contracts of the document's own FileError and FileText.
-/
import Derived.Test.YtpkoefpdpoikkaaGreatDoorRefPath
namespace Go.Proofs.YtpkoefpdpoikkaaGreatDoor
open Go.RowKit Go.Extern.Stop Go.Stop Go.Extern Go.Sort Go.Shelf Go.Lib

set_option maxRecDepth 100000 in
set_option maxHeartbeats 4000000 in
theorem fileError_any (f : Fl) (w : World) (h1 : f.1.size ≤ 100000) (h2 : f.2.1.size ≤ 100000) :
    Calls Tryz.prog 21 #[flV f] w fun e w' => e = .returned (.int .i64 (fileE f)) ∧ Below w.heap.size w w' := by
  have hal : Below w.heap.size w (w.alloc (.cells #[.string f.1, .string f.2.1, .int .i64 f.2.2.1, .int .i64 f.2.2.2.1, .int .i64 f.2.2.2.2.1, .int .i64 f.2.2.2.2.2] 23)) := (Below.refl _ _).alloc (Nat.le_refl _) _
  have hfl := FlAt.new w f
  obtain ⟨p, q, n, lo, hi, seq⟩ := f
  dsimp only at h1 h2 hal
  have hnm := fun W => pathOf_any p W h1
  have hnw := fun W => isWord_any q 12 W (by unfold maxLen; omega)
  have hL := fun W => isFar_any lo W
  have hH := fun W => isFar_any hi W
  unfold flV
  dsimp only
  generalize hE : fileE (p, q, n, lo, hi, seq) = E
  have HE : Hid (fileE (p, q, n, lo, hi, seq) = E) := hE
  clear hE
  have H1 : Hid (E = match pathO p.data.toList with
    | none => 5
    | some (g, _) => if partB g q.data.toList then (if bndB (p, q, n, lo, hi, seq) then 0 else 2) else 4) := by
    show _ = _
    rw [← HE.out]; rfl
  clear HE
  go_enter Tryz.func21, Tryz.ntmps21
  go_wp2_with fail
  generalize w.alloc (.cells #[.string p, .string q, .int .i64 n, .int .i64 lo, .int .i64 hi, .int .i64 seq] 23) = WA at hal hfl ⊢
  refine (hnm _).mono ?_
  rintro e w1 ⟨rfl, hw1⟩
  rw [hw1]
  clear hnm hw1
  obtain ⟨c0, c1, c2, c3, c4, c5, cf⟩ := hfl.cells
  dsimp only at c0 c1 c2 c3 c4 c5
  clear hfl
  cases hp : pathO p.data.toList with
  | none =>
    have hEE := H1.out
    rw [hp] at hEE
    dsimp only at hEE
    subst hEE
    rw [pathR_none hp]
    clear hp hnw hL hH c0 c1 c2 c3 c4 c5 cf
    go_wp2
    go_ret
    exact ⟨rfl, hal⟩
  | some gn =>
    obtain ⟨g, k⟩ := gn
    have hEE := H1.out
    rw [hp] at hEE
    dsimp only at hEE
    have HEE : Hid (E = if partB g q.data.toList then (if bndB (p, q, n, lo, hi, seq) then 0 else 2) else 4) := hEE
    rw [pathR_some hp]
    clear hp hEE H1
    dsimp only
    go_wp2_with fail
    refine (hnw _).mono ?_
    rintro e w2 ⟨rfl, hw2⟩
    rw [hw2]
    clear hnw hw2
    have hkd : (bytesOf (kindL g)).data.toList = kindL g := bytes_data _
    by_cases hpb : partB g q.data.toList = true
    · have HB : Hid (E = if bndB (p, q, n, lo, hi, seq) then 0 else 2) := by
        show _ = _
        rw [HEE.out, if_pos hpb]
      have HBN : Hid (bndB (p, q, n, lo, hi, seq) = true ↔ 1 ≤ n ∧ n ≤ 40 ∧ inNum lo = true ∧ inNum hi = true ∧ lo ≤ hi ∧ 1 ≤ seq ∧ seq ≤ 1073741824) := by
        show _ ↔ _
        simp only [bndB, cntB, Bool.and_eq_true, decide_eq_true_eq]
        constructor
        · rintro ⟨⟨⟨⟨⟨a1, a2⟩, a3⟩, a4⟩, a5⟩, a6, a7⟩
          exact ⟨a1, a2, a3, a4, a5, a6, a7⟩
        · rintro ⟨a1, a2, a3, a4, a5, a6, a7⟩
          exact ⟨⟨⟨⟨⟨a1, a2⟩, a3⟩, a4⟩, a5⟩, a6, a7⟩
      have bad : ¬ (1 ≤ n ∧ n ≤ 40 ∧ inNum lo = true ∧ inNum hi = true ∧ lo ≤ hi ∧ 1 ≤ seq ∧ seq ≤ 1073741824) → E = 2 := fun hb => by
        rw [HB.out, if_neg (fun e => hb (HBN.out.1 e))]
      have BAD : Hid (¬ (1 ≤ n ∧ n ≤ 40 ∧ inNum lo = true ∧ inNum hi = true ∧ lo ≤ hi ∧ 1 ≤ seq ∧ seq ≤ 1073741824) → E = 2) := bad
      clear bad HEE
      cases g
      · have d1 := neB_of (s := bytesOf (kindL false)) (l := [103, 111, 110, 101]) (by rw [hkd]; decide)
        have d2 := eqB_of (s := bytesOf (kindL false)) (l := [100, 97, 116, 97]) (by rw [hkd]; rfl)
        have hwb : wordB 12 q.data.toList = true := by simpa [partB] using hpb
        rw [hwb]
        generalize bytesOf (kindL false) = kB at d1 d2 ⊢
        clear hkd hpb hwb
        go_wp2_with fail
        refine (hL _).mono ?_
        rintro e w3 ⟨rfl, hw3⟩
        rw [hw3]
        clear hw3 hL
        go_wp2_with fail
        refine (hH _).mono ?_
        rintro e w4 ⟨rfl, hw4⟩
        rw [hw4]
        clear hw4 hH
        by_cases g1 : n < 1
        · obtain rfl := BAD.out (fun ⟨b1, _⟩ => by omega)
          go_wp2
          go_ret
          exact ⟨rfl, hal⟩
        · by_cases g2 : 40 < n
          · obtain rfl := BAD.out (fun ⟨_, b1, _⟩ => by omega)
            go_wp2
            go_ret
            exact ⟨rfl, hal⟩
          · cases g3 : inNum lo with
            | false =>
              obtain rfl := BAD.out (fun ⟨_, _, b1, _⟩ => by rw [g3] at b1; cases b1)
              clear g3
              go_wp2
              go_ret
              exact ⟨rfl, hal⟩
            | true =>
              cases g4 : inNum hi with
              | false =>
                obtain rfl := BAD.out (fun ⟨_, _, _, b1, _⟩ => by rw [g4] at b1; cases b1)
                clear g3 g4
                go_wp2
                go_ret
                exact ⟨rfl, hal⟩
              | true =>
                by_cases g5 : hi < lo
                · obtain rfl := BAD.out (fun ⟨_, _, _, _, b1, _⟩ => by omega)
                  clear g3 g4
                  go_wp2
                  go_ret
                  exact ⟨rfl, hal⟩
                · by_cases g6 : seq < 1
                  · obtain rfl := BAD.out (fun ⟨_, _, _, _, _, b1, _⟩ => by omega)
                    clear g3 g4
                    go_wp2
                    go_ret
                    exact ⟨rfl, hal⟩
                  · by_cases g7 : 1073741824 < seq
                    · obtain rfl := BAD.out (fun ⟨_, _, _, _, _, _, b1⟩ => by omega)
                      clear g3 g4
                      go_wp2
                      go_ret
                      exact ⟨rfl, hal⟩
                    · have hgood : E = 0 := by rw [HB.out, if_pos (HBN.out.2 ⟨by omega, by omega, g3, g4, by omega, by omega, by omega⟩)]
                      subst hgood
                      clear g3 g4
                      go_wp2
                      go_ret
                      exact ⟨rfl, hal⟩
      · have d1 := eqB_of (s := bytesOf (kindL true)) (l := [103, 111, 110, 101]) (by rw [hkd]; rfl)
        have d2 := neB_of (s := bytesOf (kindL true)) (l := [100, 97, 116, 97]) (by rw [hkd]; decide)
        have hqq : q.data.toList = [45] := by simpa [partB] using hpb
        have d3 := eqB_of hqq
        generalize wordB 12 q.data.toList = wb
        generalize bytesOf (kindL true) = kB at d1 d2 ⊢
        clear hkd hpb hqq
        go_wp2_with fail
        refine (hL _).mono ?_
        rintro e w3 ⟨rfl, hw3⟩
        rw [hw3]
        clear hw3 hL
        go_wp2_with fail
        refine (hH _).mono ?_
        rintro e w4 ⟨rfl, hw4⟩
        rw [hw4]
        clear hw4 hH
        by_cases g1 : n < 1
        · obtain rfl := BAD.out (fun ⟨b1, _⟩ => by omega)
          go_wp2
          go_ret
          exact ⟨rfl, hal⟩
        · by_cases g2 : 40 < n
          · obtain rfl := BAD.out (fun ⟨_, b1, _⟩ => by omega)
            go_wp2
            go_ret
            exact ⟨rfl, hal⟩
          · cases g3 : inNum lo with
            | false =>
              obtain rfl := BAD.out (fun ⟨_, _, b1, _⟩ => by rw [g3] at b1; cases b1)
              clear g3
              go_wp2
              go_ret
              exact ⟨rfl, hal⟩
            | true =>
              cases g4 : inNum hi with
              | false =>
                obtain rfl := BAD.out (fun ⟨_, _, _, b1, _⟩ => by rw [g4] at b1; cases b1)
                clear g3 g4
                go_wp2
                go_ret
                exact ⟨rfl, hal⟩
              | true =>
                by_cases g5 : hi < lo
                · obtain rfl := BAD.out (fun ⟨_, _, _, _, b1, _⟩ => by omega)
                  clear g3 g4
                  go_wp2
                  go_ret
                  exact ⟨rfl, hal⟩
                · by_cases g6 : seq < 1
                  · obtain rfl := BAD.out (fun ⟨_, _, _, _, _, b1, _⟩ => by omega)
                    clear g3 g4
                    go_wp2
                    go_ret
                    exact ⟨rfl, hal⟩
                  · by_cases g7 : 1073741824 < seq
                    · obtain rfl := BAD.out (fun ⟨_, _, _, _, _, _, b1⟩ => by omega)
                      clear g3 g4
                      go_wp2
                      go_ret
                      exact ⟨rfl, hal⟩
                    · have hgood : E = 0 := by rw [HB.out, if_pos (HBN.out.2 ⟨by omega, by omega, g3, g4, by omega, by omega, by omega⟩)]
                      subst hgood
                      clear g3 g4
                      go_wp2
                      go_ret
                      exact ⟨rfl, hal⟩
    · have hEE : E = 4 := by rw [HEE.out, if_neg hpb]
      subst hEE
      clear HEE hL hH
      cases g
      · have d1 := neB_of (s := bytesOf (kindL false)) (l := [103, 111, 110, 101]) (by rw [hkd]; decide)
        have d2 := eqB_of (s := bytesOf (kindL false)) (l := [100, 97, 116, 97]) (by rw [hkd]; rfl)
        have hwb : wordB 12 q.data.toList = false := by simpa [partB] using hpb
        rw [hwb]
        generalize bytesOf (kindL false) = kB at d1 d2 ⊢
        clear hkd hpb hwb
        go_wp2
        go_ret
        exact ⟨rfl, hal⟩
      · have d1 := eqB_of (s := bytesOf (kindL true)) (l := [103, 111, 110, 101]) (by rw [hkd]; rfl)
        have hqq : q.data.toList ≠ [45] := by simpa [partB] using hpb
        have d3 := neB_of hqq
        generalize wordB 12 q.data.toList = wb
        generalize bytesOf (kindL true) = kB at d1 ⊢
        clear hkd hpb hqq
        go_wp2
        go_ret
        exact ⟨rfl, hal⟩

set_option maxRecDepth 100000 in
set_option maxHeartbeats 8000000 in
theorem fileText_any (f : Fl) (w : World) (h1 : f.1.size ≤ 100000) (h2 : f.2.1.size ≤ 100000) :
    Calls Tryz.prog 22 #[flV f] w fun e w' => e = .returned (.string (fileB f)) ∧ Below w.heap.size w w' := by
  have hal : Below w.heap.size w (w.alloc (.cells #[.string f.1, .string f.2.1, .int .i64 f.2.2.1, .int .i64 f.2.2.2.1, .int .i64 f.2.2.2.2.1, .int .i64 f.2.2.2.2.2] 23)) := (Below.refl _ _).alloc (Nat.le_refl _) _
  have hfl := FlAt.new w f
  have hck := fun W => fileError_any f W h1 h2
  have hbd : fileE f = 0 → (inNum f.2.2.1 = true ∧ inNum f.2.2.2.1 = true ∧ inNum f.2.2.2.2.1 = true ∧ inNum f.2.2.2.2.2 = true) := fun he => let ⟨_, _, _, _, hb⟩ := file_good he; bnd_nums hb
  unfold fileB
  by_cases he : fileE f = 0
  · rw [if_pos he]
    rw [he] at hck
    have hb := hbd he
    clear hbd he
    obtain ⟨p, q, n, lo, hi, seq⟩ := f
    dsimp only at h1 h2 hal hb
    unfold flV at hck ⊢
    dsimp only at hck ⊢
    obtain ⟨b1, b2, b3, b4⟩ := hb
    have sz : ∀ m : Int, inNum m = true → (bytesOf (itoa m)).size ≤ 11 := fun m hm => by
      simp only [inNum, Bool.and_eq_true, decide_eq_true_eq] at hm
      simpa [bytesOf, ByteArray.size] using itoa_len m hm.1 hm.2
    have s1 := sz n b1
    have s2 := sz lo b2
    have s3 := sz hi b3
    have s4 := sz seq b4
    clear sz
    have HT : Hid (p ++ sp ++ q ++ sp ++ bytesOf (itoa n) ++ sp ++ bytesOf (itoa lo) ++ sp ++ bytesOf (itoa hi) ++ sp ++ bytesOf (itoa seq) = bytesOf (fileL (p, q, n, lo, hi, seq))) := by
      show _ = _
      rw [← bytesOf_data (p ++ sp ++ q ++ sp ++ bytesOf (itoa n) ++ sp ++ bytesOf (itoa lo) ++ sp ++ bytesOf (itoa hi) ++ sp ++ bytesOf (itoa seq))]
      congr 1
      simp [fileL, sp, bytesOf, ByteArray.data_append]
    rw [← HT.out]
    unfold sp
    have hm : Tryz.prog.follows .mixedOrders = true := by kernel_rfl
    go_enter Tryz.func22, Tryz.ntmps22
    go_wp2_with fail
    generalize w.alloc (.cells #[.string p, .string q, .int .i64 n, .int .i64 lo, .int .i64 hi, .int .i64 seq] 23) = WA at hal hfl ⊢
    refine (hck _).mono ?_
    rintro e w1 ⟨rfl, hb1⟩
    clear hck
    have hB1 : Below w.heap.size w w1 := hal.trans (hb1.mono hal.size)
    obtain ⟨c0, c1, c2, c3, c4, c5, _⟩ := (hfl.below hb1).cells
    dsimp only at c0 c1 c2 c3 c4 c5
    have d0 := fun n os => cell_grown (cell_lt c0) c0 n os
    have d1 := fun n os => cell_grown (cell_lt c1) c1 n os
    have d2 := fun n os => cell_grown (cell_lt c2) c2 n os
    have d3 := fun n os => cell_grown (cell_lt c3) c3 n os
    have d4 := fun n os => cell_grown (cell_lt c4) c4 n os
    have d5 := fun n os => cell_grown (cell_lt c5) c5 n os
    have hI : ∀ m : Int, inNum m = true → ∀ n os, Calls Tryz.prog 81 #[.int .i64 m] (grow (w1.drewN n) os) fun e w' => e = .returned (.string (bytesOf (itoa m))) ∧ ∃ q os', w' = grow ((grow (w1.drewN n) os).drewN q) os' := fun m hm n os => by
      simp only [inNum, Bool.and_eq_true, decide_eq_true_eq] at hm
      exact decimal_any m _ (by omega) (by omega)
    clear hfl
    have m0 : ¬ 9223372036854775806 < p.size := by omega
    have n0 : ¬ 9223372036854775807 < p.size + 1 := by omega
    have n1 : ¬ 9223372036854775807 < p.size + 1 + q.size := by omega
    have m2 : ¬ 9223372036854775806 < p.size + 1 + q.size := by omega
    have n2 : ¬ 9223372036854775807 < p.size + 1 + q.size + 1 := by omega
    have n3 : ¬ 9223372036854775807 < p.size + 1 + q.size + 1 + (bytesOf (itoa n)).size := by omega
    have m4 : ¬ 9223372036854775806 < p.size + 1 + q.size + 1 + (bytesOf (itoa n)).size := by omega
    have n4 : ¬ 9223372036854775807 < p.size + 1 + q.size + 1 + (bytesOf (itoa n)).size + 1 := by omega
    have n5 : ¬ 9223372036854775807 < p.size + 1 + q.size + 1 + (bytesOf (itoa n)).size + 1 + (bytesOf (itoa lo)).size := by omega
    have m6 : ¬ 9223372036854775806 < p.size + 1 + q.size + 1 + (bytesOf (itoa n)).size + 1 + (bytesOf (itoa lo)).size := by omega
    have n6 : ¬ 9223372036854775807 < p.size + 1 + q.size + 1 + (bytesOf (itoa n)).size + 1 + (bytesOf (itoa lo)).size + 1 := by omega
    have n7 : ¬ 9223372036854775807 < p.size + 1 + q.size + 1 + (bytesOf (itoa n)).size + 1 + (bytesOf (itoa lo)).size + 1 + (bytesOf (itoa hi)).size := by omega
    have m8 : ¬ 9223372036854775806 < p.size + 1 + q.size + 1 + (bytesOf (itoa n)).size + 1 + (bytesOf (itoa lo)).size + 1 + (bytesOf (itoa hi)).size := by omega
    have n8 : ¬ 9223372036854775807 < p.size + 1 + q.size + 1 + (bytesOf (itoa n)).size + 1 + (bytesOf (itoa lo)).size + 1 + (bytesOf (itoa hi)).size + 1 := by omega
    have n9 : ¬ 9223372036854775807 < p.size + 1 + q.size + 1 + (bytesOf (itoa n)).size + 1 + (bytesOf (itoa lo)).size + 1 + (bytesOf (itoa hi)).size + 1 + (bytesOf (itoa seq)).size := by omega
    clear s1 s2 s3 s4 h1 h2
    go_wp2_with fail
    go_quiet_grown ((go_at_call 81; exact Calls.grown_of (hI _ (by assumption) _ _)))
    go_wp2
    go_ret
    exact ⟨rfl, hB1.trans ((grow_below nq osq).mono hB1.size)⟩
  · rw [if_neg he]
    generalize fileE f = E at he hck
    have hE : (0 : Int) < (E : Int) := by omega
    clear he hbd
    obtain ⟨p, q, n, lo, hi, seq⟩ := f
    dsimp only at h1 h2 hal
    unfold flV at hck ⊢
    dsimp only at hck ⊢
    go_enter Tryz.func22, Tryz.ntmps22
    go_wp2_with fail
    generalize w.alloc (.cells #[.string p, .string q, .int .i64 n, .int .i64 lo, .int .i64 hi, .int .i64 seq] 23) = WA at hal hfl ⊢
    refine (hck _).mono ?_
    rintro e w1 ⟨rfl, hb1⟩
    clear hck
    go_wp2
    go_ret
    exact ⟨rfl, hal.trans (hb1.mono hal.size)⟩
end Go.Proofs.YtpkoefpdpoikkaaGreatDoor
