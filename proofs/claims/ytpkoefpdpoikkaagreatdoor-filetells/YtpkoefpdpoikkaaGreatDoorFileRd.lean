/-
  The contract of file.Read.
-/
import Derived.Test.YtpkoefpdpoikkaaGreatDoorRefPath
namespace Go.Proofs.YtpkoefpdpoikkaaGreatDoor
open Go.RowKit Go.Extern.Stop Go.Stop Go.Extern Go.Sort Go.Shelf Go.Lib

set_option maxRecDepth 100000 in
set_option maxHeartbeats 4000000 in
theorem fileError_any (f : Fl) (w : World) (h1 : f.1.size ≤ 100000) (h2 : f.2.1.size ≤ 100000) :
    Calls Tryz.prog 21 #[flV f] w fun e w' => e = .returned (.int .i64 (fileE f)) ∧ Below w.heap.size w w' := by
  have hal : Below w.heap.size w (w.alloc (.cells #[.string f.1, .string f.2.1, .int .i64 f.2.2.1, .int .i64 f.2.2.2.1, .int .i64 f.2.2.2.2.1, .int .i64 f.2.2.2.2.2] 23)) := (Below.refl _ _).alloc (Nat.le_refl _) _
  have hfl := FlAt.new w f
  obtain ⟨p, q, n, lo, hi, seq⟩ := f
  dsimp only at h1 h2 hal
  have hnm := fun W => pathOf_any p W h1
  have hnw := fun W => isWord_any q 12 W (by unfold maxLen; omega)
  have hL := fun W => isFar_any lo W
  have hH := fun W => isFar_any hi W
  unfold flV
  dsimp only
  generalize hE : fileE (p, q, n, lo, hi, seq) = E
  have HE : Hid (fileE (p, q, n, lo, hi, seq) = E) := hE
  clear hE
  have H1 : Hid (E = match pathO p.data.toList with
    | none => 5
    | some (g, _) => if partB g q.data.toList then (if bndB (p, q, n, lo, hi, seq) then 0 else 2) else 4) := by
    show _ = _
    rw [← HE.out]; rfl
  clear HE
  go_enter Tryz.func21, Tryz.ntmps21
  go_wp2_with fail
  generalize w.alloc (.cells #[.string p, .string q, .int .i64 n, .int .i64 lo, .int .i64 hi, .int .i64 seq] 23) = WA at hal hfl ⊢
  refine (hnm _).mono ?_
  rintro e w1 ⟨rfl, hw1⟩
  rw [hw1]
  clear hnm hw1
  obtain ⟨c0, c1, c2, c3, c4, c5, cf⟩ := hfl.cells
  dsimp only at c0 c1 c2 c3 c4 c5
  clear hfl
  cases hp : pathO p.data.toList with
  | none =>
    have hEE := H1.out
    rw [hp] at hEE
    dsimp only at hEE
    subst hEE
    rw [pathR_none hp]
    clear hp hnw hL hH c0 c1 c2 c3 c4 c5 cf
    go_wp2
    go_ret
    exact ⟨rfl, hal⟩
  | some gn =>
    obtain ⟨g, k⟩ := gn
    have hEE := H1.out
    rw [hp] at hEE
    dsimp only at hEE
    have HEE : Hid (E = if partB g q.data.toList then (if bndB (p, q, n, lo, hi, seq) then 0 else 2) else 4) := hEE
    rw [pathR_some hp]
    clear hp hEE H1
    dsimp only
    go_wp2_with fail
    refine (hnw _).mono ?_
    rintro e w2 ⟨rfl, hw2⟩
    rw [hw2]
    clear hnw hw2
    have hkd : (bytesOf (kindL g)).data.toList = kindL g := bytes_data _
    by_cases hpb : partB g q.data.toList = true
    · have HB : Hid (E = if bndB (p, q, n, lo, hi, seq) then 0 else 2) := by
        show _ = _
        rw [HEE.out, if_pos hpb]
      have HBN : Hid (bndB (p, q, n, lo, hi, seq) = true ↔ 1 ≤ n ∧ n ≤ 40 ∧ inNum lo = true ∧ inNum hi = true ∧ lo ≤ hi ∧ 1 ≤ seq ∧ seq ≤ 1073741824) := by
        show _ ↔ _
        simp only [bndB, cntB, Bool.and_eq_true, decide_eq_true_eq]
        constructor
        · rintro ⟨⟨⟨⟨⟨a1, a2⟩, a3⟩, a4⟩, a5⟩, a6, a7⟩
          exact ⟨a1, a2, a3, a4, a5, a6, a7⟩
        · rintro ⟨a1, a2, a3, a4, a5, a6, a7⟩
          exact ⟨⟨⟨⟨⟨a1, a2⟩, a3⟩, a4⟩, a5⟩, a6, a7⟩
      have bad : ¬ (1 ≤ n ∧ n ≤ 40 ∧ inNum lo = true ∧ inNum hi = true ∧ lo ≤ hi ∧ 1 ≤ seq ∧ seq ≤ 1073741824) → E = 2 := fun hb => by
        rw [HB.out, if_neg (fun e => hb (HBN.out.1 e))]
      have BAD : Hid (¬ (1 ≤ n ∧ n ≤ 40 ∧ inNum lo = true ∧ inNum hi = true ∧ lo ≤ hi ∧ 1 ≤ seq ∧ seq ≤ 1073741824) → E = 2) := bad
      clear bad HEE
      cases g
      · have d1 := neB_of (s := bytesOf (kindL false)) (l := [103, 111, 110, 101]) (by rw [hkd]; decide)
        have d2 := eqB_of (s := bytesOf (kindL false)) (l := [100, 97, 116, 97]) (by rw [hkd]; rfl)
        have hwb : wordB 12 q.data.toList = true := by simpa [partB] using hpb
        rw [hwb]
        generalize bytesOf (kindL false) = kB at d1 d2 ⊢
        clear hkd hpb hwb
        go_wp2_with fail
        refine (hL _).mono ?_
        rintro e w3 ⟨rfl, hw3⟩
        rw [hw3]
        clear hw3 hL
        go_wp2_with fail
        refine (hH _).mono ?_
        rintro e w4 ⟨rfl, hw4⟩
        rw [hw4]
        clear hw4 hH
        by_cases g1 : n < 1
        · obtain rfl := BAD.out (fun ⟨b1, _⟩ => by omega)
          go_wp2
          go_ret
          exact ⟨rfl, hal⟩
        · by_cases g2 : 40 < n
          · obtain rfl := BAD.out (fun ⟨_, b1, _⟩ => by omega)
            go_wp2
            go_ret
            exact ⟨rfl, hal⟩
          · cases g3 : inNum lo with
            | false =>
              obtain rfl := BAD.out (fun ⟨_, _, b1, _⟩ => by rw [g3] at b1; cases b1)
              clear g3
              go_wp2
              go_ret
              exact ⟨rfl, hal⟩
            | true =>
              cases g4 : inNum hi with
              | false =>
                obtain rfl := BAD.out (fun ⟨_, _, _, b1, _⟩ => by rw [g4] at b1; cases b1)
                clear g3 g4
                go_wp2
                go_ret
                exact ⟨rfl, hal⟩
              | true =>
                by_cases g5 : hi < lo
                · obtain rfl := BAD.out (fun ⟨_, _, _, _, b1, _⟩ => by omega)
                  clear g3 g4
                  go_wp2
                  go_ret
                  exact ⟨rfl, hal⟩
                · by_cases g6 : seq < 1
                  · obtain rfl := BAD.out (fun ⟨_, _, _, _, _, b1, _⟩ => by omega)
                    clear g3 g4
                    go_wp2
                    go_ret
                    exact ⟨rfl, hal⟩
                  · by_cases g7 : 1073741824 < seq
                    · obtain rfl := BAD.out (fun ⟨_, _, _, _, _, _, b1⟩ => by omega)
                      clear g3 g4
                      go_wp2
                      go_ret
                      exact ⟨rfl, hal⟩
                    · have hgood : E = 0 := by rw [HB.out, if_pos (HBN.out.2 ⟨by omega, by omega, g3, g4, by omega, by omega, by omega⟩)]
                      subst hgood
                      clear g3 g4
                      go_wp2
                      go_ret
                      exact ⟨rfl, hal⟩
      · have d1 := eqB_of (s := bytesOf (kindL true)) (l := [103, 111, 110, 101]) (by rw [hkd]; rfl)
        have d2 := neB_of (s := bytesOf (kindL true)) (l := [100, 97, 116, 97]) (by rw [hkd]; decide)
        have hqq : q.data.toList = [45] := by simpa [partB] using hpb
        have d3 := eqB_of hqq
        generalize wordB 12 q.data.toList = wb
        generalize bytesOf (kindL true) = kB at d1 d2 ⊢
        clear hkd hpb hqq
        go_wp2_with fail
        refine (hL _).mono ?_
        rintro e w3 ⟨rfl, hw3⟩
        rw [hw3]
        clear hw3 hL
        go_wp2_with fail
        refine (hH _).mono ?_
        rintro e w4 ⟨rfl, hw4⟩
        rw [hw4]
        clear hw4 hH
        by_cases g1 : n < 1
        · obtain rfl := BAD.out (fun ⟨b1, _⟩ => by omega)
          go_wp2
          go_ret
          exact ⟨rfl, hal⟩
        · by_cases g2 : 40 < n
          · obtain rfl := BAD.out (fun ⟨_, b1, _⟩ => by omega)
            go_wp2
            go_ret
            exact ⟨rfl, hal⟩
          · cases g3 : inNum lo with
            | false =>
              obtain rfl := BAD.out (fun ⟨_, _, b1, _⟩ => by rw [g3] at b1; cases b1)
              clear g3
              go_wp2
              go_ret
              exact ⟨rfl, hal⟩
            | true =>
              cases g4 : inNum hi with
              | false =>
                obtain rfl := BAD.out (fun ⟨_, _, _, b1, _⟩ => by rw [g4] at b1; cases b1)
                clear g3 g4
                go_wp2
                go_ret
                exact ⟨rfl, hal⟩
              | true =>
                by_cases g5 : hi < lo
                · obtain rfl := BAD.out (fun ⟨_, _, _, _, b1, _⟩ => by omega)
                  clear g3 g4
                  go_wp2
                  go_ret
                  exact ⟨rfl, hal⟩
                · by_cases g6 : seq < 1
                  · obtain rfl := BAD.out (fun ⟨_, _, _, _, _, b1, _⟩ => by omega)
                    clear g3 g4
                    go_wp2
                    go_ret
                    exact ⟨rfl, hal⟩
                  · by_cases g7 : 1073741824 < seq
                    · obtain rfl := BAD.out (fun ⟨_, _, _, _, _, _, b1⟩ => by omega)
                      clear g3 g4
                      go_wp2
                      go_ret
                      exact ⟨rfl, hal⟩
                    · have hgood : E = 0 := by rw [HB.out, if_pos (HBN.out.2 ⟨by omega, by omega, g3, g4, by omega, by omega, by omega⟩)]
                      subst hgood
                      clear g3 g4
                      go_wp2
                      go_ret
                      exact ⟨rfl, hal⟩
    · have hEE : E = 4 := by rw [HEE.out, if_neg hpb]
      subst hEE
      clear HEE hL hH
      cases g
      · have d1 := neB_of (s := bytesOf (kindL false)) (l := [103, 111, 110, 101]) (by rw [hkd]; decide)
        have d2 := eqB_of (s := bytesOf (kindL false)) (l := [100, 97, 116, 97]) (by rw [hkd]; rfl)
        have hwb : wordB 12 q.data.toList = false := by simpa [partB] using hpb
        rw [hwb]
        generalize bytesOf (kindL false) = kB at d1 d2 ⊢
        clear hkd hpb hwb
        go_wp2
        go_ret
        exact ⟨rfl, hal⟩
      · have d1 := eqB_of (s := bytesOf (kindL true)) (l := [103, 111, 110, 101]) (by rw [hkd]; rfl)
        have hqq : q.data.toList ≠ [45] := by simpa [partB] using hpb
        have d3 := neB_of hqq
        generalize wordB 12 q.data.toList = wb
        generalize bytesOf (kindL true) = kB at d1 ⊢
        clear hkd hpb hqq
        go_wp2
        go_ret
        exact ⟨rfl, hal⟩

set_option maxRecDepth 100000 in
set_option maxHeartbeats 8000000 in
theorem fileText_any (f : Fl) (w : World) (h1 : f.1.size ≤ 100000) (h2 : f.2.1.size ≤ 100000) :
    Calls Tryz.prog 22 #[flV f] w fun e w' => e = .returned (.string (fileB f)) ∧ Below w.heap.size w w' := by
  have hal : Below w.heap.size w (w.alloc (.cells #[.string f.1, .string f.2.1, .int .i64 f.2.2.1, .int .i64 f.2.2.2.1, .int .i64 f.2.2.2.2.1, .int .i64 f.2.2.2.2.2] 23)) := (Below.refl _ _).alloc (Nat.le_refl _) _
  have hfl := FlAt.new w f
  have hck := fun W => fileError_any f W h1 h2
  have hbd : fileE f = 0 → (inNum f.2.2.1 = true ∧ inNum f.2.2.2.1 = true ∧ inNum f.2.2.2.2.1 = true ∧ inNum f.2.2.2.2.2 = true) := fun he => let ⟨_, _, _, _, hb⟩ := file_good he; bnd_nums hb
  unfold fileB
  by_cases he : fileE f = 0
  · rw [if_pos he]
    rw [he] at hck
    have hb := hbd he
    clear hbd he
    obtain ⟨p, q, n, lo, hi, seq⟩ := f
    dsimp only at h1 h2 hal hb
    unfold flV at hck ⊢
    dsimp only at hck ⊢
    obtain ⟨b1, b2, b3, b4⟩ := hb
    have sz : ∀ m : Int, inNum m = true → (bytesOf (itoa m)).size ≤ 11 := fun m hm => by
      simp only [inNum, Bool.and_eq_true, decide_eq_true_eq] at hm
      simpa [bytesOf, ByteArray.size] using itoa_len m hm.1 hm.2
    have s1 := sz n b1
    have s2 := sz lo b2
    have s3 := sz hi b3
    have s4 := sz seq b4
    clear sz
    have HT : Hid (p ++ sp ++ q ++ sp ++ bytesOf (itoa n) ++ sp ++ bytesOf (itoa lo) ++ sp ++ bytesOf (itoa hi) ++ sp ++ bytesOf (itoa seq) = bytesOf (fileL (p, q, n, lo, hi, seq))) := by
      show _ = _
      rw [← bytesOf_data (p ++ sp ++ q ++ sp ++ bytesOf (itoa n) ++ sp ++ bytesOf (itoa lo) ++ sp ++ bytesOf (itoa hi) ++ sp ++ bytesOf (itoa seq))]
      congr 1
      simp [fileL, sp, bytesOf, ByteArray.data_append]
    rw [← HT.out]
    unfold sp
    have hm : Tryz.prog.follows .mixedOrders = true := by kernel_rfl
    go_enter Tryz.func22, Tryz.ntmps22
    go_wp2_with fail
    generalize w.alloc (.cells #[.string p, .string q, .int .i64 n, .int .i64 lo, .int .i64 hi, .int .i64 seq] 23) = WA at hal hfl ⊢
    refine (hck _).mono ?_
    rintro e w1 ⟨rfl, hb1⟩
    clear hck
    have hB1 : Below w.heap.size w w1 := hal.trans (hb1.mono hal.size)
    obtain ⟨c0, c1, c2, c3, c4, c5, _⟩ := (hfl.below hb1).cells
    dsimp only at c0 c1 c2 c3 c4 c5
    have d0 := fun n os => cell_grown (cell_lt c0) c0 n os
    have d1 := fun n os => cell_grown (cell_lt c1) c1 n os
    have d2 := fun n os => cell_grown (cell_lt c2) c2 n os
    have d3 := fun n os => cell_grown (cell_lt c3) c3 n os
    have d4 := fun n os => cell_grown (cell_lt c4) c4 n os
    have d5 := fun n os => cell_grown (cell_lt c5) c5 n os
    have hI : ∀ m : Int, inNum m = true → ∀ n os, Calls Tryz.prog 81 #[.int .i64 m] (grow (w1.drewN n) os) fun e w' => e = .returned (.string (bytesOf (itoa m))) ∧ ∃ q os', w' = grow ((grow (w1.drewN n) os).drewN q) os' := fun m hm n os => by
      simp only [inNum, Bool.and_eq_true, decide_eq_true_eq] at hm
      exact decimal_any m _ (by omega) (by omega)
    clear hfl
    have m0 : ¬ 9223372036854775806 < p.size := by omega
    have n0 : ¬ 9223372036854775807 < p.size + 1 := by omega
    have n1 : ¬ 9223372036854775807 < p.size + 1 + q.size := by omega
    have m2 : ¬ 9223372036854775806 < p.size + 1 + q.size := by omega
    have n2 : ¬ 9223372036854775807 < p.size + 1 + q.size + 1 := by omega
    have n3 : ¬ 9223372036854775807 < p.size + 1 + q.size + 1 + (bytesOf (itoa n)).size := by omega
    have m4 : ¬ 9223372036854775806 < p.size + 1 + q.size + 1 + (bytesOf (itoa n)).size := by omega
    have n4 : ¬ 9223372036854775807 < p.size + 1 + q.size + 1 + (bytesOf (itoa n)).size + 1 := by omega
    have n5 : ¬ 9223372036854775807 < p.size + 1 + q.size + 1 + (bytesOf (itoa n)).size + 1 + (bytesOf (itoa lo)).size := by omega
    have m6 : ¬ 9223372036854775806 < p.size + 1 + q.size + 1 + (bytesOf (itoa n)).size + 1 + (bytesOf (itoa lo)).size := by omega
    have n6 : ¬ 9223372036854775807 < p.size + 1 + q.size + 1 + (bytesOf (itoa n)).size + 1 + (bytesOf (itoa lo)).size + 1 := by omega
    have n7 : ¬ 9223372036854775807 < p.size + 1 + q.size + 1 + (bytesOf (itoa n)).size + 1 + (bytesOf (itoa lo)).size + 1 + (bytesOf (itoa hi)).size := by omega
    have m8 : ¬ 9223372036854775806 < p.size + 1 + q.size + 1 + (bytesOf (itoa n)).size + 1 + (bytesOf (itoa lo)).size + 1 + (bytesOf (itoa hi)).size := by omega
    have n8 : ¬ 9223372036854775807 < p.size + 1 + q.size + 1 + (bytesOf (itoa n)).size + 1 + (bytesOf (itoa lo)).size + 1 + (bytesOf (itoa hi)).size + 1 := by omega
    have n9 : ¬ 9223372036854775807 < p.size + 1 + q.size + 1 + (bytesOf (itoa n)).size + 1 + (bytesOf (itoa lo)).size + 1 + (bytesOf (itoa hi)).size + 1 + (bytesOf (itoa seq)).size := by omega
    clear s1 s2 s3 s4 h1 h2
    go_wp2_with fail
    go_quiet_grown ((go_at_call 81; exact Calls.grown_of (hI _ (by assumption) _ _)))
    go_wp2
    go_ret
    exact ⟨rfl, hB1.trans ((grow_below nq osq).mono hB1.size)⟩
  · rw [if_neg he]
    generalize fileE f = E at he hck
    have hE : (0 : Int) < (E : Int) := by omega
    clear he hbd
    obtain ⟨p, q, n, lo, hi, seq⟩ := f
    dsimp only at h1 h2 hal
    unfold flV at hck ⊢
    dsimp only at hck ⊢
    go_enter Tryz.func22, Tryz.ntmps22
    go_wp2_with fail
    generalize w.alloc (.cells #[.string p, .string q, .int .i64 n, .int .i64 lo, .int .i64 hi, .int .i64 seq] 23) = WA at hal hfl ⊢
    refine (hck _).mono ?_
    rintro e w1 ⟨rfl, hb1⟩
    clear hck
    go_wp2
    go_ret
    exact ⟨rfl, hal.trans (hb1.mono hal.size)⟩
end Go.Proofs.YtpkoefpdpoikkaaGreatDoor
namespace Go.Proofs.YtpkoefpdpoikkaaGreatDoor
open Go.RowKit Go.Extern.Stop Go.Stop Go.Extern Go.Sort Go.Shelf Go.Lib

theorem readF_other {l : List UInt8} (h : (words l).length ≠ 6) : readF l = (zeroF, 1) := by
  unfold readF
  split
  · rename_i e; rw [e] at h; simp at h
  · rfl

theorem readF_six {l p q a b c d : List UInt8} (h : words l = [p, q, a, b, c, d]) : readF l = (match numO a, numO b, numO c, numO d with
    | some n, some lo, some hi, some seq => chkF (bytesOf p, bytesOf q, n, lo, hi, seq)
    | _, _, _, _ => (zeroF, 1)) := by
  unfold readF
  rw [h]
  rfl

theorem six_of {α : Type} {ts : List α} (h : ts.length = 6) : ∃ a b c d e f, ts = [a, b, c, d, e, f] := by
  match ts, h with
  | [a, b, c, d, e, f], _ => exact ⟨a, b, c, d, e, f, rfl⟩

theorem FlAt.flSet_other {W : World} {b j : Nat} {f : Fl} (hj : j ≠ b) : (flSet W b f).heap[j]? = W.heap[j]? := by
  unfold flSet
  rw [heap_setCell_other _ _ _ _ hj, heap_setCell_other _ _ _ _ hj, heap_setCell_other _ _ _ _ hj, heap_setCell_other _ _ _ _ hj, heap_setCell_other _ _ _ _ hj, heap_setCell_other _ _ _ _ hj]

theorem cell_store {W : World} {b R o : Nat} {v v0 v1 v2 v3 v4 v5 : Value} (h : b ≠ R) (hc : W.cell? ⟨b, o, none⟩ = some v) : ((((((W.setCell ⟨R, 0, none⟩ v0).setCell ⟨R, 1, none⟩ v1).setCell ⟨R, 2, none⟩ v2).setCell ⟨R, 3, none⟩ v3).setCell ⟨R, 4, none⟩ v4).setCell ⟨R, 5, none⟩ v5).cell? ⟨b, o, none⟩ = some v := by
  rw [World.cell?_setCell_other _ _ _ _ (by simp), World.cell?_setCell_other _ _ _ _ (by simp), World.cell?_setCell_other _ _ _ _ (by simp), World.cell?_setCell_other _ _ _ _ (by simp), World.cell?_setCell_other _ _ _ _ (by simp), World.cell?_setCell_other _ _ _ _ (by simp)]
  exact hc

theorem below_store {W w : World} {R : Nat} {v0 v1 v2 v3 v4 v5 : Value} (h : Below R w W) : Below R w ((((((W.setCell ⟨R, 0, none⟩ v0).setCell ⟨R, 1, none⟩ v1).setCell ⟨R, 2, none⟩ v2).setCell ⟨R, 3, none⟩ v3).setCell ⟨R, 4, none⟩ v4).setCell ⟨R, 5, none⟩ v5) :=
  (((((h.setCell (Nat.le_refl _) _).setCell (Nat.le_refl _) _).setCell (Nat.le_refl _) _).setCell (Nat.le_refl _) _).setCell (Nat.le_refl _) _).setCell (Nat.le_refl _) _

set_option maxRecDepth 100000 in
set_option maxHeartbeats 8000000 in
theorem fread_any (s : ByteArray) (w : World) (a : Nat → Addr) (h : EnvR w a) (hs : s.size ≤ 100000) :
    Calls Tryz.prog 14 #[.string s] w fun e w' => e = .returned (.tuple #[flV (readF s.data.toList).1, errV a (readF s.data.toList).2]) ∧ Below w.heap.size w w' := by
  have hal : Below w.heap.size w (w.alloc (.cells #[.string ⟨#[]⟩, .string ⟨#[]⟩, .int .i64 0, .int .i64 0, .int .i64 0, .int .i64 0] 23)) := (Below.refl _ _).alloc (Nat.le_refl _) _
  have hfz : FlAt (w.alloc (.cells #[.string ⟨#[]⟩, .string ⟨#[]⟩, .int .i64 0, .int .i64 0, .int .i64 0, .int .i64 0] 23)) w.heap.size zeroF := FlAt.new w zeroF
  have hsp := splitTx_any s _ a (h.below hal).weak (by omega)
  generalize hR : readF s.data.toList = R
  have HR : Hid (readF s.data.toList = R) := hR
  clear hR
  have hwl := words_len s.data.toList
  have ZERO : Hid (∀ W, FlAt W w.heap.size zeroF → (W.cell? ⟨w.heap.size, 0, none⟩ = some (.string ⟨#[]⟩) ∧ W.cell? ⟨w.heap.size, 1, none⟩ = some (.string ⟨#[]⟩) ∧ W.cell? ⟨w.heap.size, 2, none⟩ = some (.int .i64 0) ∧ W.cell? ⟨w.heap.size, 3, none⟩ = some (.int .i64 0) ∧ W.cell? ⟨w.heap.size, 4, none⟩ = some (.int .i64 0) ∧ W.cell? ⟨w.heap.size, 5, none⟩ = some (.int .i64 0) ∧ ∀ o, W.frozen? ⟨w.heap.size, o, none⟩ = false)) := fun W hW => hW.cells
  go_enter Tryz.func14, Tryz.ntmps14
  go_wp2_with fail
  generalize w.alloc (.cells #[.string ⟨#[]⟩, .string ⟨#[]⟩, .int .i64 0, .int .i64 0, .int .i64 0, .int .i64 0] 23) = WA at hal hfz hsp ⊢
  refine hsp.mono ?_
  rintro e w1 ⟨v1, ts, rfl, hts, htm, hb1⟩
  clear hsp
  have hB1 : Below w.heap.size w w1 := hal.trans (hb1.mono hal.size)
  have HF1 : Hid (FlAt w1 w.heap.size zeroF) := hfz.below hb1
  clear hfz hb1 hal
  obtain ⟨b, rfl, hcell⟩ := hts
  by_cases h6 : ts.length = 6
  · obtain ⟨P, Q, A, B, C, D, rfl⟩ := six_of h6
    have hw : words s.data.toList = [P.data.toList, Q.data.toList, A.data.toList, B.data.toList, C.data.toList, D.data.toList] := by rw [← htm]; rfl
    have hrs := HR.out
    rw [readF_six hw, bytesOf_data, bytesOf_data] at hrs
    have hwz : ∀ t ∈ [P, Q, A, B, C, D], t.size ≤ 100000 := fun t ht => by
      have := hwl t.data.toList (by rw [← htm]; exact List.mem_map.2 ⟨t, ht, rfl⟩)
      rw [size_list, size_list] at this
      omega
    have hP := hwz P (by simp)
    have hQ := hwz Q (by simp)
    have c0 := hcell 0 (by simp)
    have c1 := hcell 1 (by simp)
    have c2 := hcell 2 (by simp)
    simp only [List.getElem_cons_succ, List.getElem_cons_zero] at c0 c1 c2
    have hnm := numbers_any b 2 4 [A, B, C, D] w1 a (h.below hB1).weak (fun j hj => by
      have hj' : j + 2 < [P, Q, A, B, C, D].length := by simp at hj ⊢; omega
      have := hcell (j + 2) hj'
      rw [Nat.add_comm 2 j]
      simpa using this) (fun t ht => by
        have := hwz t (List.mem_cons_of_mem _ (List.mem_cons_of_mem _ ht))
        unfold maxLen; omega) (by simp)
    have HRS : Hid ((match numO A.data.toList, numO B.data.toList, numO C.data.toList, numO D.data.toList with
      | some n, some lo, some hi, some seq => chkF (P, Q, n, lo, hi, seq)
      | _, _, _, _ => (zeroF, 1)) = R) := hrs
    clear hw htm hwl hcell h6 hwz hrs
    simp only [List.length_cons, List.length_nil, Nat.zero_add, Nat.reduceAdd] at hnm ⊢
    go_wp2_with fail
    refine hnm.mono ?_
    rintro e w3 ⟨hres, hb3⟩
    clear hnm
    have hB3 : Below w.heap.size w w3 := hB1.trans (hb3.mono hB1.size)
    have HF3 : Hid (FlAt w3 w.heap.size zeroF) := HF1.out.below hb3
    rcases hres with ⟨zs, g, hzl, hzn, rfl, hzc⟩ | ⟨j, t, ht, hno, rfl⟩
    · obtain ⟨n, lo, hi, seq, hz4⟩ : ∃ z0 z1 z2 z3, zs = [z0, z1, z2, z3] := by
        match zs, hzl with
        | [z0, z1, z2, z3], _ => exact ⟨z0, z1, z2, z3, rfl⟩
      subst hz4
      have HX : Hid (chkF (P, Q, n, lo, hi, seq) = R) := by
        show _ = _
        rw [← HRS.out]
        have q0 := hzn 0 A rfl
        have q1 := hzn 1 B rfl
        have q2 := hzn 2 C rfl
        have q3 := hzn 3 D rfl
        rw [q0, q1, q2, q3]
        rfl
      have d0 := below_keep hb3 c0
      have d1 := below_keep hb3 c1
      have k0 := hzc 0 (by simp)
      have k1 := hzc 1 (by simp)
      have k2 := hzc 2 (by simp)
      have k3 := hzc 3 (by simp)
      simp only [List.getElem_cons_succ, List.getElem_cons_zero] at k0 k1 k2 k3
      have hck := fun W (hW : EnvK W a) => checked_any (P, Q, n, lo, hi, seq) W a hW hP hQ
      rw [HX.out] at hck
      unfold flV at hck
      obtain ⟨⟨rp, rq, rn, rlo, rhi, rseq⟩, rE⟩ := R
      dsimp only at hck
      have hbR : b ≠ w.heap.size := fun e => by
        have e2 := (ZERO.out w3 HF3.out).2.2.1
        rw [← e] at e2
        have := (below_keep hb3 c2).symm.trans e2
        simp at this
      have hgR : g ≠ w.heap.size := fun e => by
        have e2 := (ZERO.out w3 HF3.out).1
        rw [← e] at e2
        have := k0.symm.trans e2
        simp at this
      have hbR' : ¬ w.heap.size = b := fun e => hbR e.symm
      have hgR' : ¬ w.heap.size = g := fun e => hgR e.symm
      have hbd : Below w3.heap.size w3 w3.drew := (Below.refl _ _).drew
      have hz3 := HF3.out.below hbd
      have HZ3 : Hid (FlAt w3.drew w.heap.size zeroF) := hz3
      have hck3 := hck w3.drew (h.below (hB3.trans (hbd.mono hB3.size))).file
      clear hzn hzc hzl c0 c1 c2 hb3 HRS hck hz3 hbd
      simp only [List.length_cons, List.length_nil, Nat.zero_add, Nat.reduceAdd]
      go_wp2_with fail
      go_region_held3 (fun w' => w'.cell? ⟨b, 0, none⟩ = some (.string P) ∧ w'.cell? ⟨b, 1, none⟩ = some (.string Q) ∧ w'.cell? ⟨g, 0, none⟩ = some (.int .i64 n) ∧ w'.cell? ⟨g, 1, none⟩ = some (.int .i64 lo) ∧ w'.cell? ⟨g, 2, none⟩ = some (.int .i64 hi) ∧ w'.cell? ⟨g, 3, none⟩ = some (.int .i64 seq) ∧ Below w.heap.size w w')
        (first
          | (go_split_ands; with_reducible exact ⟨below_keep hbX (by assumption), below_keep hbX (by assumption), below_keep hbX (by assumption), below_keep hbX (by assumption), below_keep hbX (by assumption), below_keep hbX (by assumption), Below.trans (by assumption) (hbX.mono (Below.size (by assumption)))⟩)
          | (go_split_ands; with_reducible exact ⟨cell_store hbR (by assumption), cell_store hbR (by assumption), cell_store hgR (by assumption), cell_store hgR (by assumption), cell_store hgR (by assumption), cell_store hgR (by assumption), below_store (by assumption)⟩)
          | (go_split_ands; exact ⟨by go_keep, by go_keep, by go_keep, by go_keep, by go_keep, by go_keep, Below.drew (by assumption)⟩))
        (first
          | (go_at_call 65; refine hck3.mono ?_; rintro e w5 ⟨rfl, hbX⟩; obtain ⟨y0, y1, y2, y3, y4, y5, yf⟩ := ZERO.out w5 (HZ3.out.below hbX)))
      go_split_ands
      have hz5 := HZ3.out.below hbX
      have hB5 : Below w.heap.size w w5 := hB3.drew.trans (hbX.mono hB3.drew.size)
      obtain ⟨z0, z1, z2, z3, z4, z5, _⟩ := (hz5.set (rp, rq, rn, rlo, rhi, rseq)).cells
      have hB6 := flSet_below (f := (rp, rq, rn, rlo, rhi, rseq)) hB5 (Nat.le_refl w.heap.size)
      unfold flSet at z0 z1 z2 z3 z4 z5 hB6
      dsimp only at z0 z1 z2 z3 z4 z5 hB6
      clear hz5
      go_wp2
      exact bodyPost_ret (v := .tuple #[.agg #[.string rp, .string rq, .int .i64 rn, .int .i64 rlo, .int .i64 rhi, .int .i64 rseq], errV a rE]) (by simp [results, Tryz.results14, go_sem, z0, z1, z2, z3, z4, z5]) rfl ⟨rfl, hB6⟩
    · have hbadR : R = (zeroF, 1) := by
        rw [← HRS.out]
        match j, ht with
        | 0, ht => rw [Option.some.inj ht, hno]
        | 1, ht => rw [Option.some.inj ht, hno]; split <;> simp_all
        | 2, ht => rw [Option.some.inj ht, hno]; split <;> simp_all
        | 3, ht => rw [Option.some.inj ht, hno]; split <;> simp_all
      subst hbadR
      clear HRS ht hno c0 c1
      have et := (h.below hB3).text
      obtain ⟨y0, y1, y2, y3, y4, y5, yf⟩ := ZERO.out w3 HF3.out
      have s0 := setCell_self y0
      have s1 := setCell_self y1
      have s2 := setCell_self y2
      have s3 := setCell_self y3
      have s4 := setCell_self y4
      have s5 := setCell_self y5
      go_wp2
      go_region
      all_goals go_wp2
      all_goals exact bodyPost_ret (v := .tuple #[.agg #[.string ⟨#[]⟩, .string ⟨#[]⟩, .int .i64 0, .int .i64 0, .int .i64 0, .int .i64 0], .iface 289 (.pointer (some (a 0)))]) (by simp [results, Tryz.results14, go_sem, y0, y1, y2, y3, y4, y5]) rfl ⟨rfl, hB3.drew⟩
  · have hRR := HR.out.symm.trans (readF_other (l := s.data.toList) (fun e => h6 (by rw [← e, ← htm, List.length_map])))
    subst hRR
    generalize ts.length = L at h6 ⊢
    have hne : ¬ (L : Int) = 6 := by omega
    clear htm hwl hcell h6 HR
    have et := (h.below hB1).text
    obtain ⟨y0, y1, y2, y3, y4, y5, yf⟩ := ZERO.out w1 HF1.out
    have s0 := setCell_self y0
    have s1 := setCell_self y1
    have s2 := setCell_self y2
    have s3 := setCell_self y3
    have s4 := setCell_self y4
    have s5 := setCell_self y5
    go_wp2
    go_region
    all_goals go_wp2
    all_goals exact bodyPost_ret (v := .tuple #[.agg #[.string ⟨#[]⟩, .string ⟨#[]⟩, .int .i64 0, .int .i64 0, .int .i64 0, .int .i64 0], .iface 289 (.pointer (some (a 0)))]) (by simp [results, Tryz.results14, go_sem, y0, y1, y2, y3, y4, y5]) rfl ⟨rfl, hB1.drew⟩
end Go.Proofs.YtpkoefpdpoikkaaGreatDoor
