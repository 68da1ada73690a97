/-
  The contracts of the statements' own LongFile, and what '==' and '!=' give on what is known of a file.
-/
import Derived.Test.YtpkoefpdpoikkaaGreatDoorRefPath
namespace Go.Proofs.YtpkoefpdpoikkaaGreatDoor
open Go.RowKit Go.Extern.Stop Go.Stop Go.Extern Go.Sort Go.Shelf Go.Lib

set_option maxRecDepth 100000 in
set_option maxHeartbeats 4000000 in
theorem fileError_any (f : Fl) (w : World) (h1 : f.1.size ≤ 100000) (h2 : f.2.1.size ≤ 100000) :
    Calls Tryz.prog 21 #[flV f] w fun e w' => e = .returned (.int .i64 (fileE f)) ∧ Below w.heap.size w w' := by
  have hal : Below w.heap.size w (w.alloc (.cells #[.string f.1, .string f.2.1, .int .i64 f.2.2.1, .int .i64 f.2.2.2.1, .int .i64 f.2.2.2.2.1, .int .i64 f.2.2.2.2.2] 23)) := (Below.refl _ _).alloc (Nat.le_refl _) _
  have hfl := FlAt.new w f
  obtain ⟨p, q, n, lo, hi, seq⟩ := f
  dsimp only at h1 h2 hal
  have hnm := fun W => pathOf_any p W h1
  have hnw := fun W => isWord_any q 12 W (by unfold maxLen; omega)
  have hL := fun W => isFar_any lo W
  have hH := fun W => isFar_any hi W
  unfold flV
  dsimp only
  generalize hE : fileE (p, q, n, lo, hi, seq) = E
  have HE : Hid (fileE (p, q, n, lo, hi, seq) = E) := hE
  clear hE
  have H1 : Hid (E = match pathO p.data.toList with
    | none => 5
    | some (g, _) => if partB g q.data.toList then (if bndB (p, q, n, lo, hi, seq) then 0 else 2) else 4) := by
    show _ = _
    rw [← HE.out]; rfl
  clear HE
  go_enter Tryz.func21, Tryz.ntmps21
  go_wp2_with fail
  generalize w.alloc (.cells #[.string p, .string q, .int .i64 n, .int .i64 lo, .int .i64 hi, .int .i64 seq] 23) = WA at hal hfl ⊢
  refine (hnm _).mono ?_
  rintro e w1 ⟨rfl, hw1⟩
  rw [hw1]
  clear hnm hw1
  obtain ⟨c0, c1, c2, c3, c4, c5, cf⟩ := hfl.cells
  dsimp only at c0 c1 c2 c3 c4 c5
  clear hfl
  cases hp : pathO p.data.toList with
  | none =>
    have hEE := H1.out
    rw [hp] at hEE
    dsimp only at hEE
    subst hEE
    rw [pathR_none hp]
    clear hp hnw hL hH c0 c1 c2 c3 c4 c5 cf
    go_wp2
    go_ret
    exact ⟨rfl, hal⟩
  | some gn =>
    obtain ⟨g, k⟩ := gn
    have hEE := H1.out
    rw [hp] at hEE
    dsimp only at hEE
    have HEE : Hid (E = if partB g q.data.toList then (if bndB (p, q, n, lo, hi, seq) then 0 else 2) else 4) := hEE
    rw [pathR_some hp]
    clear hp hEE H1
    dsimp only
    go_wp2_with fail
    refine (hnw _).mono ?_
    rintro e w2 ⟨rfl, hw2⟩
    rw [hw2]
    clear hnw hw2
    have hkd : (bytesOf (kindL g)).data.toList = kindL g := bytes_data _
    by_cases hpb : partB g q.data.toList = true
    · have HB : Hid (E = if bndB (p, q, n, lo, hi, seq) then 0 else 2) := by
        show _ = _
        rw [HEE.out, if_pos hpb]
      have HBN : Hid (bndB (p, q, n, lo, hi, seq) = true ↔ 1 ≤ n ∧ n ≤ 40 ∧ inNum lo = true ∧ inNum hi = true ∧ lo ≤ hi ∧ 1 ≤ seq ∧ seq ≤ 1073741824) := by
        show _ ↔ _
        simp only [bndB, cntB, Bool.and_eq_true, decide_eq_true_eq]
        constructor
        · rintro ⟨⟨⟨⟨⟨a1, a2⟩, a3⟩, a4⟩, a5⟩, a6, a7⟩
          exact ⟨a1, a2, a3, a4, a5, a6, a7⟩
        · rintro ⟨a1, a2, a3, a4, a5, a6, a7⟩
          exact ⟨⟨⟨⟨⟨a1, a2⟩, a3⟩, a4⟩, a5⟩, a6, a7⟩
      have bad : ¬ (1 ≤ n ∧ n ≤ 40 ∧ inNum lo = true ∧ inNum hi = true ∧ lo ≤ hi ∧ 1 ≤ seq ∧ seq ≤ 1073741824) → E = 2 := fun hb => by
        rw [HB.out, if_neg (fun e => hb (HBN.out.1 e))]
      have BAD : Hid (¬ (1 ≤ n ∧ n ≤ 40 ∧ inNum lo = true ∧ inNum hi = true ∧ lo ≤ hi ∧ 1 ≤ seq ∧ seq ≤ 1073741824) → E = 2) := bad
      clear bad HEE
      cases g
      · have d1 := neB_of (s := bytesOf (kindL false)) (l := [103, 111, 110, 101]) (by rw [hkd]; decide)
        have d2 := eqB_of (s := bytesOf (kindL false)) (l := [100, 97, 116, 97]) (by rw [hkd]; rfl)
        have hwb : wordB 12 q.data.toList = true := by simpa [partB] using hpb
        rw [hwb]
        generalize bytesOf (kindL false) = kB at d1 d2 ⊢
        clear hkd hpb hwb
        go_wp2_with fail
        refine (hL _).mono ?_
        rintro e w3 ⟨rfl, hw3⟩
        rw [hw3]
        clear hw3 hL
        go_wp2_with fail
        refine (hH _).mono ?_
        rintro e w4 ⟨rfl, hw4⟩
        rw [hw4]
        clear hw4 hH
        by_cases g1 : n < 1
        · obtain rfl := BAD.out (fun ⟨b1, _⟩ => by omega)
          go_wp2
          go_ret
          exact ⟨rfl, hal⟩
        · by_cases g2 : 40 < n
          · obtain rfl := BAD.out (fun ⟨_, b1, _⟩ => by omega)
            go_wp2
            go_ret
            exact ⟨rfl, hal⟩
          · cases g3 : inNum lo with
            | false =>
              obtain rfl := BAD.out (fun ⟨_, _, b1, _⟩ => by rw [g3] at b1; cases b1)
              clear g3
              go_wp2
              go_ret
              exact ⟨rfl, hal⟩
            | true =>
              cases g4 : inNum hi with
              | false =>
                obtain rfl := BAD.out (fun ⟨_, _, _, b1, _⟩ => by rw [g4] at b1; cases b1)
                clear g3 g4
                go_wp2
                go_ret
                exact ⟨rfl, hal⟩
              | true =>
                by_cases g5 : hi < lo
                · obtain rfl := BAD.out (fun ⟨_, _, _, _, b1, _⟩ => by omega)
                  clear g3 g4
                  go_wp2
                  go_ret
                  exact ⟨rfl, hal⟩
                · by_cases g6 : seq < 1
                  · obtain rfl := BAD.out (fun ⟨_, _, _, _, _, b1, _⟩ => by omega)
                    clear g3 g4
                    go_wp2
                    go_ret
                    exact ⟨rfl, hal⟩
                  · by_cases g7 : 1073741824 < seq
                    · obtain rfl := BAD.out (fun ⟨_, _, _, _, _, _, b1⟩ => by omega)
                      clear g3 g4
                      go_wp2
                      go_ret
                      exact ⟨rfl, hal⟩
                    · have hgood : E = 0 := by rw [HB.out, if_pos (HBN.out.2 ⟨by omega, by omega, g3, g4, by omega, by omega, by omega⟩)]
                      subst hgood
                      clear g3 g4
                      go_wp2
                      go_ret
                      exact ⟨rfl, hal⟩
      · have d1 := eqB_of (s := bytesOf (kindL true)) (l := [103, 111, 110, 101]) (by rw [hkd]; rfl)
        have d2 := neB_of (s := bytesOf (kindL true)) (l := [100, 97, 116, 97]) (by rw [hkd]; decide)
        have hqq : q.data.toList = [45] := by simpa [partB] using hpb
        have d3 := eqB_of hqq
        generalize wordB 12 q.data.toList = wb
        generalize bytesOf (kindL true) = kB at d1 d2 ⊢
        clear hkd hpb hqq
        go_wp2_with fail
        refine (hL _).mono ?_
        rintro e w3 ⟨rfl, hw3⟩
        rw [hw3]
        clear hw3 hL
        go_wp2_with fail
        refine (hH _).mono ?_
        rintro e w4 ⟨rfl, hw4⟩
        rw [hw4]
        clear hw4 hH
        by_cases g1 : n < 1
        · obtain rfl := BAD.out (fun ⟨b1, _⟩ => by omega)
          go_wp2
          go_ret
          exact ⟨rfl, hal⟩
        · by_cases g2 : 40 < n
          · obtain rfl := BAD.out (fun ⟨_, b1, _⟩ => by omega)
            go_wp2
            go_ret
            exact ⟨rfl, hal⟩
          · cases g3 : inNum lo with
            | false =>
              obtain rfl := BAD.out (fun ⟨_, _, b1, _⟩ => by rw [g3] at b1; cases b1)
              clear g3
              go_wp2
              go_ret
              exact ⟨rfl, hal⟩
            | true =>
              cases g4 : inNum hi with
              | false =>
                obtain rfl := BAD.out (fun ⟨_, _, _, b1, _⟩ => by rw [g4] at b1; cases b1)
                clear g3 g4
                go_wp2
                go_ret
                exact ⟨rfl, hal⟩
              | true =>
                by_cases g5 : hi < lo
                · obtain rfl := BAD.out (fun ⟨_, _, _, _, b1, _⟩ => by omega)
                  clear g3 g4
                  go_wp2
                  go_ret
                  exact ⟨rfl, hal⟩
                · by_cases g6 : seq < 1
                  · obtain rfl := BAD.out (fun ⟨_, _, _, _, _, b1, _⟩ => by omega)
                    clear g3 g4
                    go_wp2
                    go_ret
                    exact ⟨rfl, hal⟩
                  · by_cases g7 : 1073741824 < seq
                    · obtain rfl := BAD.out (fun ⟨_, _, _, _, _, _, b1⟩ => by omega)
                      clear g3 g4
                      go_wp2
                      go_ret
                      exact ⟨rfl, hal⟩
                    · have hgood : E = 0 := by rw [HB.out, if_pos (HBN.out.2 ⟨by omega, by omega, g3, g4, by omega, by omega, by omega⟩)]
                      subst hgood
                      clear g3 g4
                      go_wp2
                      go_ret
                      exact ⟨rfl, hal⟩
    · have hEE : E = 4 := by rw [HEE.out, if_neg hpb]
      subst hEE
      clear HEE hL hH
      cases g
      · have d1 := neB_of (s := bytesOf (kindL false)) (l := [103, 111, 110, 101]) (by rw [hkd]; decide)
        have d2 := eqB_of (s := bytesOf (kindL false)) (l := [100, 97, 116, 97]) (by rw [hkd]; rfl)
        have hwb : wordB 12 q.data.toList = false := by simpa [partB] using hpb
        rw [hwb]
        generalize bytesOf (kindL false) = kB at d1 d2 ⊢
        clear hkd hpb hwb
        go_wp2
        go_ret
        exact ⟨rfl, hal⟩
      · have d1 := eqB_of (s := bytesOf (kindL true)) (l := [103, 111, 110, 101]) (by rw [hkd]; rfl)
        have hqq : q.data.toList ≠ [45] := by simpa [partB] using hpb
        have d3 := neB_of hqq
        generalize wordB 12 q.data.toList = wb
        generalize bytesOf (kindL true) = kB at d1 ⊢
        clear hkd hpb hqq
        go_wp2
        go_ret
        exact ⟨rfl, hal⟩

set_option maxRecDepth 100000 in
set_option maxHeartbeats 8000000 in
theorem fileText_any (f : Fl) (w : World) (h1 : f.1.size ≤ 100000) (h2 : f.2.1.size ≤ 100000) :
    Calls Tryz.prog 22 #[flV f] w fun e w' => e = .returned (.string (fileB f)) ∧ Below w.heap.size w w' := by
  have hal : Below w.heap.size w (w.alloc (.cells #[.string f.1, .string f.2.1, .int .i64 f.2.2.1, .int .i64 f.2.2.2.1, .int .i64 f.2.2.2.2.1, .int .i64 f.2.2.2.2.2] 23)) := (Below.refl _ _).alloc (Nat.le_refl _) _
  have hfl := FlAt.new w f
  have hck := fun W => fileError_any f W h1 h2
  have hbd : fileE f = 0 → (inNum f.2.2.1 = true ∧ inNum f.2.2.2.1 = true ∧ inNum f.2.2.2.2.1 = true ∧ inNum f.2.2.2.2.2 = true) := fun he => let ⟨_, _, _, _, hb⟩ := file_good he; bnd_nums hb
  unfold fileB
  by_cases he : fileE f = 0
  · rw [if_pos he]
    rw [he] at hck
    have hb := hbd he
    clear hbd he
    obtain ⟨p, q, n, lo, hi, seq⟩ := f
    dsimp only at h1 h2 hal hb
    unfold flV at hck ⊢
    dsimp only at hck ⊢
    obtain ⟨b1, b2, b3, b4⟩ := hb
    have sz : ∀ m : Int, inNum m = true → (bytesOf (itoa m)).size ≤ 11 := fun m hm => by
      simp only [inNum, Bool.and_eq_true, decide_eq_true_eq] at hm
      simpa [bytesOf, ByteArray.size] using itoa_len m hm.1 hm.2
    have s1 := sz n b1
    have s2 := sz lo b2
    have s3 := sz hi b3
    have s4 := sz seq b4
    clear sz
    have HT : Hid (p ++ sp ++ q ++ sp ++ bytesOf (itoa n) ++ sp ++ bytesOf (itoa lo) ++ sp ++ bytesOf (itoa hi) ++ sp ++ bytesOf (itoa seq) = bytesOf (fileL (p, q, n, lo, hi, seq))) := by
      show _ = _
      rw [← bytesOf_data (p ++ sp ++ q ++ sp ++ bytesOf (itoa n) ++ sp ++ bytesOf (itoa lo) ++ sp ++ bytesOf (itoa hi) ++ sp ++ bytesOf (itoa seq))]
      congr 1
      simp [fileL, sp, bytesOf, ByteArray.data_append]
    rw [← HT.out]
    unfold sp
    have hm : Tryz.prog.follows .mixedOrders = true := by kernel_rfl
    go_enter Tryz.func22, Tryz.ntmps22
    go_wp2_with fail
    generalize w.alloc (.cells #[.string p, .string q, .int .i64 n, .int .i64 lo, .int .i64 hi, .int .i64 seq] 23) = WA at hal hfl ⊢
    refine (hck _).mono ?_
    rintro e w1 ⟨rfl, hb1⟩
    clear hck
    have hB1 : Below w.heap.size w w1 := hal.trans (hb1.mono hal.size)
    obtain ⟨c0, c1, c2, c3, c4, c5, _⟩ := (hfl.below hb1).cells
    dsimp only at c0 c1 c2 c3 c4 c5
    have d0 := fun n os => cell_grown (cell_lt c0) c0 n os
    have d1 := fun n os => cell_grown (cell_lt c1) c1 n os
    have d2 := fun n os => cell_grown (cell_lt c2) c2 n os
    have d3 := fun n os => cell_grown (cell_lt c3) c3 n os
    have d4 := fun n os => cell_grown (cell_lt c4) c4 n os
    have d5 := fun n os => cell_grown (cell_lt c5) c5 n os
    have hI : ∀ m : Int, inNum m = true → ∀ n os, Calls Tryz.prog 81 #[.int .i64 m] (grow (w1.drewN n) os) fun e w' => e = .returned (.string (bytesOf (itoa m))) ∧ ∃ q os', w' = grow ((grow (w1.drewN n) os).drewN q) os' := fun m hm n os => by
      simp only [inNum, Bool.and_eq_true, decide_eq_true_eq] at hm
      exact decimal_any m _ (by omega) (by omega)
    clear hfl
    have m0 : ¬ 9223372036854775806 < p.size := by omega
    have n0 : ¬ 9223372036854775807 < p.size + 1 := by omega
    have n1 : ¬ 9223372036854775807 < p.size + 1 + q.size := by omega
    have m2 : ¬ 9223372036854775806 < p.size + 1 + q.size := by omega
    have n2 : ¬ 9223372036854775807 < p.size + 1 + q.size + 1 := by omega
    have n3 : ¬ 9223372036854775807 < p.size + 1 + q.size + 1 + (bytesOf (itoa n)).size := by omega
    have m4 : ¬ 9223372036854775806 < p.size + 1 + q.size + 1 + (bytesOf (itoa n)).size := by omega
    have n4 : ¬ 9223372036854775807 < p.size + 1 + q.size + 1 + (bytesOf (itoa n)).size + 1 := by omega
    have n5 : ¬ 9223372036854775807 < p.size + 1 + q.size + 1 + (bytesOf (itoa n)).size + 1 + (bytesOf (itoa lo)).size := by omega
    have m6 : ¬ 9223372036854775806 < p.size + 1 + q.size + 1 + (bytesOf (itoa n)).size + 1 + (bytesOf (itoa lo)).size := by omega
    have n6 : ¬ 9223372036854775807 < p.size + 1 + q.size + 1 + (bytesOf (itoa n)).size + 1 + (bytesOf (itoa lo)).size + 1 := by omega
    have n7 : ¬ 9223372036854775807 < p.size + 1 + q.size + 1 + (bytesOf (itoa n)).size + 1 + (bytesOf (itoa lo)).size + 1 + (bytesOf (itoa hi)).size := by omega
    have m8 : ¬ 9223372036854775806 < p.size + 1 + q.size + 1 + (bytesOf (itoa n)).size + 1 + (bytesOf (itoa lo)).size + 1 + (bytesOf (itoa hi)).size := by omega
    have n8 : ¬ 9223372036854775807 < p.size + 1 + q.size + 1 + (bytesOf (itoa n)).size + 1 + (bytesOf (itoa lo)).size + 1 + (bytesOf (itoa hi)).size + 1 := by omega
    have n9 : ¬ 9223372036854775807 < p.size + 1 + q.size + 1 + (bytesOf (itoa n)).size + 1 + (bytesOf (itoa lo)).size + 1 + (bytesOf (itoa hi)).size + 1 + (bytesOf (itoa seq)).size := by omega
    clear s1 s2 s3 s4 h1 h2
    go_wp2_with fail
    go_quiet_grown ((go_at_call 81; exact Calls.grown_of (hI _ (by assumption) _ _)))
    go_wp2
    go_ret
    exact ⟨rfl, hB1.trans ((grow_below nq osq).mono hB1.size)⟩
  · rw [if_neg he]
    generalize fileE f = E at he hck
    have hE : (0 : Int) < (E : Int) := by omega
    clear he hbd
    obtain ⟨p, q, n, lo, hi, seq⟩ := f
    dsimp only at h1 h2 hal
    unfold flV at hck ⊢
    dsimp only at hck ⊢
    go_enter Tryz.func22, Tryz.ntmps22
    go_wp2_with fail
    generalize w.alloc (.cells #[.string p, .string q, .int .i64 n, .int .i64 lo, .int .i64 hi, .int .i64 seq] 23) = WA at hal hfl ⊢
    refine (hck _).mono ?_
    rintro e w1 ⟨rfl, hb1⟩
    clear hck
    go_wp2
    go_ret
    exact ⟨rfl, hal.trans (hb1.mono hal.size)⟩
end Go.Proofs.YtpkoefpdpoikkaaGreatDoor
namespace Go.Proofs.YtpkoefpdpoikkaaGreatDoor
open Go.RowKit Go.Extern.Stop Go.Stop Go.Extern Go.Sort Go.Shelf Go.Lib

def flSet (W : World) (b : Nat) (f : Fl) : World := (((((W.setCell ⟨b, 0, none⟩ (.string f.1)).setCell ⟨b, 1, none⟩ (.string f.2.1)).setCell ⟨b, 2, none⟩ (.int .i64 f.2.2.1)).setCell ⟨b, 3, none⟩ (.int .i64 f.2.2.2.1)).setCell ⟨b, 4, none⟩ (.int .i64 f.2.2.2.2.1)).setCell ⟨b, 5, none⟩ (.int .i64 f.2.2.2.2.2)

theorem FlAt.set {W : World} {b : Nat} {f : Fl} (h : FlAt W b f) (f' : Fl) : FlAt (flSet W b f') b f' := by
  unfold FlAt flSet at *
  rw [heap_setCell_same _ _ _ _ _ _ (heap_setCell_same _ _ _ _ _ _ (heap_setCell_same _ _ _ _ _ _ (heap_setCell_same _ _ _ _ _ _ (heap_setCell_same _ _ _ _ _ _ (heap_setCell_same _ _ _ _ _ _ h)))))]
  rfl
theorem flSet_below {W W0 : World} {B b : Nat} {f : Fl} (h : Below B W0 W) (hb : B ≤ b) : Below B W0 (flSet W b f) := (((((h.setCell hb _).setCell hb _).setCell hb _).setCell hb _).setCell hb _).setCell hb _
set_option maxRecDepth 100000 in
set_option maxHeartbeats 4000000 in
theorem checked_any (f : Fl) (w : World) (a : Nat → Addr) (h : EnvK w a) (h1 : f.1.size ≤ 100000) (h2 : f.2.1.size ≤ 100000) :
    Calls Tryz.prog 65 #[flV f] w fun e w' => e = .returned (.tuple #[flV (chkF f).1, errV a (chkF f).2]) ∧ Below w.heap.size w w' := by
  have hal : Below w.heap.size w ((w.alloc (.cells #[.string f.1, .string f.2.1, .int .i64 f.2.2.1, .int .i64 f.2.2.2.1, .int .i64 f.2.2.2.2.1, .int .i64 f.2.2.2.2.2] 23)).alloc (.cells #[.string ⟨#[]⟩, .string ⟨#[]⟩, .int .i64 0, .int .i64 0, .int .i64 0, .int .i64 0] 23)) := ((Below.refl _ _).alloc (Nat.le_refl _) _).alloc (by simp) _
  have hfl : FlAt ((w.alloc (.cells #[.string f.1, .string f.2.1, .int .i64 f.2.2.1, .int .i64 f.2.2.2.1, .int .i64 f.2.2.2.2.1, .int .i64 f.2.2.2.2.2] 23)).alloc (.cells #[.string ⟨#[]⟩, .string ⟨#[]⟩, .int .i64 0, .int .i64 0, .int .i64 0, .int .i64 0] 23)) w.heap.size f := (FlAt.new w f).below ((Below.refl _ _).alloc (Nat.le_refl _) _)
  have hfz : FlAt ((w.alloc (.cells #[.string f.1, .string f.2.1, .int .i64 f.2.2.1, .int .i64 f.2.2.2.1, .int .i64 f.2.2.2.2.1, .int .i64 f.2.2.2.2.2] 23)).alloc (.cells #[.string ⟨#[]⟩, .string ⟨#[]⟩, .int .i64 0, .int .i64 0, .int .i64 0, .int .i64 0] 23)) (w.heap.size + 1) zeroF := by
    have := FlAt.new (w.alloc (.cells #[.string f.1, .string f.2.1, .int .i64 f.2.2.1, .int .i64 f.2.2.2.1, .int .i64 f.2.2.2.2.1, .int .i64 f.2.2.2.2.2] 23)) zeroF
    rw [show (w.alloc (.cells #[.string f.1, .string f.2.1, .int .i64 f.2.2.1, .int .i64 f.2.2.2.1, .int .i64 f.2.2.2.2.1, .int .i64 f.2.2.2.2.2] 23)).heap.size = w.heap.size + 1 by simp] at this
    exact this
  have hck := fcheck_any f _ a (h.below hal) h1 h2
  unfold chkF
  by_cases he : fileE f = 0
  · rw [if_pos he]
    rw [he] at hck
    clear he
    obtain ⟨p, q, n, lo, hi, seq⟩ := f
    unfold flV at hck ⊢
    dsimp only at hck hal hfl hfz ⊢
    simp only [errV] at hck ⊢
    go_enter Tryz.func65, Tryz.ntmps65
    go_wp2_with fail
    generalize (w.alloc (.cells #[.string p, .string q, .int .i64 n, .int .i64 lo, .int .i64 hi, .int .i64 seq] 23)).alloc (.cells #[.string ⟨#[]⟩, .string ⟨#[]⟩, .int .i64 0, .int .i64 0, .int .i64 0, .int .i64 0] 23) = WA at hal hfl hfz hck ⊢
    refine hck.mono ?_
    rintro e w1 ⟨rfl, hb1⟩
    clear hck
    have hB1 : Below w.heap.size w w1 := hal.trans (hb1.mono hal.size)
    obtain ⟨x0, x1, x2, x3, x4, x5, _⟩ := (hfl.below hb1).cells
    have hz1 := hfz.below hb1
    obtain ⟨y0, y1, y2, y3, y4, y5, yf⟩ := hz1.cells
    obtain ⟨z0, z1, z2, z3, z4, z5, zf⟩ := (hz1.set (p, q, n, lo, hi, seq)).cells
    have hB2 := flSet_below (f := (p, q, n, lo, hi, seq)) hB1 (Nat.le_succ w.heap.size)
    unfold flSet at z0 z1 z2 z3 z4 z5 zf hB2
    dsimp only at x0 x1 x2 x3 x4 x5 y0 y1 y2 y3 y4 y5 z0 z1 z2 z3 z4 z5 zf hB2
    simp only [zeroF] at y0 y1 y2 y3 y4 y5
    clear hfl hfz hz1
    go_wp2
    exact bodyPost_ret (v := .tuple #[.agg #[.string p, .string q, .int .i64 n, .int .i64 lo, .int .i64 hi, .int .i64 seq], .nilIface]) (by simp [results, Tryz.results65, go_sem, z0, z1, z2, z3, z4, z5]) rfl ⟨rfl, hB2⟩
  · rw [if_neg he]
    obtain ⟨j, hj⟩ : ∃ j, fileE f = j + 1 := ⟨fileE f - 1, by omega⟩
    rw [hj] at hck ⊢
    clear he hj
    obtain ⟨p, q, n, lo, hi, seq⟩ := f
    unfold flV zeroF at *
    dsimp only at hck hal hfl hfz ⊢
    simp only [errV] at hck ⊢
    go_enter Tryz.func65, Tryz.ntmps65
    go_wp2_with fail
    generalize (w.alloc (.cells #[.string p, .string q, .int .i64 n, .int .i64 lo, .int .i64 hi, .int .i64 seq] 23)).alloc (.cells #[.string ⟨#[]⟩, .string ⟨#[]⟩, .int .i64 0, .int .i64 0, .int .i64 0, .int .i64 0] 23) = WA at hal hfl hfz hck ⊢
    refine hck.mono ?_
    rintro e w1 ⟨rfl, hb1⟩
    clear hck
    have hB1 : Below w.heap.size w w1 := hal.trans (hb1.mono hal.size)
    have hz1 := hfz.below hb1
    obtain ⟨y0, y1, y2, y3, y4, y5, yf⟩ := hz1.cells
    dsimp only at y0 y1 y2 y3 y4 y5
    simp only [bytesOf] at y0 y1
    have s0 := setCell_self y0
    have s1 := setCell_self y1
    have s2 := setCell_self y2
    have s3 := setCell_self y3
    have s4 := setCell_self y4
    have s5 := setCell_self y5
    clear hfl hfz hz1
    go_wp2
    exact bodyPost_ret (v := .tuple #[.agg #[.string ⟨#[]⟩, .string ⟨#[]⟩, .int .i64 0, .int .i64 0, .int .i64 0, .int .i64 0], .iface 289 (.pointer (some (a j)))]) (by simp [results, Tryz.results65, go_sem, y0, y1, y2, y3, y4, y5]) rfl ⟨rfl, hB1⟩

theorem fl_len {f : Fl} (h : fileE f = 0) : (fileL f).length ≤ f.1.size + f.2.1.size + 60 := by
  obtain ⟨g, n, _, _, hb⟩ := file_good h
  obtain ⟨b1, b2, b3, b4⟩ := bnd_nums hb
  simp only [inNum, Bool.and_eq_true, decide_eq_true_eq] at b1 b2 b3 b4
  have l1 := itoa_len _ b1.1 b1.2
  have l2 := itoa_len _ b2.1 b2.2
  have l3 := itoa_len _ b3.1 b3.2
  have l4 := itoa_len _ b4.1 b4.2
  unfold fileL
  simp only [List.length_append, List.length_cons, size_list]
  omega

set_option maxRecDepth 100000 in
set_option maxHeartbeats 8000000 in
theorem ftext_any (f : Fl) (w : World) (a : Nat → Addr) (h : EnvK w a) (h1 : f.1.size ≤ 100000) (h2 : f.2.1.size ≤ 100000) :
    Calls Tryz.prog 13 #[flV f] w fun e w' => e = .returned (.string (fileB f)) ∧ Below w.heap.size w w' := by
  have hal : Below w.heap.size w (w.alloc (.cells #[.string f.1, .string f.2.1, .int .i64 f.2.2.1, .int .i64 f.2.2.2.1, .int .i64 f.2.2.2.2.1, .int .i64 f.2.2.2.2.2] 23)) := (Below.refl _ _).alloc (Nat.le_refl _) _
  have hfl := FlAt.new w f
  have hck := fcheck_any f _ a (h.below hal) h1 h2
  have hbd : fileE f = 0 → (inNum f.2.2.1 = true ∧ inNum f.2.2.2.1 = true ∧ inNum f.2.2.2.2.1 = true ∧ inNum f.2.2.2.2.2 = true) := fun he => let ⟨_, _, _, _, hb⟩ := file_good he; bnd_nums hb
  have hln := @fl_len f
  unfold fileB
  by_cases he : fileE f = 0
  · rw [if_pos he]
    rw [he] at hck
    have hb := hbd he
    have hl := hln he
    clear hbd hln he
    obtain ⟨p, q, n, lo, hi, seq⟩ := f
    dsimp only at h1 h2 hal hb hl
    unfold flV at hck ⊢
    dsimp only at hck ⊢
    simp only [errV] at hck
    simp only [inNum, Bool.and_eq_true, decide_eq_true_eq] at hb
    go_enter Tryz.func13, Tryz.ntmps13
    go_wp2_with fail
    generalize w.alloc (.cells #[.string p, .string q, .int .i64 n, .int .i64 lo, .int .i64 hi, .int .i64 seq] 23) = WA at hal hfl hck ⊢
    refine hck.mono ?_
    rintro e W0 ⟨rfl, hb1⟩
    clear hck
    have hB1 : Below w.heap.size w W0 := hal.trans (hb1.mono hal.size)
    have hEA := (h.below hB1).env
    obtain ⟨x0, x1, x2, x3, x4, x5, _⟩ := (hfl.below hb1).cells
    dsimp only at x0 x1 x2 x3 x4 x5
    clear hfl
    generalize w.heap.size = g at x0 x1 x2 x3 x4 x5
    have hb0 : Below W0.heap.size W0 W0 := Below.refl _ _
    go_wp2_with fail
    go_region_held3 (fun w' => w'.cell? ⟨g, 0, none⟩ = some (.string p) ∧ w'.cell? ⟨g, 1, none⟩ = some (.string q) ∧ w'.cell? ⟨g, 2, none⟩ = some (.int .i64 n) ∧ w'.cell? ⟨g, 3, none⟩ = some (.int .i64 lo) ∧ w'.cell? ⟨g, 4, none⟩ = some (.int .i64 hi) ∧ w'.cell? ⟨g, 5, none⟩ = some (.int .i64 seq) ∧ Below W0.heap.size W0 w')
      (first
        | (go_split_ands; exact ⟨below_keep hbX (by assumption), below_keep hbX (by assumption), below_keep hbX (by assumption), below_keep hbX (by assumption), below_keep hbX (by assumption), below_keep hbX (by assumption), Below.trans (by assumption) (hbX.mono (Below.size (by assumption)))⟩)
        | (go_split_ands; exact ⟨by go_keep, by go_keep, by go_keep, by go_keep, by go_keep, by go_keep, by assumption⟩)
        | (go_split_ands; exact ⟨by go_keep, by go_keep, by go_keep, by go_keep, by go_keep, by go_keep, Below.drew (by assumption)⟩)
        | (go_split_ands; exact ⟨by go_keep, by go_keep, by go_keep, by go_keep, by go_keep, by go_keep, Below.alloc (by assumption) (Below.size (by assumption)) _⟩))
      (first
        | (go_at_call 61; refine (itoa_s _ _ (hEA.below (by go_split_ands; assumption)).base (by omega) (by omega)).mono ?_; rintro e w2 ⟨rfl, hbX⟩))
    go_split_ands
    have hbE : Below W0.heap.size W0 (w2.alloc (.cells #[.string p, .string q, .string (bytesOf (itoa n)), .string (bytesOf (itoa lo)), .string (bytesOf (itoa hi)), .string (bytesOf (itoa seq))] 9)) := by assumption
    have hBE : Below w.heap.size w (w2.alloc (.cells #[.string p, .string q, .string (bytesOf (itoa n)), .string (bytesOf (itoa lo)), .string (bytesOf (itoa hi)), .string (bytesOf (itoa seq))] 9)) := hB1.trans (hbE.mono hB1.size)
    have hjl : (Lib.join ([p, q, bytesOf (itoa n), bytesOf (itoa lo), bytesOf (itoa hi), bytesOf (itoa seq)].map (·.data.toList)) (⟨#[32]⟩ : ByteArray).data.toList) = fileL (p, q, n, lo, hi, seq) := by
      simp [Lib.join, fileL, bytesOf]
    have hj := Tryz.strings_Join w2.heap.size 0 6 [p, q, bytesOf (itoa n), bytesOf (itoa lo), bytesOf (itoa hi), bytesOf (itoa seq)] ⟨#[32]⟩ (w2.alloc (.cells #[.string p, .string q, .string (bytesOf (itoa n)), .string (bytesOf (itoa lo)), .string (bytesOf (itoa hi)), .string (bytesOf (itoa seq))] 9)) (fun j x hx => by
        rw [Nat.zero_add, cell_of_row _ _ _ _ _ _ (heap_alloc_new _ _)]
        match j, hx with
        | 0, hx => simp at hx; subst hx; rfl
        | 1, hx => simp at hx; subst hx; rfl
        | 2, hx => simp at hx; subst hx; rfl
        | 3, hx => simp at hx; subst hx; rfl
        | 4, hx => simp at hx; subst hx; rfl
        | 5, hx => simp at hx; subst hx; rfl
        | j + 6, hx => simp at hx) (by simp) (by simp) (by simp) (by rw [hjl]; omega)
    rw [hjl] at hj
    clear hjl hl
    generalize w2.alloc (.cells #[.string p, .string q, .string (bytesOf (itoa n)), .string (bytesOf (itoa lo)), .string (bytesOf (itoa hi)), .string (bytesOf (itoa seq))] 9) = WE at hj hBE ⊢
    go_wp2_with fail
    refine hj.mono ?_
    rintro e w9 ⟨rfl, hb9⟩
    go_wp2
    go_ret
    exact ⟨rfl, hBE.trans (hb9.mono hBE.size)⟩
  · rw [if_neg he]
    obtain ⟨j, hj⟩ : ∃ j, fileE f = j + 1 := ⟨fileE f - 1, by omega⟩
    rw [hj] at hck
    clear hbd hln he hj
    obtain ⟨p, q, n, lo, hi, seq⟩ := f
    dsimp only at h1 h2 hal
    unfold flV at hck ⊢
    dsimp only at hck ⊢
    simp only [errV] at hck
    go_enter Tryz.func13, Tryz.ntmps13
    go_wp2_with fail
    generalize w.alloc (.cells #[.string p, .string q, .int .i64 n, .int .i64 lo, .int .i64 hi, .int .i64 seq] 23) = WA at hal hfl hck ⊢
    refine hck.mono ?_
    rintro e W0 ⟨rfl, hb1⟩
    clear hck
    have hB1 : Below w.heap.size w W0 := hal.trans (hb1.mono hal.size)
    go_wp2
    go_ret
    exact ⟨rfl, hB1⟩
end Go.Proofs.YtpkoefpdpoikkaaGreatDoor
namespace Go.Proofs.YtpkoefpdpoikkaaGreatDoor
open Go.RowKit Go.Extern.Stop Go.Stop Go.Extern Go.Sort Go.Shelf Go.Lib

theorem neqF (f : Fl) (w : World) : (binOp .neq 23 (flV f) (flV f)).run Tryz.prog w = .ok (.bool false) w := by
  have u3 := Tryz.underlying3
  have u9 := Tryz.underlying9
  have a3 := Tryz.isAgg3
  have z3 := Tryz.sizeOf3
  have a9 := Tryz.isAgg9
  have z9 := Tryz.sizeOf9
  have hS : Tryz.prog.underlying 23 = some (.struct (Tryz.prog.fieldsOf 23)) := by kernel_rfl
  have hp : Tryz.prog.stoodInHeld 23 = false := by kernel_rfl
  obtain ⟨p, q, n, lo, hi, seq⟩ := f
  unfold flV
  dsimp only
  rw [run_neq_struct, show (10000 : Nat) = 9999 + 1 from rfl, run_equalIn_agg w 9999 23 _ _ hS hp]
  simp only [Program.fieldsOf, Tryz.underlying23]
  go_simp

theorem guardF : GuardAt Tryz.prog 23 flV := GuardAt.agg _ (by kernel_rfl)

def longFB (f : Fl) : Bool := decide (30 < f.1.size) || decide (30 < f.2.1.size)

theorem longFile_any (f : Fl) (w : World) (h1 : f.1.size ≤ maxLen) (h2 : f.2.1.size ≤ maxLen) :
    Calls Tryz.prog 10 #[flV f] w fun e w' => e = .returned (.int .i64 (if longFB f then 1 else 0)) ∧ Below w.heap.size w w' := by
  have hal : Below w.heap.size w (w.alloc (.cells #[.string f.1, .string f.2.1, .int .i64 f.2.2.1, .int .i64 f.2.2.2.1, .int .i64 f.2.2.2.2.1, .int .i64 f.2.2.2.2.2] 23)) := (Below.refl _ _).alloc (Nat.le_refl _) _
  have hfl := FlAt.new w f
  unfold maxLen at h1 h2
  obtain ⟨p, q, n, lo, hi, seq⟩ := f
  unfold flV longFB
  dsimp only at h1 h2 hal hfl ⊢
  by_cases hp : 30 < p.size
  · have e : (decide (30 < p.size) || decide (30 < q.size)) = true := by simp [hp]
    rw [e, if_pos rfl]
    clear e
    go_enter Tryz.func10, Tryz.ntmps10
    go_wp2
    go_ret
    exact ⟨rfl, hal⟩
  · by_cases hq : 30 < q.size
    · have e : (decide (30 < p.size) || decide (30 < q.size)) = true := by simp [hq]
      rw [e, if_pos rfl]
      clear e
      go_enter Tryz.func10, Tryz.ntmps10
      go_wp2
      go_ret
      exact ⟨rfl, hal⟩
    · have e : (decide (30 < p.size) || decide (30 < q.size)) = false := by simp [hp, hq]
      rw [e, if_neg (by simp)]
      clear e
      go_enter Tryz.func10, Tryz.ntmps10
      go_wp2
      go_ret
      exact ⟨rfl, hal⟩
end Go.Proofs.YtpkoefpdpoikkaaGreatDoor
