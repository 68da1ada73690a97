/-
  The contracts of the document's own functions on rows: IsName, IsFar, RowError, IsLess, InInts.
-/
import Derived.Test.YtgffkkijfmoooaaGreatDoorRowLaw
namespace Go.Proofs.YtgffkkijfmoooaaGreatDoor
open Go.RowKit Go.Extern.Stop Go.Stop Go.Extern Go.Sort Go.Shelf Go.Lib

theorem isFar_any (n : Int) (w : World) : Calls Tryz.prog 59 #[.int .i64 n] w fun e w' => e = .returned (.bool (!inNum n)) ∧ w' = w := by
  by_cases h1 : n < -1073741824
  · have hr : inNum n = false := by simp [inNum]; omega
    rw [hr]
    go_enter Tryz.func59, Tryz.ntmps59
    go_wp2
    go_ret
    exact ⟨rfl, rfl⟩
  · by_cases h2 : 1073741824 < n
    · have hr : inNum n = false := by simp [inNum]; omega
      rw [hr]
      go_enter Tryz.func59, Tryz.ntmps59
      go_wp2
      go_ret
      exact ⟨rfl, rfl⟩
    · have hr : inNum n = true := by simp [inNum]; omega
      rw [hr]
      go_enter Tryz.func59, Tryz.ntmps59
      go_wp2
      go_ret
      exact ⟨rfl, rfl⟩

set_option maxHeartbeats 2000000 in
theorem isWord_any (s : ByteArray) (m : Nat) (w : World) (hs : s.size ≤ maxLen) : Calls Tryz.prog 21 #[.string s, .int .i64 m] w fun e w' => e = .returned (.bool (wordB m s.data.toList)) ∧ w' = w := by
  unfold maxLen at hs
  have hsz := size_list s
  generalize hr : wordB m s.data.toList = r
  have HR : Hid (wordB m s.data.toList = r) := hr
  have HS : Hid (s.data.toList.length = s.size) := hsz
  clear hr hsz
  go_enter Tryz.func21, Tryz.ntmps21
  go_wp2
  go_loop [5] (fun k => ∃ n : Nat, n ≤ s.size ∧ (∀ j c, j < n → s.data.toList[j]? = some c → nbI c.toNat = true) ∧ k = .int .i64 n) (fun k => s.size - (intOf k).toNat)
  case atStart => exact ⟨0, by omega, by omega, rfl⟩
  case round =>
    obtain ⟨n, hn, ht, rfl⟩ := hrel
    have HT : Hid (∀ j c, j < n → s.data.toList[j]? = some c → nbI c.toNat = true) := ht
    clear ht
    by_cases hlt : n < s.size
    · have hi : (n : Int) < (s.size : Int) := by omega
      have hbl := byte_list s n hlt
      have HB : Hid (s.data.toList[n]? = some s[n]) := hbl
      clear hbl
      have bad : nbI (s[n].toNat : Int) = false → r = false := fun hv => by
        rw [← HR.out]
        simp only [wordB, Bool.and_eq_false_iff]
        right
        rw [List.all_eq_false]
        exact ⟨s[n], List.mem_of_getElem? HB.out, by rw [hv]; simp⟩
      have good : nbI (s[n].toNat : Int) = true → ∀ j c, j < n + 1 → s.data.toList[j]? = some c → nbI c.toNat = true := fun hv => all_succ HT.out hlt hv
      have BAD : Hid (nbI (s[n].toNat : Int) = false → r = false) := bad
      have GOOD : Hid (nbI (s[n].toNat : Int) = true → ∀ j c, j < n + 1 → s.data.toList[j]? = some c → nbI c.toNat = true) := good
      clear bad good
      by_cases h1 : 97 ≤ (s[n].toNat : Int)
      · by_cases h2 : (s[n].toNat : Int) ≤ 122
        · have hv : nbI (s[n].toNat : Int) = true := by unfold nbI; simp only [h1, h2, decide_true, Bool.and_self, Bool.true_or]
          have G : Hid (∀ j c, j < n + 1 → s.data.toList[j]? = some c → nbI c.toNat = true) := GOOD.out hv
          clear hv
          have h3 : (48 : Int) ≤ (s[n].toNat : Int) := by omega
          have h4 : ¬ (s[n].toNat : Int) ≤ 57 := by omega
          go_wp2
          go_round
          case rel => exact ⟨n + 1, by omega, G.out, by go_num⟩
          case measure => simp [intOf]; omega
        · have h3 : (48 : Int) ≤ (s[n].toNat : Int) := by omega
          have h4 : ¬ (s[n].toNat : Int) ≤ 57 := by omega
          have hv : nbI (s[n].toNat : Int) = false := by unfold nbI; simp only [h1, h2, h3, h4, decide_true, decide_false, Bool.and_false, Bool.or_self]
          have hr := BAD.out hv
          subst hr
          clear hv
          go_wp2
          go_ret
          exact ⟨rfl, rfl⟩
      · have h2 : (s[n].toNat : Int) ≤ 122 := by omega
        by_cases h3 : 48 ≤ (s[n].toNat : Int)
        · by_cases h4 : (s[n].toNat : Int) ≤ 57
          · have hv : nbI (s[n].toNat : Int) = true := by unfold nbI; simp only [h1, h3, h4, decide_true, decide_false, Bool.and_self, Bool.false_and, Bool.false_or]
            have G : Hid (∀ j c, j < n + 1 → s.data.toList[j]? = some c → nbI c.toNat = true) := GOOD.out hv
            clear hv
            go_wp2
            go_round
            case rel => exact ⟨n + 1, by omega, G.out, by go_num⟩
            case measure => simp [intOf]; omega
          · have hv : nbI (s[n].toNat : Int) = false := by unfold nbI; simp only [h1, h3, h4, decide_true, decide_false, Bool.and_false, Bool.false_and, Bool.or_self]
            have hr := BAD.out hv
            subst hr
            clear hv
            go_wp2
            go_ret
            exact ⟨rfl, rfl⟩
        · have hv : nbI (s[n].toNat : Int) = false := by unfold nbI; simp only [h1, h3, decide_false, Bool.false_and, Bool.or_self]
          have hr := BAD.out hv
          subst hr
          clear hv
          go_wp2
          go_ret
          exact ⟨rfl, rfl⟩
    · have hall : s.data.toList.all (fun c => nbI c.toNat) = true := by
        rw [List.all_eq_true]
        intro c hc
        obtain ⟨k, hk⟩ := List.mem_iff_getElem?.1 hc
        have hk' : k < s.data.toList.length := by
          rcases Nat.lt_or_ge k s.data.toList.length with h | h
          · exact h
          · rw [List.getElem?_eq_none h] at hk; cases hk
        have := HS.out
        exact HT.out k c (by omega) hk
      have hrr : r = (decide (1 ≤ s.size) && decide (s.size ≤ m)) := by
        rw [← HR.out]
        unfold wordB
        rw [hall, HS.out, Bool.and_true]
      have hn' : n = s.size := by omega
      subst hn'
      clear hall
      by_cases g1 : 1 ≤ s.size
      · by_cases g2 : s.size ≤ m
        · have e : r = true := by rw [hrr]; simp [g1, g2]
          subst e
          clear hrr
          have g3 : decide ((s.size : Int) ≤ (m : Int)) = true := decide_eq_true (by omega)
          have G3 : Hid (decide ((s.size : Int) ≤ (m : Int)) = true) := g3
          clear g3
          go_wp2
          go_ret
          exact ⟨congrArg (fun b => Ending.returned (Value.bool b)) (by first | exact G3.out | (simp <;> omega)), rfl⟩
        · have e : r = false := by rw [hrr]; simp [g2]
          subst e
          clear hrr
          have g3 : decide ((s.size : Int) ≤ (m : Int)) = false := decide_eq_false (by omega)
          have G3 : Hid (decide ((s.size : Int) ≤ (m : Int)) = false) := g3
          clear g3
          go_wp2
          go_ret
          exact ⟨congrArg (fun b => Ending.returned (Value.bool b)) (by first | exact G3.out | (simp <;> omega)), rfl⟩
      · have e : r = false := by rw [hrr]; simp [g1]
        subst e
        clear hrr
        go_wp2
        go_ret
        exact ⟨rfl, rfl⟩

theorem isName_any (s : ByteArray) (w : World) (hs : s.size ≤ maxLen) : Calls Tryz.prog 21 #[.string s, .int .i64 8] w fun e w' => e = .returned (.bool (nameB s.data.toList)) ∧ w' = w :=
  isWord_any s 8 w hs

set_option maxHeartbeats 1000000 in
theorem rowError_any (x : Rw) (w : World) (hs : x.1.size ≤ maxLen) :
    Calls Tryz.prog 24 #[.agg #[.string x.1, .int .i64 x.2.1, .int .i64 x.2.2]] w fun e w' => e = .returned (.int .i64 (rowE x)) ∧ Below w.heap.size w w' := by
  obtain ⟨p, k, v⟩ := x
  dsimp only at hs ⊢
  have hb : Below w.heap.size w (w.alloc (.cells #[.string p, .int .i64 k, .int .i64 v] 30)) := (Below.refl _ _).alloc (Nat.le_refl _) _
  have hn := isName_any p (w.alloc (.cells #[.string p, .int .i64 k, .int .i64 v] 30)) hs
  have hB := fun n W => isFar_any n W
  unfold rowE
  dsimp only
  cases h1 : nameB p.data.toList
  · rw [h1] at hn
    simp only [Bool.false_eq_true, if_false]
    clear h1
    go_enter Tryz.func24, Tryz.ntmps24
    go_wp2_with (go_at_call 21; refine hn.mono ?_; rintro e w' ⟨rfl, rfl⟩)
    go_ret
    exact ⟨rfl, hb⟩
  · rw [h1] at hn
    clear h1
    cases h2 : inNum k <;> cases h3 : inNum v
    all_goals
      simp only [if_true, Bool.false_and, Bool.and_false, Bool.and_self, Bool.false_eq_true, if_false]
      go_enter Tryz.func24, Tryz.ntmps24
      go_wp2_with (first | (go_at_call 21; refine hn.mono ?_; rintro e w' ⟨rfl, rfl⟩) | (go_at_call 59; refine (hB _ _).mono ?_; rintro e w' ⟨rfl, rfl⟩))
      go_ret
      exact ⟨rfl, hb⟩

theorem ne_succ_at {zs : List Int} {n : Nat} {x : Int} (h : ∀ j (h : j < zs.length), j < n → zs[j] ≠ x) (hn : n < zs.length) (e : zs[n] ≠ x) : ∀ j (h : j < zs.length), j < n + 1 → zs[j] ≠ x := fun j hj hjn => by
  rcases Nat.lt_or_ge j n with h' | h'
  · exact h j hj h'
  · obtain rfl : j = n := by omega
    exact e

set_option maxHeartbeats 1000000 in
theorem inInts_any (v : Value) (zs : List Int) (x : Int) (w : World) (h : KeysAt w v zs) (hl : zs.length ≤ maxLen) :
    Calls Tryz.prog 61 #[.int .i64 x, v] w fun e w' => e = .returned (.bool (zs.contains x)) ∧ w' = w := by
  unfold maxLen at hl
  rcases h with ⟨p, c, rfl, rfl⟩ | ⟨b, o, cap, rfl, hc⟩
  · clear hl
    go_enter Tryz.func61, Tryz.ntmps61
    go_wp2
    refine wp_loop_rounds 1 ?_
    rw [rounds_succ]
    go_wp2
    go_ret
    exact ⟨rfl, rfl⟩
  · generalize hL : zs.length = L at hl ⊢
    have HL : Hid (zs.length = L) := hL
    clear hL
    generalize hr : zs.contains x = r
    have HR : Hid (zs.contains x = r) := hr
    clear hr
    go_enter Tryz.func61, Tryz.ntmps61
    go_wp2
    go_loop [5] (fun k => ∃ n : Nat, n ≤ L ∧ (∀ j (h : j < zs.length), j < n → zs[j] ≠ x) ∧ k = .int .i64 n) (fun k => L - (intOf k).toNat)
    case atStart => exact ⟨0, by omega, by omega, rfl⟩
    case round =>
      obtain ⟨n, hn, ht, rfl⟩ := hrel
      have HT : Hid (∀ j (h : j < zs.length), j < n → zs[j] ≠ x) := ht
      clear ht
      by_cases hlt : n < L
      · have hlt' : n < zs.length := by rw [HL.out]; exact hlt
        have c1 := hc n hlt'
        generalize hp : zs[n] = y at c1
        have HP : Hid (zs[n] = y) := hp
        clear hp hc
        have hi : (n : Int) < (L : Int) := by omega
        by_cases e : y = x
        · have hr : r = true := by
            rw [← HR.out]
            simp only [List.contains_iff_mem]
            rw [← e, ← HP.out]; exact List.getElem_mem _
          subst hr e
          go_wp2
          go_ret
          exact ⟨rfl, rfl⟩
        · have e' : (y == x) = false := by simpa using e
          have E : Hid (¬ y = x) := e
          clear e
          go_wp2
          go_round
          case rel => exact ⟨n + 1, by omega, ne_succ_at HT.out hlt' (by rw [HP.out]; exact E.out), by go_num⟩
          case measure => simp [intOf]; omega
      · have hr : r = false := by
          rw [← HR.out]
          rw [Bool.eq_false_iff]
          intro hm
          rw [List.contains_iff_mem] at hm
          obtain ⟨j, hj, e⟩ := List.mem_iff_getElem.1 hm
          exact HT.out j hj (by rw [HL.out] at hj; omega) e
        subst hr
        have hn' : n = L := by omega
        subst hn'
        go_wp2
        go_ret
        exact ⟨rfl, rfl⟩

theorem cb_lt_iff (a b : List UInt8) : (Lib.compareBytes a b < 0) ↔ Lib.compareBytes a b = -1 := by
  rcases cb_three a b with h | h | h <;> omega
end Go.Proofs.YtgffkkijfmoooaaGreatDoor
