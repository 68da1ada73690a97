/-
  The contracts of the document's own Decimal and RowText.
-/
import Derived.Test.YtdhkdjlgmbejnaaGreatDoorFmtU
namespace Go.Proofs.YtdhkdjlgmbejnaaGreatDoor
open Go.RowKit Go.Extern.Stop Go.Stop Go.Extern Go.Sort Go.Shelf Go.Lib

theorem isFar_any (n : Int) (w : World) : Calls Tryz.prog 80 #[.int .i64 n] w fun e w' => e = .returned (.bool (!inNum n)) ∧ w' = w := by
  by_cases h1 : n < -1073741824
  · have hr : inNum n = false := by simp [inNum]; omega
    rw [hr]
    go_enter Tryz.func80, Tryz.ntmps80
    go_wp2
    go_ret
    exact ⟨rfl, rfl⟩
  · by_cases h2 : 1073741824 < n
    · have hr : inNum n = false := by simp [inNum]; omega
      rw [hr]
      go_enter Tryz.func80, Tryz.ntmps80
      go_wp2
      go_ret
      exact ⟨rfl, rfl⟩
    · have hr : inNum n = true := by simp [inNum]; omega
      rw [hr]
      go_enter Tryz.func80, Tryz.ntmps80
      go_wp2
      go_ret
      exact ⟨rfl, rfl⟩

set_option maxHeartbeats 2000000 in
theorem isWord_any (s : ByteArray) (m : Nat) (w : World) (hs : s.size ≤ maxLen) : Calls Tryz.prog 131 #[.string s, .int .i64 m] w fun e w' => e = .returned (.bool (wordB m s.data.toList)) ∧ w' = w := by
  unfold maxLen at hs
  have hsz := size_list s
  generalize hr : wordB m s.data.toList = r
  have HR : Hid (wordB m s.data.toList = r) := hr
  have HS : Hid (s.data.toList.length = s.size) := hsz
  clear hr hsz
  go_enter Tryz.func131, Tryz.ntmps131
  go_wp2
  go_loop [5] (fun k => ∃ n : Nat, n ≤ s.size ∧ (∀ j c, j < n → s.data.toList[j]? = some c → nbI c.toNat = true) ∧ k = .int .i64 n) (fun k => s.size - (intOf k).toNat)
  case atStart => exact ⟨0, by omega, by omega, rfl⟩
  case round =>
    obtain ⟨n, hn, ht, rfl⟩ := hrel
    have HT : Hid (∀ j c, j < n → s.data.toList[j]? = some c → nbI c.toNat = true) := ht
    clear ht
    by_cases hlt : n < s.size
    · have hi : (n : Int) < (s.size : Int) := by omega
      have hbl := byte_list s n hlt
      have HB : Hid (s.data.toList[n]? = some s[n]) := hbl
      clear hbl
      have bad : nbI (s[n].toNat : Int) = false → r = false := fun hv => by
        rw [← HR.out]
        simp only [wordB, Bool.and_eq_false_iff]
        right
        rw [List.all_eq_false]
        exact ⟨s[n], List.mem_of_getElem? HB.out, by rw [hv]; simp⟩
      have good : nbI (s[n].toNat : Int) = true → ∀ j c, j < n + 1 → s.data.toList[j]? = some c → nbI c.toNat = true := fun hv => all_succ HT.out hlt hv
      have BAD : Hid (nbI (s[n].toNat : Int) = false → r = false) := bad
      have GOOD : Hid (nbI (s[n].toNat : Int) = true → ∀ j c, j < n + 1 → s.data.toList[j]? = some c → nbI c.toNat = true) := good
      clear bad good
      by_cases h1 : 97 ≤ (s[n].toNat : Int)
      · by_cases h2 : (s[n].toNat : Int) ≤ 122
        · have hv : nbI (s[n].toNat : Int) = true := by unfold nbI; simp only [h1, h2, decide_true, Bool.and_self, Bool.true_or]
          have G : Hid (∀ j c, j < n + 1 → s.data.toList[j]? = some c → nbI c.toNat = true) := GOOD.out hv
          clear hv
          have h3 : (48 : Int) ≤ (s[n].toNat : Int) := by omega
          have h4 : ¬ (s[n].toNat : Int) ≤ 57 := by omega
          go_wp2
          go_round
          case rel => exact ⟨n + 1, by omega, G.out, by go_num⟩
          case measure => simp [intOf]; omega
        · have h3 : (48 : Int) ≤ (s[n].toNat : Int) := by omega
          have h4 : ¬ (s[n].toNat : Int) ≤ 57 := by omega
          have hv : nbI (s[n].toNat : Int) = false := by unfold nbI; simp only [h1, h2, h3, h4, decide_true, decide_false, Bool.and_false, Bool.or_self]
          have hr := BAD.out hv
          subst hr
          clear hv
          go_wp2
          go_ret
          exact ⟨rfl, rfl⟩
      · have h2 : (s[n].toNat : Int) ≤ 122 := by omega
        by_cases h3 : 48 ≤ (s[n].toNat : Int)
        · by_cases h4 : (s[n].toNat : Int) ≤ 57
          · have hv : nbI (s[n].toNat : Int) = true := by unfold nbI; simp only [h1, h3, h4, decide_true, decide_false, Bool.and_self, Bool.false_and, Bool.false_or]
            have G : Hid (∀ j c, j < n + 1 → s.data.toList[j]? = some c → nbI c.toNat = true) := GOOD.out hv
            clear hv
            go_wp2
            go_round
            case rel => exact ⟨n + 1, by omega, G.out, by go_num⟩
            case measure => simp [intOf]; omega
          · have hv : nbI (s[n].toNat : Int) = false := by unfold nbI; simp only [h1, h3, h4, decide_true, decide_false, Bool.and_false, Bool.false_and, Bool.or_self]
            have hr := BAD.out hv
            subst hr
            clear hv
            go_wp2
            go_ret
            exact ⟨rfl, rfl⟩
        · have hv : nbI (s[n].toNat : Int) = false := by unfold nbI; simp only [h1, h3, decide_false, Bool.false_and, Bool.or_self]
          have hr := BAD.out hv
          subst hr
          clear hv
          go_wp2
          go_ret
          exact ⟨rfl, rfl⟩
    · have hall : s.data.toList.all (fun c => nbI c.toNat) = true := by
        rw [List.all_eq_true]
        intro c hc
        obtain ⟨k, hk⟩ := List.mem_iff_getElem?.1 hc
        have hk' : k < s.data.toList.length := by
          rcases Nat.lt_or_ge k s.data.toList.length with h | h
          · exact h
          · rw [List.getElem?_eq_none h] at hk; cases hk
        have := HS.out
        exact HT.out k c (by omega) hk
      have hrr : r = (decide (1 ≤ s.size) && decide (s.size ≤ m)) := by
        rw [← HR.out]
        unfold wordB
        rw [hall, HS.out, Bool.and_true]
      have hn' : n = s.size := by omega
      subst hn'
      clear hall
      by_cases g1 : 1 ≤ s.size
      · by_cases g2 : s.size ≤ m
        · have e : r = true := by rw [hrr]; simp [g1, g2]
          subst e
          clear hrr
          have g3 : decide ((s.size : Int) ≤ (m : Int)) = true := decide_eq_true (by omega)
          have G3 : Hid (decide ((s.size : Int) ≤ (m : Int)) = true) := g3
          clear g3
          go_wp2
          go_ret
          exact ⟨congrArg (fun b => Ending.returned (Value.bool b)) (by first | exact G3.out | (simp <;> omega)), rfl⟩
        · have e : r = false := by rw [hrr]; simp [g2]
          subst e
          clear hrr
          have g3 : decide ((s.size : Int) ≤ (m : Int)) = false := decide_eq_false (by omega)
          have G3 : Hid (decide ((s.size : Int) ≤ (m : Int)) = false) := g3
          clear g3
          go_wp2
          go_ret
          exact ⟨congrArg (fun b => Ending.returned (Value.bool b)) (by first | exact G3.out | (simp <;> omega)), rfl⟩
      · have e : r = false := by rw [hrr]; simp [g1]
        subst e
        clear hrr
        go_wp2
        go_ret
        exact ⟨rfl, rfl⟩

theorem isName_any (s : ByteArray) (w : World) (hs : s.size ≤ maxLen) : Calls Tryz.prog 131 #[.string s, .int .i64 8] w fun e w' => e = .returned (.bool (nameB s.data.toList)) ∧ w' = w :=
  isWord_any s 8 w hs

set_option maxHeartbeats 1000000 in
theorem rowError_any (x : Rw) (w : World) (hs : x.1.size ≤ maxLen) :
    Calls Tryz.prog 75 #[.agg #[.string x.1, .int .i64 x.2.1, .int .i64 x.2.2]] w fun e w' => e = .returned (.int .i64 (rowE x)) ∧ Below w.heap.size w w' := by
  obtain ⟨p, k, v⟩ := x
  dsimp only at hs ⊢
  have hb : Below w.heap.size w (w.alloc (.cells #[.string p, .int .i64 k, .int .i64 v] 54)) := (Below.refl _ _).alloc (Nat.le_refl _) _
  have hn := isName_any p (w.alloc (.cells #[.string p, .int .i64 k, .int .i64 v] 54)) hs
  have hB := fun n W => isFar_any n W
  unfold rowE
  dsimp only
  cases h1 : nameB p.data.toList
  · rw [h1] at hn
    simp only [Bool.false_eq_true, if_false]
    clear h1
    go_enter Tryz.func75, Tryz.ntmps75
    go_wp2_with (go_at_call 131; refine hn.mono ?_; rintro e w' ⟨rfl, rfl⟩)
    go_ret
    exact ⟨rfl, hb⟩
  · rw [h1] at hn
    clear h1
    cases h2 : inNum k <;> cases h3 : inNum v
    all_goals
      simp only [if_true, Bool.false_and, Bool.and_false, Bool.and_self, Bool.false_eq_true, if_false]
      go_enter Tryz.func75, Tryz.ntmps75
      go_wp2_with (first | (go_at_call 131; refine hn.mono ?_; rintro e w' ⟨rfl, rfl⟩) | (go_at_call 80; refine (hB _ _).mono ?_; rintro e w' ⟨rfl, rfl⟩))
      go_ret
      exact ⟨rfl, hb⟩

end Go.Proofs.YtdhkdjlgmbejnaaGreatDoor
namespace Go.Proofs.YtdhkdjlgmbejnaaGreatDoor
open Go.RowKit Go.Extern.Stop Go.Stop Go.Extern Go.Sort Go.Shelf Go.Lib

theorem cells_three (wr : World) (xp : ByteArray) (xk xv : Int) (j : Nat) (u : Value) (hj : (encR (xp, xk, xv))[j]? = some u) : (wr.alloc (.cells #[.string xp, .int .i64 xk, .int .i64 xv] 54)).cell? ⟨wr.heap.size, j, none⟩ = some u := by
  match j, hj with
  | 0, hj => simp [encR] at hj; subst hj; simp
  | 1, hj => simp [encR] at hj; subst hj; simp
  | 2, hj => simp [encR] at hj; subst hj; simp
  | j + 3, hj => simp [encR] at hj

theorem bytesLess_cb : ∀ a b : List UInt8, Op.bytesLess a b = decide (Lib.compareBytes a b < 0)
  | [], [] => by simp [Op.bytesLess, Lib.compareBytes]
  | [], _ :: _ => by simp [Op.bytesLess, Lib.compareBytes]
  | _ :: _, [] => by simp [Op.bytesLess, Lib.compareBytes]
  | a :: us, b :: vs => by
    have ih := bytesLess_cb us vs
    unfold Op.bytesLess Lib.compareBytes
    by_cases h1 : a < b
    · simp [h1]
    · by_cases h2 : b < a
      · have h3 : ¬ a = b := fun e => by subst e; exact UInt8.lt_irrefl _ h2
        simp [h1, h2, h3]
      · have h3 : a = b := by
          rw [UInt8.lt_iff_toNat_lt] at h1 h2
          exact UInt8.toNat_inj.1 (by omega)
        subst h3
        simp [ih]

set_option maxHeartbeats 1000000 in
theorem isLess_any (x y : Rw) (w : World) :
    Calls Tryz.prog 105 #[.agg #[.string x.1, .int .i64 x.2.1, .int .i64 x.2.2], .agg #[.string y.1, .int .i64 y.2.1, .int .i64 y.2.2]] w fun e w' => e = .returned (.bool (ltOf cfR x y)) ∧ Below w.heap.size w w' := by
  obtain ⟨xp, xk, xv⟩ := x
  obtain ⟨yp, yk, yv⟩ := y
  dsimp only
  have hb0 : Below w.heap.size w ((w.alloc (.cells #[.string xp, .int .i64 xk, .int .i64 xv] 54)).alloc (.cells #[.string yp, .int .i64 yk, .int .i64 yv] 54)) := ((Below.refl _ _).alloc (Nat.le_refl _) _).alloc (by simp) _
  by_cases hp : xp = yp
  · subst hp
    have hc0 : Lib.compareBytes xp.data.toList xp.data.toList = 0 := cb_self _
    by_cases hk : xk = yk
    · subst hk
      have hr : ltOf cfR (xp, xk, xv) (xp, xk, yv) = decide (xv < yv) := by
        have hci : Lib.compareInt xk xk = 0 := by rcases ci_cases xk xk with ⟨h, _⟩ | ⟨_, h⟩ | ⟨h, _⟩ <;> omega
        unfold ltOf cfR orOf
        dsimp only
        rw [if_pos hc0, if_pos hci]
        rcases ci_cases xv yv with ⟨h, e⟩ | ⟨h, e⟩ | ⟨h, e⟩ <;> rw [e] <;> simp <;> omega
      rw [hr]
      clear hr hc0
      go_enter Tryz.func105, Tryz.ntmps105
      go_wp2
      go_ret
      exact ⟨rfl, hb0⟩
    · have hr : ltOf cfR (xp, xk, xv) (xp, yk, yv) = decide (xk < yk) := by
        unfold ltOf cfR orOf
        dsimp only
        rw [if_pos hc0]
        rcases ci_cases xk yk with ⟨h, e⟩ | ⟨h, e⟩ | ⟨h, e⟩
        · rw [e]; simp; omega
        · exact absurd h hk
        · rw [e]; simp; omega
      rw [hr]
      have hk' : (xk == yk) = false := by simpa using hk
      clear hr hc0 hk
      go_enter Tryz.func105, Tryz.ntmps105
      go_wp2
      go_ret
      exact ⟨rfl, hb0⟩
  · have hne : ¬ Lib.compareBytes xp.data.toList yp.data.toList = 0 := fun e => hp (part_ext (cb_eq _ _ e))
    have hr : ltOf cfR (xp, xk, xv) (yp, yk, yv) = decide (Lib.compareBytes xp.data.toList yp.data.toList < 0) := by
      unfold ltOf cfR orOf
      dsimp only
      rw [if_neg hne]
    rw [hr]
    have hp' : (xp.toList == yp.toList) = false := by
      rw [ByteArray.toList_eq, ByteArray.toList_eq]
      simpa using fun e => hp (part_ext e)
    have hl : Op.bytesLess xp.toList yp.toList = decide (Lib.compareBytes xp.data.toList yp.data.toList < 0) := by
      rw [ByteArray.toList_eq, ByteArray.toList_eq]; exact bytesLess_cb _ _
    have HLS : Hid (Op.bytesLess xp.toList yp.toList = decide (Lib.compareBytes xp.data.toList yp.data.toList < 0)) := hl
    clear hl
    clear hr hne hp
    go_enter Tryz.func105, Tryz.ntmps105
    go_wp2
    go_ret
    exact ⟨congrArg (fun b => Ending.returned (Value.bool b)) HLS.out, hb0⟩

end Go.Proofs.YtdhkdjlgmbejnaaGreatDoor
namespace Go.Proofs.YtdhkdjlgmbejnaaGreatDoor
open Go.RowKit Go.Extern.Stop Go.Stop Go.Extern Go.Sort Go.Shelf Go.Lib

def Grew (w w' : World) : Prop := ∃ q os, w' = grow (w.drewN q) os

theorem Grew.alloc (w : World) (o : Obj) : Grew w (w.alloc o) := ⟨0, #[o], by rw [alloc_eq_grow]; rfl⟩
theorem Grew.trans {a b c : World} (h : Grew a b) (k : Grew b c) : Grew a c := by
  obtain ⟨q, os, rfl⟩ := h
  obtain ⟨q', os', rfl⟩ := k
  refine ⟨q + q', os ++ os', ?_⟩
  show grow (grow ((a.drewN q).drewN q') os) os' = _
  rw [grow_grow, World.drewN_drewN]
theorem Grew.below {w w' : World} (h : Grew w w') : Below w.heap.size w w' := by
  obtain ⟨q, os, rfl⟩ := h
  exact grow_below q os

set_option maxRecDepth 100000 in
set_option maxHeartbeats 1000000 in
theorem byte_any (n : Int) (w : World) (h0 : 0 ≤ n) (h1 : n ≤ 255) :
    Calls Tryz.prog 178 #[.int .i64 n] w fun e w' => e = .returned (.string ⟨#[UInt8.ofNat n.toNat]⟩) ∧ Grew w w' := by
  have hcv : ∀ dst, Tryz.prog.underlying dst = some .string → (convert 176 dst (.slice (some ⟨w.heap.size, 0, none⟩) 1 1)).run Tryz.prog (w.alloc (.cells #[.int .u8 n] 5)) = .ok (.string (strOfNums [n])) (w.alloc (.cells #[.int .u8 n] 5)) :=
    run_convert_bytes_arg (P := Tryz.prog) (w.alloc (.cells #[.int .u8 n] 5)) 176 5 Tryz.underlying176 Tryz.underlying5 w.heap.size 0 1 1 [n] rfl (fun i hi => by
      obtain rfl : i = 0 := by omega
      simp)
  have hcv9 := hcv 9 Tryz.underlying9
  have hst : strOfNums [n] = ⟨#[UInt8.ofNat n.toNat]⟩ := rfl
  rw [hst] at hcv9
  clear hcv hst
  go_enter Tryz.func178, Tryz.ntmps178
  go_wp2
  go_ret
  exact ⟨rfl, Grew.alloc _ _⟩

theorem digits_small {u : Nat} (h : u < 10) : decDigits u = [UInt8.ofNat (48 + u)] := by rw [decDigits, dif_pos h]
theorem digits_great {u : Nat} (h : ¬ u < 10) : decDigits u = decDigits (u / 10) ++ [UInt8.ofNat (48 + u % 10)] := by rw [decDigits, dif_neg h]

theorem bytesOf_append (a b : List UInt8) : bytesOf a ++ bytesOf b = bytesOf (a ++ b) := by
  apply part_ext
  simp [bytesOf, ByteArray.data_append]

theorem bytesOf_size (l : List UInt8) : (bytesOf l).size = l.length := by simp [bytesOf, ByteArray.size]

theorem tdiv_ten (n : Int) (h : n ≤ 0) : n.tdiv 10 = -((n.natAbs / 10 : Nat) : Int) := by
  obtain ⟨m, rfl⟩ : ∃ m : Nat, n = -(m : Int) := ⟨n.natAbs, by omega⟩
  rw [Int.neg_tdiv, Int.natAbs_neg, Int.natAbs_natCast]
  rfl
theorem tmod_ten (n : Int) (h : n ≤ 0) : n.tmod 10 = -((n.natAbs % 10 : Nat) : Int) := by
  obtain ⟨m, rfl⟩ : ∃ m : Nat, n = -(m : Int) := ⟨n.natAbs, by omega⟩
  rw [Int.neg_tmod, Int.natAbs_neg, Int.natAbs_natCast]
  rfl

set_option maxRecDepth 100000 in
set_option maxHeartbeats 1000000 in
theorem below_any : ∀ (m : Nat) (n : Int) (w : World), n.natAbs < m → n ≤ 0 → -9223372036854775808 ≤ n →
    Calls Tryz.prog 133 #[.int .i64 n] w fun e w' => e = .returned (.string (bytesOf (decDigits n.natAbs))) ∧ Grew w w' := by
  intro m
  induction m with
  | zero => intro n w h _ _; omega
  | succ m ih =>
    intro n w hm h0 h1
    by_cases hs : -10 < n
    · rw [digits_small (by omega)]
      have hb := byte_any (48 - n) w (by omega) (by omega)
      have e : (48 - n).toNat = 48 + n.natAbs := by omega
      rw [e] at hb
      have hE : bytesOf [UInt8.ofNat (48 + n.natAbs)] = ⟨#[UInt8.ofNat (48 + n.natAbs)]⟩ := rfl
      rw [hE]
      clear ih e hE
      generalize (⟨#[UInt8.ofNat (48 + n.natAbs)]⟩ : ByteArray) = E at hb ⊢
      go_enter Tryz.func133, Tryz.ntmps133
      go_wp2_with (go_at_call 178; refine hb.mono ?_; rintro e w1 ⟨rfl, hg⟩)
      go_ret
      exact ⟨rfl, hg⟩
    · have hq := tdiv_ten n h0
      have hr := tmod_ten n h0
      have hrec := ih (-((n.natAbs / 10 : Nat) : Int)) w (by omega) (by omega) (by omega)
      have hab : (-((n.natAbs / 10 : Nat) : Int)).natAbs = n.natAbs / 10 := by omega
      rw [hab] at hrec
      have hby := fun W => byte_any (48 - -((n.natAbs % 10 : Nat) : Int)) W (by omega) (by omega)
      have e : (48 - -((n.natAbs % 10 : Nat) : Int)).toNat = 48 + n.natAbs % 10 := by omega
      rw [e] at hby
      rw [digits_great (by omega), ← bytesOf_append]
      have hlen : (bytesOf (decDigits (n.natAbs / 10))).size ≤ 20 := by
        rw [bytesOf_size]
        exact digits_len 19 _ (by omega)
      have hbq : -9223372036854775808 ≤ -((n.natAbs / 10 : Nat) : Int) := by omega
      have hbq' : -((n.natAbs / 10 : Nat) : Int) ≤ 0 := by omega
      have hbr : -9 ≤ -((n.natAbs % 10 : Nat) : Int) := by omega
      have hbr' : -((n.natAbs % 10 : Nat) : Int) ≤ 0 := by omega
      rw [← hq] at hrec hbq hbq'
      rw [← hr] at hby hbr hbr'
      clear hab e hq hr ih
      have hD1 : bytesOf [UInt8.ofNat (48 + n.natAbs % 10)] = ⟨#[UInt8.ofNat (48 + n.natAbs % 10)]⟩ := rfl
      rw [hD1]
      clear hD1
      have hsE : (⟨#[UInt8.ofNat (48 + n.natAbs % 10)]⟩ : ByteArray).size = 1 := rfl
      generalize hE : (⟨#[UInt8.ofNat (48 + n.natAbs % 10)]⟩ : ByteArray) = E at hby hsE ⊢
      generalize hD : bytesOf (decDigits (n.natAbs / 10)) = D at hrec hlen ⊢
      clear hE hD
      have nn : ¬ 9223372036854775807 < D.size + E.size := by omega
      have hwq : IntKind.i64.wrap (n.tdiv 10) = n.tdiv 10 := IntWalk.i64_in _ (by omega)
      have hwr : IntKind.i64.wrap (n.tmod 10) = n.tmod 10 := IntWalk.i64_in _ (by omega)
      have hws : IntKind.i64.wrap (48 - n.tmod 10) = 48 - n.tmod 10 := IntWalk.i64_in _ (by omega)
      generalize hq : n.tdiv 10 = q at *
      generalize hr : n.tmod 10 = r at *
      go_enter Tryz.func133, Tryz.ntmps133
      go_wp2_with (go_at_call 133; refine hrec.mono ?_; rintro e w1 ⟨rfl, hg⟩)
      refine (hby w1).mono ?_
      rintro e w2 ⟨rfl, hg2⟩
      go_wp2
      go_ret
      exact ⟨rfl, hg.trans hg2⟩
end Go.Proofs.YtdhkdjlgmbejnaaGreatDoor
namespace Go.Proofs.YtdhkdjlgmbejnaaGreatDoor
open Go.RowKit Go.Extern.Stop Go.Stop Go.Extern Go.Sort Go.Shelf Go.Lib

set_option maxRecDepth 100000 in
set_option maxHeartbeats 1000000 in
theorem decimal_any (n : Int) (w : World) (h0 : -9223372036854775808 ≤ n) (h1 : n ≤ 9223372036854775807) :
    Calls Tryz.prog 81 #[.int .i64 n] w fun e w' => e = .returned (.string (bytesOf (itoa n))) ∧ Grew w w' := by
  unfold itoa
  by_cases hs : n < 0
  · rw [if_pos hs]
    have hb := below_any (n.natAbs + 1) n w (by omega) (by omega) (by omega)
    have hE : bytesOf (45 :: decDigits n.natAbs) = ⟨#[45]⟩ ++ bytesOf (decDigits n.natAbs) := by
      have := bytesOf_append [45] (decDigits n.natAbs)
      exact this.symm
    rw [hE]
    have hlen : (bytesOf (decDigits n.natAbs)).size ≤ 20 := by
      rw [bytesOf_size]
      exact digits_len 19 _ (by omega)
    clear hE
    generalize bytesOf (decDigits n.natAbs) = D at hb hlen ⊢
    have nn : ¬ 9223372036854775807 < 1 + D.size := by omega
    have nn2 : ¬ 9223372036854775806 < D.size := by omega
    go_enter Tryz.func81, Tryz.ntmps81
    go_wp2_with (go_at_call 133; refine hb.mono ?_; rintro e w1 ⟨rfl, hg⟩)
    go_ret
    exact ⟨rfl, hg⟩
  · rw [if_neg hs]
    have hb := below_any (n.natAbs + 1) (-n) w (by omega) (by omega) (by omega)
    have e : (-n).natAbs = n.toNat := by omega
    rw [e] at hb
    clear e
    generalize bytesOf (decDigits n.toNat) = D at hb ⊢
    have hw : IntKind.i64.wrap (-n) = -n := IntWalk.i64_in _ (by omega)
    go_enter Tryz.func81, Tryz.ntmps81
    go_wp2_with (go_at_call 133; refine hb.mono ?_; rintro e w1 ⟨rfl, hg⟩)
    go_ret
    exact ⟨rfl, hg⟩

set_option maxHeartbeats 1000000 in
theorem rowText_any (x : Rw) (w : World) (hs : x.1.size ≤ maxLen) :
    Calls Tryz.prog 76 #[.agg #[.string x.1, .int .i64 x.2.1, .int .i64 x.2.2]] w fun e w' => e = .returned (.string (textB x)) ∧ Below w.heap.size w w' := by
  have hb : Below w.heap.size w (w.alloc (.cells #[.string x.1, .int .i64 x.2.1, .int .i64 x.2.2] 54)) := (Below.refl _ _).alloc (Nat.le_refl _) _
  have hc := rowError_any x (w.alloc (.cells #[.string x.1, .int .i64 x.2.1, .int .i64 x.2.2] 54)) hs
  unfold textB
  by_cases he : rowE x = 0
  · rw [if_pos he]
    rw [he] at hc
    have hbd : inNum x.2.1 = true ∧ inNum x.2.2 = true := by
      unfold rowE at he
      split at he
      · split at he
        · rename_i h'; simpa using h'
        · omega
      · omega
    obtain ⟨p, k, v⟩ := x
    dsimp only at *
    have hp8 : p.size ≤ 8 := by
      unfold rowE at he
      split at he
      · rename_i h'
        simp only [nameB, Bool.and_eq_true, decide_eq_true_eq] at h'
        rw [size_list] at h'
        exact h'.1.2
      · omega
    clear he hs
    have sk : (bytesOf (itoa k)).size ≤ 11 := by
      have := hbd.1
      simp only [inNum, Bool.and_eq_true, decide_eq_true_eq] at this
      simpa [bytesOf, ByteArray.size] using itoa_len k this.1 this.2
    have sv : (bytesOf (itoa v)).size ≤ 11 := by
      have := hbd.2
      simp only [inNum, Bool.and_eq_true, decide_eq_true_eq] at this
      simpa [bytesOf, ByteArray.size] using itoa_len v this.1 this.2
    unfold sp
    have hk1 : inNum k = true := hbd.1
    have hv1 : inNum v = true := hbd.2
    have hm : Tryz.prog.follows .mixedOrders = true := by kernel_rfl
    clear hbd
    go_enter Tryz.func76, Tryz.ntmps76
    go_wp2_with (go_at_call 75; refine hc.mono ?_; rintro e w1 ⟨rfl, hb1⟩)
    have c0 : w1.cell? ⟨w.heap.size, 0, none⟩ = some (.string p) := below_keep hb1 (by simp)
    have c1 : w1.cell? ⟨w.heap.size, 1, none⟩ = some (.int .i64 k) := below_keep hb1 (by simp)
    have c2 : w1.cell? ⟨w.heap.size, 2, none⟩ = some (.int .i64 v) := below_keep hb1 (by simp)
    have d0 := fun n os => cell_grown (cell_lt c0) c0 n os
    have d1 := fun n os => cell_grown (cell_lt c1) c1 n os
    have d2 := fun n os => cell_grown (cell_lt c2) c2 n os
    have hB : Below w.heap.size w w1 := hb.trans (hb1.mono hb.size)
    have hI : ∀ m : Int, inNum m = true → ∀ n os, Calls Tryz.prog 81 #[.int .i64 m] (grow (w1.drewN n) os) fun e w' => e = .returned (.string (bytesOf (itoa m))) ∧ ∃ q os', w' = grow ((grow (w1.drewN n) os).drewN q) os' := fun m hm n os => by
      simp only [inNum, Bool.and_eq_true, decide_eq_true_eq] at hm
      exact decimal_any m _ (by omega) (by omega)
    clear c0 c1 c2 hc
    have n1 : ¬ 9223372036854775807 < p.size + 1 := by omega
    have n2 : ¬ 9223372036854775807 < p.size + 1 + (bytesOf (itoa k)).size := by omega
    have n3 : ¬ 9223372036854775807 < p.size + 1 + (bytesOf (itoa k)).size + 1 := by omega
    have n4 : ¬ 9223372036854775807 < p.size + 1 + (bytesOf (itoa k)).size + 1 + (bytesOf (itoa v)).size := by omega
    have m1 : ¬ 9223372036854775806 < p.size := by omega
    have m3 : ¬ 9223372036854775806 < p.size + 1 + (bytesOf (itoa k)).size := by omega
    go_quiet_grown ((go_at_call 81; exact Calls.grown_of (hI _ (by assumption) _ _)))
    go_wp2
    go_ret
    exact ⟨rfl, hB.trans ((grow_below nq osq).mono hB.size)⟩
  · rw [if_neg he]
    obtain ⟨p, k, v⟩ := x
    dsimp only at *
    generalize rowE (p, k, v) = E at he hc
    have hE : (0 : Int) < (E : Int) := by omega
    clear he hs
    go_enter Tryz.func76, Tryz.ntmps76
    go_wp2_with (go_at_call 75; refine hc.mono ?_; rintro e w1 ⟨rfl, hb1⟩)
    go_ret
    exact ⟨rfl, hb.trans (hb1.mono hb.size)⟩
end Go.Proofs.YtdhkdjlgmbejnaaGreatDoor
