/-
  The contracts of the document's own Decimal and RowText.
-/
import Derived.Test.YtpkoefpdpoikkaaGreatDoorDataLoop
namespace Go.Proofs.YtpkoefpdpoikkaaGreatDoor
open Go.RowKit Go.Extern.Stop Go.Stop Go.Extern Go.Sort Go.Shelf Go.Lib

theorem own_next {W : World} {base : Nat} {e : TypeId} {size : Nat} {v : Value} {n : Nat} {xs : List Value} (h : W.ownsRow base e size v (n + 1) xs) : ∃ g c, v = .slice (some ⟨g, 0, none⟩) (n + 1) c := by
  rcases h.2 with ⟨_, h0⟩ | ⟨g, cap, cur, rfl, _⟩
  · omega
  · exact ⟨_, _, rfl⟩
theorem own_far {W : World} {base : Nat} {e : TypeId} {size : Nat} {v : Value} {n : Nat} {xs : List Value} (h : W.ownsRow base e size v n xs) {k : Nat} (hk : v.ownBlock = some k) : base ≤ k := (h.lt k hk).1
theorem last_is {β : Type} (acc : List β) (k : Nat) (d : β) (hk : acc.length = k + 1) (hkk : k < acc.length) : acc.getLastD d = acc[k] := by
  have hne : acc ≠ [] := by intro e; rw [e] at hk; simp at hk
  rw [List.getLastD_eq_getLast?, List.getLast?_eq_some_getLast hne, Option.getD_some, List.getLast_eq_getElem]
  congr 1
  omega

end Go.Proofs.YtpkoefpdpoikkaaGreatDoor
namespace Go.Proofs.YtpkoefpdpoikkaaGreatDoor
open Go Go.Lib

theorem digitVal_is {c : UInt8} {d : Nat} (h : digitVal c = some d) : d < 10 ∧ c = UInt8.ofNat (48 + d) := by
  unfold digitVal at h
  split at h
  · rename_i hc
    have e := Option.some.inj h
    refine ⟨by omega, ?_⟩
    apply UInt8.toNat_inj.1
    rw [UInt8.toNat_ofNat']
    omega
  · cases h

theorem digits_zero : decDigits 0 = [48] := by rw [decDigits, dif_pos (by omega)]; rfl

theorem head_append {l r : List UInt8} (h : l ≠ []) : (l ++ r).head? = l.head? := by
  cases l with
  | nil => exact absurd rfl h
  | cons a l => rfl

theorem digits_head (u : Nat) (h : 1 ≤ u) : (decDigits u).head? ≠ some 48 := by
  induction u using Nat.strongRecOn with
  | _ u ih =>
    rw [decDigits]
    by_cases h' : u < 10
    · rw [dif_pos h']
      intro e
      simp only [List.head?_cons, Option.some.injEq] at e
      have := congrArg UInt8.toNat e
      rw [UInt8.toNat_ofNat'] at this
      simp at this
      omega
    · rw [dif_neg h', head_append (digits_ne _)]
      exact ih (u / 10) (by omega) (by omega)

theorem digits_of : ∀ (k : Nat) (l : List UInt8) (m : Nat), l.length = k → l ≠ [] → (l.head? = some 48 → l.length = 1) → decFrom 0 l = some m → decDigits m = l := by
  intro k
  induction k with
  | zero => intro l m hl hne; exact absurd (List.length_eq_zero_iff.1 hl) hne
  | succ k ih =>
    intro l m hl hne hz h
    obtain ⟨r, c, rfl⟩ : ∃ r c, l = r ++ [c] := ⟨l.dropLast, l.getLast hne, (List.dropLast_concat_getLast hne).symm⟩
    rw [decFrom_append] at h
    by_cases hr : r = []
    · subst hr
      simp only [decFrom, Option.bind_some] at h
      cases hd : digitVal c with
      | none => rw [hd] at h; cases h
      | some d =>
        rw [hd] at h
        obtain ⟨h1, rfl⟩ := digitVal_is hd
        simp at h
        subst h
        rw [decDigits, dif_pos h1]
        rfl
    · cases hm : decFrom 0 r with
      | none => rw [hm] at h; cases h
      | some q =>
        rw [hm] at h
        simp only [Option.bind_some, decFrom] at h
        have hrl : r.length = k := by simp at hl; omega
        have hr1 : 1 ≤ r.length := List.length_pos_iff.2 hr
        rw [head_append hr] at hz
        have hz' : r.head? ≠ some 48 := fun e => by have := hz e; rw [List.length_append, List.length_singleton] at this; omega
        have hq := ih r q hrl hr (fun e => absurd e hz') hm
        have hq1 : 1 ≤ q := by
          rcases Nat.eq_zero_or_pos q with e | e
          · subst e; rw [digits_zero] at hq; rw [← hq] at hz'; exact absurd rfl hz'
          · exact e
        cases hd : digitVal c with
        | none => rw [hd] at h; cases h
        | some d =>
          rw [hd] at h
          obtain ⟨h1, rfl⟩ := digitVal_is hd
          have h := Option.some.inj h
          subst h
          rw [decDigits, dif_neg (by omega), show (q * 10 + d) / 10 = q by omega, show (q * 10 + d) % 10 = d by omega, hq]

def digsOf (s : List UInt8) : List UInt8 := if s.head? = some 45 then s.tail else s

def numP (s : List UInt8) : Option Int :=
  if (digsOf s).length < 1 ∨ 11 < s.length then none
  else if (digsOf s).head? = some 48 ∧ 1 < s.length then none
  else (decFrom 0 (digsOf s)).map fun (m : Nat) => if (digsOf s).length < s.length then -(m : Int) else (m : Int)

theorem numP_is (s : List UInt8) : numP s = numO s := by
  unfold numP numO
  by_cases hl : s.length ≤ 11
  · rw [if_pos hl]
    cases s with
    | nil => simp [digsOf, atoi]
    | cons b r =>
      by_cases hb : b = 45
      · subst hb
        have hd : digsOf (45 :: r) = r := by simp [digsOf]
        rw [hd]
        have ha : atoi (45 :: r) = (decNat r).map fun (m : Nat) => -(m : Int) := by simp [atoi]
        rw [ha]
        unfold decNat
        by_cases hr : r = []
        · subst hr; simp
        · have hr1 : 1 ≤ r.length := List.length_pos_iff.2 hr
          rw [if_neg (show ¬ (r.length < 1 ∨ 11 < (45 :: r).length) by omega), if_neg (show ¬ r.isEmpty = true by simp [hr])]
          cases hm : decFrom 0 r with
          | none => simp
          | some m =>
            simp only [Option.map_some]
            by_cases hz : r.head? = some 48
            · rw [if_pos ⟨hz, by simp; omega⟩]
              rw [if_neg]
              intro e
              unfold itoa at e
              by_cases hm0 : -(m : Int) < 0
              · rw [if_pos hm0] at e
                have e2 := (List.cons.inj e).2
                rw [show (-(m : Int)).natAbs = m by omega] at e2
                exact digits_head m (by omega) (by rw [e2]; exact hz)
              · rw [if_neg hm0] at e
                have := digits_are (-(m : Int)).toNat 45 (by rw [e]; exact List.mem_cons_self)
                simp at this
            · rw [if_neg (fun h => hz h.1)]
              have hq := digits_of _ r m rfl hr (fun e => absurd e hz) hm
              have hm1 : 1 ≤ m := by
                rcases Nat.eq_zero_or_pos m with e | e
                · subst e; rw [digits_zero] at hq; rw [← hq] at hz; exact absurd rfl hz
                · exact e
              rw [if_pos (by simp)]
              rw [if_pos]
              unfold itoa
              rw [if_pos (by omega), show (-(m : Int)).natAbs = m by omega, hq]
      · have hd : digsOf (b :: r) = b :: r := by simp [digsOf, hb]
        rw [hd]
        by_cases hp : b = 43
        · subst hp
          have ha : atoi (43 :: r) = (decNat r).map fun (m : Nat) => (m : Int) := by simp [atoi]
          rw [ha]
          have hf : decFrom 0 (43 :: r) = none := by
            unfold decFrom
            have : digitVal 43 = none := by decide
            rw [this]
          rw [hf]
          cases hm : decNat r with
          | none => simp
          | some m =>
            simp only [Option.map_some]
            have : ¬ itoa (m : Int) = 43 :: r := by
              intro e
              unfold itoa at e
              rw [if_neg (by omega)] at e
              have := digits_are (m : Int).toNat 43 (by rw [e]; exact List.mem_cons_self)
              simp at this
            rw [if_neg this]
            simp
        · have ha : atoi (b :: r) = (decNat (b :: r)).map fun (m : Nat) => (m : Int) := by simp [atoi, hb, hp]
          rw [ha]
          have hdn : decNat (b :: r) = decFrom 0 (b :: r) := by simp [decNat]
          rw [hdn, if_neg (by simp; simpa using hl)]
          cases hm : decFrom 0 (b :: r) with
          | none => simp
          | some m =>
            simp only [Option.map_some]
            have hi : itoa (m : Int) = decDigits m := by
              unfold itoa
              rw [if_neg (by omega)]
              rfl
            rw [hi]
            by_cases hz : (b :: r).head? = some 48 ∧ 1 < (b :: r).length
            · rw [if_pos hz, if_neg]
              intro e
              rcases Nat.eq_zero_or_pos m with e0 | e0
              · subst e0
                rw [digits_zero] at e
                have := hz.2
                rw [← e] at this
                simp at this
              · exact digits_head m e0 (by rw [e]; exact hz.1)
            · rw [if_neg hz]
              have hq := digits_of _ (b :: r) m rfl (by simp) (fun e => by
                have : ¬ 1 < (b :: r).length := fun h => hz ⟨e, h⟩
                simp at this ⊢
                exact this) hm
              rw [if_neg (by omega), if_pos hq]
  · rw [if_neg hl, if_pos (Or.inr (by omega))]
end Go.Proofs.YtpkoefpdpoikkaaGreatDoor
namespace Go.Proofs.YtpkoefpdpoikkaaGreatDoor
open Go.RowKit Go.Extern.Stop Go.Stop Go.Extern Go.Sort Go.Shelf Go.Lib

theorem isFar_any (n : Int) (w : World) : Calls Tryz.prog 80 #[.int .i64 n] w fun e w' => e = .returned (.bool (!inNum n)) ∧ w' = w := by
  by_cases h1 : n < -1073741824
  · have hr : inNum n = false := by simp [inNum]; omega
    rw [hr]
    go_enter Tryz.func80, Tryz.ntmps80
    go_wp2
    go_ret
    exact ⟨rfl, rfl⟩
  · by_cases h2 : 1073741824 < n
    · have hr : inNum n = false := by simp [inNum]; omega
      rw [hr]
      go_enter Tryz.func80, Tryz.ntmps80
      go_wp2
      go_ret
      exact ⟨rfl, rfl⟩
    · have hr : inNum n = true := by simp [inNum]; omega
      rw [hr]
      go_enter Tryz.func80, Tryz.ntmps80
      go_wp2
      go_ret
      exact ⟨rfl, rfl⟩

set_option maxHeartbeats 2000000 in
theorem isWord_any (s : ByteArray) (m : Nat) (w : World) (hs : s.size ≤ maxLen) : Calls Tryz.prog 79 #[.string s, .int .i64 m] w fun e w' => e = .returned (.bool (wordB m s.data.toList)) ∧ w' = w := by
  unfold maxLen at hs
  have hsz := size_list s
  generalize hr : wordB m s.data.toList = r
  have HR : Hid (wordB m s.data.toList = r) := hr
  have HS : Hid (s.data.toList.length = s.size) := hsz
  clear hr hsz
  go_enter Tryz.func79, Tryz.ntmps79
  go_wp2
  go_loop [5] (fun k => ∃ n : Nat, n ≤ s.size ∧ (∀ j c, j < n → s.data.toList[j]? = some c → nbI c.toNat = true) ∧ k = .int .i64 n) (fun k => s.size - (intOf k).toNat)
  case atStart => exact ⟨0, by omega, by omega, rfl⟩
  case round =>
    obtain ⟨n, hn, ht, rfl⟩ := hrel
    have HT : Hid (∀ j c, j < n → s.data.toList[j]? = some c → nbI c.toNat = true) := ht
    clear ht
    by_cases hlt : n < s.size
    · have hi : (n : Int) < (s.size : Int) := by omega
      have hbl := byte_list s n hlt
      have HB : Hid (s.data.toList[n]? = some s[n]) := hbl
      clear hbl
      have bad : nbI (s[n].toNat : Int) = false → r = false := fun hv => by
        rw [← HR.out]
        simp only [wordB, Bool.and_eq_false_iff]
        right
        rw [List.all_eq_false]
        exact ⟨s[n], List.mem_of_getElem? HB.out, by rw [hv]; simp⟩
      have good : nbI (s[n].toNat : Int) = true → ∀ j c, j < n + 1 → s.data.toList[j]? = some c → nbI c.toNat = true := fun hv => all_succ HT.out hlt hv
      have BAD : Hid (nbI (s[n].toNat : Int) = false → r = false) := bad
      have GOOD : Hid (nbI (s[n].toNat : Int) = true → ∀ j c, j < n + 1 → s.data.toList[j]? = some c → nbI c.toNat = true) := good
      clear bad good
      by_cases h1 : 97 ≤ (s[n].toNat : Int)
      · by_cases h2 : (s[n].toNat : Int) ≤ 122
        · have hv : nbI (s[n].toNat : Int) = true := by unfold nbI; simp only [h1, h2, decide_true, Bool.and_self, Bool.true_or]
          have G : Hid (∀ j c, j < n + 1 → s.data.toList[j]? = some c → nbI c.toNat = true) := GOOD.out hv
          clear hv
          have h3 : (48 : Int) ≤ (s[n].toNat : Int) := by omega
          have h4 : ¬ (s[n].toNat : Int) ≤ 57 := by omega
          go_wp2
          go_round
          case rel => exact ⟨n + 1, by omega, G.out, by go_num⟩
          case measure => simp [intOf]; omega
        · have h3 : (48 : Int) ≤ (s[n].toNat : Int) := by omega
          have h4 : ¬ (s[n].toNat : Int) ≤ 57 := by omega
          have hv : nbI (s[n].toNat : Int) = false := by unfold nbI; simp only [h1, h2, h3, h4, decide_true, decide_false, Bool.and_false, Bool.or_self]
          have hr := BAD.out hv
          subst hr
          clear hv
          go_wp2
          go_ret
          exact ⟨rfl, rfl⟩
      · have h2 : (s[n].toNat : Int) ≤ 122 := by omega
        by_cases h3 : 48 ≤ (s[n].toNat : Int)
        · by_cases h4 : (s[n].toNat : Int) ≤ 57
          · have hv : nbI (s[n].toNat : Int) = true := by unfold nbI; simp only [h1, h3, h4, decide_true, decide_false, Bool.and_self, Bool.false_and, Bool.false_or]
            have G : Hid (∀ j c, j < n + 1 → s.data.toList[j]? = some c → nbI c.toNat = true) := GOOD.out hv
            clear hv
            go_wp2
            go_round
            case rel => exact ⟨n + 1, by omega, G.out, by go_num⟩
            case measure => simp [intOf]; omega
          · have hv : nbI (s[n].toNat : Int) = false := by unfold nbI; simp only [h1, h3, h4, decide_true, decide_false, Bool.and_false, Bool.false_and, Bool.or_self]
            have hr := BAD.out hv
            subst hr
            clear hv
            go_wp2
            go_ret
            exact ⟨rfl, rfl⟩
        · have hv : nbI (s[n].toNat : Int) = false := by unfold nbI; simp only [h1, h3, decide_false, Bool.false_and, Bool.or_self]
          have hr := BAD.out hv
          subst hr
          clear hv
          go_wp2
          go_ret
          exact ⟨rfl, rfl⟩
    · have hall : s.data.toList.all (fun c => nbI c.toNat) = true := by
        rw [List.all_eq_true]
        intro c hc
        obtain ⟨k, hk⟩ := List.mem_iff_getElem?.1 hc
        have hk' : k < s.data.toList.length := by
          rcases Nat.lt_or_ge k s.data.toList.length with h | h
          · exact h
          · rw [List.getElem?_eq_none h] at hk; cases hk
        have := HS.out
        exact HT.out k c (by omega) hk
      have hrr : r = (decide (1 ≤ s.size) && decide (s.size ≤ m)) := by
        rw [← HR.out]
        unfold wordB
        rw [hall, HS.out, Bool.and_true]
      have hn' : n = s.size := by omega
      subst hn'
      clear hall
      by_cases g1 : 1 ≤ s.size
      · by_cases g2 : s.size ≤ m
        · have e : r = true := by rw [hrr]; simp [g1, g2]
          subst e
          clear hrr
          have g3 : decide ((s.size : Int) ≤ (m : Int)) = true := decide_eq_true (by omega)
          have G3 : Hid (decide ((s.size : Int) ≤ (m : Int)) = true) := g3
          clear g3
          go_wp2
          go_ret
          exact ⟨congrArg (fun b => Ending.returned (Value.bool b)) (by first | exact G3.out | (simp <;> omega)), rfl⟩
        · have e : r = false := by rw [hrr]; simp [g2]
          subst e
          clear hrr
          have g3 : decide ((s.size : Int) ≤ (m : Int)) = false := decide_eq_false (by omega)
          have G3 : Hid (decide ((s.size : Int) ≤ (m : Int)) = false) := g3
          clear g3
          go_wp2
          go_ret
          exact ⟨congrArg (fun b => Ending.returned (Value.bool b)) (by first | exact G3.out | (simp <;> omega)), rfl⟩
      · have e : r = false := by rw [hrr]; simp [g1]
        subst e
        clear hrr
        go_wp2
        go_ret
        exact ⟨rfl, rfl⟩

end Go.Proofs.YtpkoefpdpoikkaaGreatDoor
namespace Go.Proofs.YtpkoefpdpoikkaaGreatDoor
open Go.RowKit Go.Extern.Stop Go.Stop Go.Extern Go.Sort Go.Shelf Go.Lib

def Grew (w w' : World) : Prop := ∃ q os, w' = grow (w.drewN q) os

theorem Grew.alloc (w : World) (o : Obj) : Grew w (w.alloc o) := ⟨0, #[o], by rw [alloc_eq_grow]; rfl⟩
theorem Grew.trans {a b c : World} (h : Grew a b) (k : Grew b c) : Grew a c := by
  obtain ⟨q, os, rfl⟩ := h
  obtain ⟨q', os', rfl⟩ := k
  refine ⟨q + q', os ++ os', ?_⟩
  show grow (grow ((a.drewN q).drewN q') os) os' = _
  rw [grow_grow, World.drewN_drewN]
set_option maxRecDepth 100000 in
set_option maxHeartbeats 1000000 in
theorem byte_any (n : Int) (w : World) (h0 : 0 ≤ n) (h1 : n ≤ 255) :
    Calls Tryz.prog 174 #[.int .i64 n] w fun e w' => e = .returned (.string ⟨#[UInt8.ofNat n.toNat]⟩) ∧ Grew w w' := by
  have hcv : ∀ dst, Tryz.prog.underlying dst = some .string → (convert 81 dst (.slice (some ⟨w.heap.size, 0, none⟩) 1 1)).run Tryz.prog (w.alloc (.cells #[.int .u8 n] 5)) = .ok (.string (strOfNums [n])) (w.alloc (.cells #[.int .u8 n] 5)) :=
    run_convert_bytes_arg (P := Tryz.prog) (w.alloc (.cells #[.int .u8 n] 5)) 81 5 Tryz.underlying81 Tryz.underlying5 w.heap.size 0 1 1 [n] rfl (fun i hi => by
      obtain rfl : i = 0 := by omega
      simp)
  have hcv9 := hcv 9 Tryz.underlying9
  have hst : strOfNums [n] = ⟨#[UInt8.ofNat n.toNat]⟩ := rfl
  rw [hst] at hcv9
  clear hcv hst
  go_enter Tryz.func174, Tryz.ntmps174
  go_wp2
  go_ret
  exact ⟨rfl, Grew.alloc _ _⟩

theorem digits_small {u : Nat} (h : u < 10) : decDigits u = [UInt8.ofNat (48 + u)] := by rw [decDigits, dif_pos h]
theorem digits_great {u : Nat} (h : ¬ u < 10) : decDigits u = decDigits (u / 10) ++ [UInt8.ofNat (48 + u % 10)] := by rw [decDigits, dif_neg h]

theorem bytesOf_append (a b : List UInt8) : bytesOf a ++ bytesOf b = bytesOf (a ++ b) := by
  apply part_ext
  simp [bytesOf, ByteArray.data_append]

theorem bytesOf_size (l : List UInt8) : (bytesOf l).size = l.length := by simp [bytesOf, ByteArray.size]

theorem tdiv_ten (n : Int) (h : n ≤ 0) : n.tdiv 10 = -((n.natAbs / 10 : Nat) : Int) := by
  obtain ⟨m, rfl⟩ : ∃ m : Nat, n = -(m : Int) := ⟨n.natAbs, by omega⟩
  rw [Int.neg_tdiv, Int.natAbs_neg, Int.natAbs_natCast]
  rfl
theorem tmod_ten (n : Int) (h : n ≤ 0) : n.tmod 10 = -((n.natAbs % 10 : Nat) : Int) := by
  obtain ⟨m, rfl⟩ : ∃ m : Nat, n = -(m : Int) := ⟨n.natAbs, by omega⟩
  rw [Int.neg_tmod, Int.natAbs_neg, Int.natAbs_natCast]
  rfl

set_option maxRecDepth 100000 in
set_option maxHeartbeats 1000000 in
theorem below_any : ∀ (m : Nat) (n : Int) (w : World), n.natAbs < m → n ≤ 0 → -9223372036854775808 ≤ n →
    Calls Tryz.prog 131 #[.int .i64 n] w fun e w' => e = .returned (.string (bytesOf (decDigits n.natAbs))) ∧ Grew w w' := by
  intro m
  induction m with
  | zero => intro n w h _ _; omega
  | succ m ih =>
    intro n w hm h0 h1
    by_cases hs : -10 < n
    · rw [digits_small (by omega)]
      have hb := byte_any (48 - n) w (by omega) (by omega)
      have e : (48 - n).toNat = 48 + n.natAbs := by omega
      rw [e] at hb
      have hE : bytesOf [UInt8.ofNat (48 + n.natAbs)] = ⟨#[UInt8.ofNat (48 + n.natAbs)]⟩ := rfl
      rw [hE]
      clear ih e hE
      generalize (⟨#[UInt8.ofNat (48 + n.natAbs)]⟩ : ByteArray) = E at hb ⊢
      go_enter Tryz.func131, Tryz.ntmps131
      go_wp2_with (go_at_call 174; refine hb.mono ?_; rintro e w1 ⟨rfl, hg⟩)
      go_ret
      exact ⟨rfl, hg⟩
    · have hq := tdiv_ten n h0
      have hr := tmod_ten n h0
      have hrec := ih (-((n.natAbs / 10 : Nat) : Int)) w (by omega) (by omega) (by omega)
      have hab : (-((n.natAbs / 10 : Nat) : Int)).natAbs = n.natAbs / 10 := by omega
      rw [hab] at hrec
      have hby := fun W => byte_any (48 - -((n.natAbs % 10 : Nat) : Int)) W (by omega) (by omega)
      have e : (48 - -((n.natAbs % 10 : Nat) : Int)).toNat = 48 + n.natAbs % 10 := by omega
      rw [e] at hby
      rw [digits_great (by omega), ← bytesOf_append]
      have hlen : (bytesOf (decDigits (n.natAbs / 10))).size ≤ 20 := by
        rw [bytesOf_size]
        exact digits_len 19 _ (by omega)
      have hbq : -9223372036854775808 ≤ -((n.natAbs / 10 : Nat) : Int) := by omega
      have hbq' : -((n.natAbs / 10 : Nat) : Int) ≤ 0 := by omega
      have hbr : -9 ≤ -((n.natAbs % 10 : Nat) : Int) := by omega
      have hbr' : -((n.natAbs % 10 : Nat) : Int) ≤ 0 := by omega
      rw [← hq] at hrec hbq hbq'
      rw [← hr] at hby hbr hbr'
      clear hab e hq hr ih
      have hD1 : bytesOf [UInt8.ofNat (48 + n.natAbs % 10)] = ⟨#[UInt8.ofNat (48 + n.natAbs % 10)]⟩ := rfl
      rw [hD1]
      clear hD1
      have hsE : (⟨#[UInt8.ofNat (48 + n.natAbs % 10)]⟩ : ByteArray).size = 1 := rfl
      generalize hE : (⟨#[UInt8.ofNat (48 + n.natAbs % 10)]⟩ : ByteArray) = E at hby hsE ⊢
      generalize hD : bytesOf (decDigits (n.natAbs / 10)) = D at hrec hlen ⊢
      clear hE hD
      have nn : ¬ 9223372036854775807 < D.size + E.size := by omega
      have hwq : IntKind.i64.wrap (n.tdiv 10) = n.tdiv 10 := IntWalk.i64_in _ (by omega)
      have hwr : IntKind.i64.wrap (n.tmod 10) = n.tmod 10 := IntWalk.i64_in _ (by omega)
      have hws : IntKind.i64.wrap (48 - n.tmod 10) = 48 - n.tmod 10 := IntWalk.i64_in _ (by omega)
      generalize hq : n.tdiv 10 = q at *
      generalize hr : n.tmod 10 = r at *
      go_enter Tryz.func131, Tryz.ntmps131
      go_wp2_with (go_at_call 131; refine hrec.mono ?_; rintro e w1 ⟨rfl, hg⟩)
      refine (hby w1).mono ?_
      rintro e w2 ⟨rfl, hg2⟩
      go_wp2
      go_ret
      exact ⟨rfl, hg.trans hg2⟩
end Go.Proofs.YtpkoefpdpoikkaaGreatDoor
namespace Go.Proofs.YtpkoefpdpoikkaaGreatDoor
open Go.RowKit Go.Extern.Stop Go.Stop Go.Extern Go.Sort Go.Shelf Go.Lib

set_option maxRecDepth 100000 in
set_option maxHeartbeats 1000000 in
theorem decimal_any (n : Int) (w : World) (h0 : -9223372036854775808 ≤ n) (h1 : n ≤ 9223372036854775807) :
    Calls Tryz.prog 81 #[.int .i64 n] w fun e w' => e = .returned (.string (bytesOf (itoa n))) ∧ Grew w w' := by
  unfold itoa
  by_cases hs : n < 0
  · rw [if_pos hs]
    have hb := below_any (n.natAbs + 1) n w (by omega) (by omega) (by omega)
    have hE : bytesOf (45 :: decDigits n.natAbs) = ⟨#[45]⟩ ++ bytesOf (decDigits n.natAbs) := by
      have := bytesOf_append [45] (decDigits n.natAbs)
      exact this.symm
    rw [hE]
    have hlen : (bytesOf (decDigits n.natAbs)).size ≤ 20 := by
      rw [bytesOf_size]
      exact digits_len 19 _ (by omega)
    clear hE
    generalize bytesOf (decDigits n.natAbs) = D at hb hlen ⊢
    have nn : ¬ 9223372036854775807 < 1 + D.size := by omega
    have nn2 : ¬ 9223372036854775806 < D.size := by omega
    go_enter Tryz.func81, Tryz.ntmps81
    go_wp2_with (go_at_call 131; refine hb.mono ?_; rintro e w1 ⟨rfl, hg⟩)
    go_ret
    exact ⟨rfl, hg⟩
  · rw [if_neg hs]
    have hb := below_any (n.natAbs + 1) (-n) w (by omega) (by omega) (by omega)
    have e : (-n).natAbs = n.toNat := by omega
    rw [e] at hb
    clear e
    generalize bytesOf (decDigits n.toNat) = D at hb ⊢
    have hw : IntKind.i64.wrap (-n) = -n := IntWalk.i64_in _ (by omega)
    go_enter Tryz.func81, Tryz.ntmps81
    go_wp2_with (go_at_call 131; refine hb.mono ?_; rintro e w1 ⟨rfl, hg⟩)
    go_ret
    exact ⟨rfl, hg⟩

end Go.Proofs.YtpkoefpdpoikkaaGreatDoor
