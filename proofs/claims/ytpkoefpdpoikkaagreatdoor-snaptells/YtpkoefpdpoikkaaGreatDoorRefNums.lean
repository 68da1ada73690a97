/-
  The contract of the document's own NumbersOf, of two texts.
-/
import Derived.Test.YtpkoefpdpoikkaaGreatDoorRefText
namespace Go.Proofs.YtpkoefpdpoikkaaGreatDoor
open Go.RowKit Go.Extern.Stop Go.Stop Go.Extern Go.Sort Go.Shelf Go.Lib

set_option maxRecDepth 100000 in
set_option maxHeartbeats 1000000 in
theorem decimal_any (n : Int) (w : World) (h0 : -9223372036854775808 ≤ n) (h1 : n ≤ 9223372036854775807) :
    Calls Tryz.prog 81 #[.int .i64 n] w fun e w' => e = .returned (.string (bytesOf (itoa n))) ∧ Grew w w' := by
  unfold itoa
  by_cases hs : n < 0
  · rw [if_pos hs]
    have hb := below_any (n.natAbs + 1) n w (by omega) (by omega) (by omega)
    have hE : bytesOf (45 :: decDigits n.natAbs) = ⟨#[45]⟩ ++ bytesOf (decDigits n.natAbs) := by
      have := bytesOf_append [45] (decDigits n.natAbs)
      exact this.symm
    rw [hE]
    have hlen : (bytesOf (decDigits n.natAbs)).size ≤ 20 := by
      rw [bytesOf_size]
      exact digits_len 19 _ (by omega)
    clear hE
    generalize bytesOf (decDigits n.natAbs) = D at hb hlen ⊢
    have nn : ¬ 9223372036854775807 < 1 + D.size := by omega
    have nn2 : ¬ 9223372036854775806 < D.size := by omega
    go_enter Tryz.func81, Tryz.ntmps81
    go_wp2_with (go_at_call 131; refine hb.mono ?_; rintro e w1 ⟨rfl, hg⟩)
    go_ret
    exact ⟨rfl, hg⟩
  · rw [if_neg hs]
    have hb := below_any (n.natAbs + 1) (-n) w (by omega) (by omega) (by omega)
    have e : (-n).natAbs = n.toNat := by omega
    rw [e] at hb
    clear e
    generalize bytesOf (decDigits n.toNat) = D at hb ⊢
    have hw : IntKind.i64.wrap (-n) = -n := IntWalk.i64_in _ (by omega)
    go_enter Tryz.func81, Tryz.ntmps81
    go_wp2_with (go_at_call 131; refine hb.mono ?_; rintro e w1 ⟨rfl, hg⟩)
    go_ret
    exact ⟨rfl, hg⟩

end Go.Proofs.YtpkoefpdpoikkaaGreatDoor
namespace Go.Proofs.YtpkoefpdpoikkaaGreatDoor
open Go.RowKit Go.Extern.Stop Go.Stop Go.Extern Go.Sort Go.Shelf Go.Lib

theorem numR_bad {s : List UInt8} (h : numP s = none) : numR s = (.int .i64 0, false) := by
  rw [numP_is] at h
  unfold numR
  rw [h]

theorem numR_good {s : List UInt8} {n : Int} (h : numP s = some n) : numR s = (.int .i64 n, true) := by
  rw [numP_is] at h
  unfold numR
  rw [h]

theorem decFrom_lt : ∀ (l : List UInt8) (acc m : Nat), decFrom acc l = some m → m < (acc + 1) * 10 ^ l.length
  | [], acc, m, h => by simp [decFrom] at h; subst h; simp
  | b :: r, acc, m, h => by
    unfold decFrom at h
    split at h
    · rename_i d hd
      have h1 := (digitVal_is hd).1
      have := decFrom_lt r (acc * 10 + d) m h
      refine Nat.lt_of_lt_of_le this ?_
      rw [List.length_cons, Nat.pow_succ, Nat.mul_comm (10 ^ r.length) 10, ← Nat.mul_assoc]
      exact Nat.mul_le_mul_right _ (by omega)
    · cases h

theorem decFrom_small {l : List UInt8} {m : Nat} (hl : l.length ≤ 11) (h : decFrom 0 l = some m) : m < 100000000000 := by
  have h1 := decFrom_lt l 0 m h
  have h2 : 10 ^ l.length ≤ 10 ^ 11 := Nat.pow_le_pow_right (by omega) hl
  omega

def NumOk (s D : List UInt8) (b : Bool) : Prop :=
  digsOf s = D ∧ ¬ (D.length < 1 ∨ 11 < s.length) ∧ ¬ (D.head? = some 48 ∧ 1 < s.length) ∧ (b = true ↔ D.length < s.length)

theorem num_some {s D : List UInt8} {b : Bool} (h : NumOk s D b) {m : Nat} (hm : decFrom 0 D = some m) : numP s = some (if b = true then -(m : Int) else (m : Int)) := by
  obtain ⟨rfl, h1, h2, h3⟩ := h
  unfold numP
  rw [if_neg h1, if_neg h2, hm]
  simp only [Option.map_some, h3]

theorem num_none {s D : List UInt8} {b : Bool} (h : NumOk s D b) {k : Nat} {c : UInt8} (hc : D[k]? = some c) (hd : digitVal c = none) : numP s = none := by
  obtain ⟨rfl, h1, h2, h3⟩ := h
  unfold numP
  rw [if_neg h1, if_neg h2]
  cases hm : decFrom 0 (digsOf s) with
  | none => rfl
  | some m =>
    obtain ⟨d, e⟩ := digit_of_decFrom _ _ _ hm k c hc
    rw [e] at hd
    cases hd

theorem head_is {s : ByteArray} (h : 0 < s.size) : s.data.toList.head? = some s[0] := by
  rw [List.head?_eq_getElem?]
  exact byte_list s 0 h

set_option maxRecDepth 100000 in
set_option maxHeartbeats 2000000 in
theorem numberOf_any (s : ByteArray) (w : World) (hs : s.size ≤ maxLen) :
    Calls Tryz.prog 77 #[.string s] w fun e w' => e = .returned (.tuple #[(numR s.data.toList).1, .bool (numR s.data.toList).2]) ∧ w' = w := by
  unfold maxLen at hs
  by_cases h1 : 0 < s.size
  · have hi : (0 : Int) < (s.size : Int) := by omega
    by_cases hb : s[0].toNat = 45
    · have hb' : (s[0].toNat : Int) = 45 := by omega
      have hdg : digsOf s.data.toList = (s.extract 1 s.size).data.toList := by
        unfold digsOf
        rw [head_is h1, if_pos (by rw [show s[0] = 45 from UInt8.toNat_inj.1 hb]), extract_to_end, List.drop_one]
      have hez : (s.extract 1 s.size).size = s.size - 1 := by rw [ByteArray.size_extract]; omega
      by_cases hA : s.size - 1 < 1 ∨ 11 < s.size
      · have hbad := numR_bad (s := s.data.toList) (by
          unfold numP
          rw [if_pos]
          rw [hdg, size_list, hez, size_list]
          exact hA)
        rw [hbad]
        clear hbad hdg hez hb
        by_cases hA1 : s.size - 1 < 1
        · have hA1' : ((s.size - 1 : Nat) : Int) < 1 := by omega
          go_enter Tryz.func77, Tryz.ntmps77
          go_wp2
          go_ret2
          exact ⟨rfl, rfl⟩
        · have hA1' : ¬ ((s.size - 1 : Nat) : Int) < 1 := by omega
          have hA2' : (11 : Int) < (s.size : Int) := by omega
          go_enter Tryz.func77, Tryz.ntmps77
          go_wp2
          go_ret2
          exact ⟨rfl, rfl⟩
      · have hA1' : ¬ ((s.size - 1 : Nat) : Int) < 1 := by omega
        have hA2' : ¬ (11 : Int) < (s.size : Int) := by omega
        have hA3' : (1 : Int) < (s.size : Int) := by omega
        have hez0 : 0 < s.size - 1 := by omega
        have hez1 : 0 < (s.extract 1 s.size).size := by omega
        by_cases hz : (s.extract 1 s.size)[0].toNat = 48
        · have hz' : ((s.extract 1 s.size)[0].toNat : Int) = 48 := by omega
          have hbad := numR_bad (s := s.data.toList) (by
            unfold numP
            rw [if_neg (by rw [hdg, size_list, hez, size_list]; exact hA), if_pos]
            rw [hdg, head_is hez1, size_list]
            exact ⟨by rw [show (s.extract 1 s.size)[0] = 48 from UInt8.toNat_inj.1 hz], by omega⟩)
          rw [hbad]
          clear hbad hdg hez hb hA hz
          go_enter Tryz.func77, Tryz.ntmps77
          go_wp2
          go_ret2
          exact ⟨rfl, rfl⟩
        · have hz' : ¬ ((s.extract 1 s.size)[0].toNat : Int) = 48 := by omega
          have HP : Hid (NumOk s.data.toList (s.extract 1 s.size).data.toList true) := by
            refine ⟨hdg, by rw [size_list, hez, size_list]; exact hA, fun h => ?_, by rw [size_list, hez, size_list]; simp; omega⟩
            rw [head_is hez1] at h
            exact hz (by rw [Option.some.inj h.1]; rfl)
          have hD11 : (s.extract 1 s.size).size ≤ 11 := by omega
          have hneg : (((s.extract 1 s.size).size : Nat) : Int) < (s.size : Int) := by omega
          clear hdg hb hA hz
          generalize hr : numR s.data.toList = R
          have HR : Hid (numR s.data.toList = R) := hr
          clear hr
          go_enter Tryz.func77, Tryz.ntmps77
          go_wp2
          generalize (s.extract 1 s.size)[0].toNat = d0 at hz' ⊢
          clear hz' hez1 hez0 hA1'
          clear hez
          generalize s.extract 1 s.size = D at *
          go_loop [5, 6] (fun n i => ∃ k m : Nat, k ≤ D.size ∧ decFrom 0 (D.data.toList.take k) = some m ∧ n = .int .i64 m ∧ i = .int .i64 k) (fun _ i => D.size - (intOf i).toNat)
          case atStart => exact ⟨0, 0, by omega, by simp [decFrom], rfl, rfl⟩
          case round =>
            obtain ⟨k, m, hk, hm, rfl, rfl⟩ := hrel
            have hmb := decFrom_small (Nat.le_trans (List.length_take_le _ _) (Nat.le_trans hk hD11)) hm
            have HM : Hid (decFrom 0 (D.data.toList.take k) = some m) := hm
            clear hm
            by_cases hlt : k < D.size
            · have hi : (k : Int) < (D.size : Int) := by omega
              have hby := byte_list D k hlt
              have h256 : D[k].toNat < 256 := D[k].toNat_lt
              cases hdv : digitVal D[k] with
              | none =>
                have hbad := numR_bad (num_none HP.out hby hdv)
                have hR : R = (.int .i64 0, false) := by rw [← HR.out]; exact hbad
                subst hR
                have hcc : ¬ (48 ≤ D[k].toNat ∧ D[k].toNat ≤ 57) := fun h => by unfold digitVal at hdv; rw [if_pos h] at hdv; cases hdv
                clear hby hdv hbad HR
                by_cases g1 : D[k].toNat < 48
                · have g1' : (D[k].toNat : Int) < 48 := by omega
                  go_wp2
                  go_ret2
                  exact ⟨rfl, rfl⟩
                · have g1' : ¬ (D[k].toNat : Int) < 48 := by omega
                  have g2' : (57 : Int) < (D[k].toNat : Int) := by omega
                  go_wp2
                  go_ret2
                  exact ⟨rfl, rfl⟩
              | some d =>
                have hst := decFrom_take D.data.toList k 0 m D[k] d HM.out hby hdv
                have hdd : 48 ≤ D[k].toNat ∧ D[k].toNat ≤ 57 ∧ d = D[k].toNat - 48 := by
                  unfold digitVal at hdv
                  split at hdv
                  · rename_i h; exact ⟨h.1, h.2, (Option.some.inj hdv).symm⟩
                  · cases hdv
                have HST : Hid (decFrom 0 (D.data.toList.take (k + 1)) = some (m * 10 + d)) := hst
                clear hst hby hdv
                obtain ⟨g1, g2, g3⟩ := hdd
                have g1' : ¬ (D[k].toNat : Int) < 48 := by omega
                have g2' : ¬ (57 : Int) < (D[k].toNat : Int) := by omega
                go_wp2
                go_round
                case rel => exact ⟨k + 1, m * 10 + d, by omega, HST.out, by go_num, by go_num⟩
                case measure => simp [intOf]; omega
            · have hkD : k = D.size := by omega
              subst hkD
              have hm' := HM.out
              rw [List.take_of_length_le (by rw [size_list]; omega)] at hm'
              have hgood := numR_good (num_some HP.out hm')
              have hR : R = _ := HR.out.symm.trans hgood
              subst hR
              clear hm' hgood HR
              have hng : ¬ ((D.size : Int) < (D.size : Int)) := by omega
              go_wp2
              go_ret2
              exact ⟨by simp, rfl⟩
    · have hb' : ¬ (s[0].toNat : Int) = 45 := by omega
      have hdg : digsOf s.data.toList = s.data.toList := by
        unfold digsOf
        rw [head_is h1, if_neg]
        intro e
        exact hb (by rw [Option.some.inj e]; rfl)
      by_cases hA : 11 < s.size
      · have hbad := numR_bad (s := s.data.toList) (by
          unfold numP
          rw [if_pos]
          rw [hdg, size_list]
          exact Or.inr hA)
        rw [hbad]
        clear hbad hdg hb
        have hA1' : ¬ (s.size : Int) < 1 := by omega
        have hA2' : (11 : Int) < (s.size : Int) := by omega
        go_enter Tryz.func77, Tryz.ntmps77
        go_wp2
        go_ret2
        exact ⟨rfl, rfl⟩
      · have hA1' : ¬ (s.size : Int) < 1 := by omega
        have hA2' : ¬ (11 : Int) < (s.size : Int) := by omega
        by_cases hz : s[0].toNat = 48 ∧ 1 < s.size
        · have hz' : (s[0].toNat : Int) = 48 := by omega
          have hA3' : (1 : Int) < (s.size : Int) := by omega
          have hbad := numR_bad (s := s.data.toList) (by
            unfold numP
            rw [if_neg (by rw [hdg, size_list]; omega), if_pos]
            rw [hdg, head_is h1, size_list]
            exact ⟨by rw [show s[0] = 48 from UInt8.toNat_inj.1 hz.1], hz.2⟩)
          rw [hbad]
          clear hbad hdg hb hA hz
          go_enter Tryz.func77, Tryz.ntmps77
          go_wp2
          go_ret2
          exact ⟨rfl, rfl⟩
        · have HP : Hid (NumOk s.data.toList s.data.toList false) := by
            refine ⟨hdg, by rw [size_list]; omega, fun h => ?_, by simp⟩
            rw [head_is h1, size_list] at h
            exact hz ⟨by rw [Option.some.inj h.1]; rfl, h.2⟩
          have hD11 : s.size ≤ 11 := by omega
          have hzz : ¬ ((s[0].toNat : Int) = 48 ∧ (1 : Int) < (s.size : Int)) := by omega
          clear hdg hb hA hz
          generalize hr : numR s.data.toList = R
          have HR : Hid (numR s.data.toList = R) := hr
          clear hr
          by_cases hz0 : (s[0].toNat : Int) = 48
          · have hz1 : ¬ (1 : Int) < (s.size : Int) := by omega
            clear hzz
            go_enter Tryz.func77, Tryz.ntmps77
            go_wp2
            go_loop [5, 6] (fun n i => ∃ k m : Nat, k ≤ s.size ∧ decFrom 0 (s.data.toList.take k) = some m ∧ n = .int .i64 m ∧ i = .int .i64 k) (fun _ i => s.size - (intOf i).toNat)
            case atStart => exact ⟨0, 0, by omega, by simp [decFrom], rfl, rfl⟩
            case round =>
              obtain ⟨k, m, hk, hm, rfl, rfl⟩ := hrel
              have hmb := decFrom_small (Nat.le_trans (List.length_take_le _ _) (Nat.le_trans hk hD11)) hm
              have HM : Hid (decFrom 0 (s.data.toList.take k) = some m) := hm
              clear hm
              by_cases hlt : k < s.size
              · have hi : (k : Int) < (s.size : Int) := by omega
                have hby := byte_list s k hlt
                have h256 : s[k].toNat < 256 := s[k].toNat_lt
                cases hdv : digitVal s[k] with
                | none =>
                  have hbad := numR_bad (num_none HP.out hby hdv)
                  have hR : R = (.int .i64 0, false) := by rw [← HR.out]; exact hbad
                  subst hR
                  have hcc : ¬ (48 ≤ s[k].toNat ∧ s[k].toNat ≤ 57) := fun h => by unfold digitVal at hdv; rw [if_pos h] at hdv; cases hdv
                  clear hby hdv hbad HR
                  by_cases g1 : s[k].toNat < 48
                  · have g1' : (s[k].toNat : Int) < 48 := by omega
                    go_wp2
                    go_ret2
                    exact ⟨rfl, rfl⟩
                  · have g1' : ¬ (s[k].toNat : Int) < 48 := by omega
                    have g2' : (57 : Int) < (s[k].toNat : Int) := by omega
                    go_wp2
                    go_ret2
                    exact ⟨rfl, rfl⟩
                | some d =>
                  have hst := decFrom_take s.data.toList k 0 m s[k] d HM.out hby hdv
                  have hdd : 48 ≤ s[k].toNat ∧ s[k].toNat ≤ 57 ∧ d = s[k].toNat - 48 := by
                    unfold digitVal at hdv
                    split at hdv
                    · rename_i h; exact ⟨h.1, h.2, (Option.some.inj hdv).symm⟩
                    · cases hdv
                  have HST : Hid (decFrom 0 (s.data.toList.take (k + 1)) = some (m * 10 + d)) := hst
                  clear hst hby hdv
                  obtain ⟨g1, g2, g3⟩ := hdd
                  have g1' : ¬ (s[k].toNat : Int) < 48 := by omega
                  have g2' : ¬ (57 : Int) < (s[k].toNat : Int) := by omega
                  go_wp2
                  go_round
                  case rel => exact ⟨k + 1, m * 10 + d, by omega, HST.out, by go_num, by go_num⟩
                  case measure => simp [intOf]; omega
              · have hkD : k = s.size := by omega
                subst hkD
                have hm' := HM.out
                rw [List.take_of_length_le (by rw [size_list]; omega)] at hm'
                have hgood := numR_good (num_some HP.out hm')
                have hR : R = _ := HR.out.symm.trans hgood
                subst hR
                clear hm' hgood HR
                have hng : ¬ ((s.size : Int) < (s.size : Int)) := by omega
                go_wp2
                go_ret2
                exact ⟨by simp, rfl⟩
          · clear hzz
            go_enter Tryz.func77, Tryz.ntmps77
            go_wp2
            go_loop [5, 6] (fun n i => ∃ k m : Nat, k ≤ s.size ∧ decFrom 0 (s.data.toList.take k) = some m ∧ n = .int .i64 m ∧ i = .int .i64 k) (fun _ i => s.size - (intOf i).toNat)
            case atStart => exact ⟨0, 0, by omega, by simp [decFrom], rfl, rfl⟩
            case round =>
              obtain ⟨k, m, hk, hm, rfl, rfl⟩ := hrel
              have hmb := decFrom_small (Nat.le_trans (List.length_take_le _ _) (Nat.le_trans hk hD11)) hm
              have HM : Hid (decFrom 0 (s.data.toList.take k) = some m) := hm
              clear hm
              by_cases hlt : k < s.size
              · have hi : (k : Int) < (s.size : Int) := by omega
                have hby := byte_list s k hlt
                have h256 : s[k].toNat < 256 := s[k].toNat_lt
                cases hdv : digitVal s[k] with
                | none =>
                  have hbad := numR_bad (num_none HP.out hby hdv)
                  have hR : R = (.int .i64 0, false) := by rw [← HR.out]; exact hbad
                  subst hR
                  have hcc : ¬ (48 ≤ s[k].toNat ∧ s[k].toNat ≤ 57) := fun h => by unfold digitVal at hdv; rw [if_pos h] at hdv; cases hdv
                  clear hby hdv hbad HR
                  by_cases g1 : s[k].toNat < 48
                  · have g1' : (s[k].toNat : Int) < 48 := by omega
                    go_wp2
                    go_ret2
                    exact ⟨rfl, rfl⟩
                  · have g1' : ¬ (s[k].toNat : Int) < 48 := by omega
                    have g2' : (57 : Int) < (s[k].toNat : Int) := by omega
                    go_wp2
                    go_ret2
                    exact ⟨rfl, rfl⟩
                | some d =>
                  have hst := decFrom_take s.data.toList k 0 m s[k] d HM.out hby hdv
                  have hdd : 48 ≤ s[k].toNat ∧ s[k].toNat ≤ 57 ∧ d = s[k].toNat - 48 := by
                    unfold digitVal at hdv
                    split at hdv
                    · rename_i h; exact ⟨h.1, h.2, (Option.some.inj hdv).symm⟩
                    · cases hdv
                  have HST : Hid (decFrom 0 (s.data.toList.take (k + 1)) = some (m * 10 + d)) := hst
                  clear hst hby hdv
                  obtain ⟨g1, g2, g3⟩ := hdd
                  have g1' : ¬ (s[k].toNat : Int) < 48 := by omega
                  have g2' : ¬ (57 : Int) < (s[k].toNat : Int) := by omega
                  go_wp2
                  go_round
                  case rel => exact ⟨k + 1, m * 10 + d, by omega, HST.out, by go_num, by go_num⟩
                  case measure => simp [intOf]; omega
              · have hkD : k = s.size := by omega
                subst hkD
                have hm' := HM.out
                rw [List.take_of_length_le (by rw [size_list]; omega)] at hm'
                have hgood := numR_good (num_some HP.out hm')
                have hR : R = _ := HR.out.symm.trans hgood
                subst hR
                clear hm' hgood HR
                have hng : ¬ ((s.size : Int) < (s.size : Int)) := by omega
                go_wp2
                go_ret2
                exact ⟨by simp, rfl⟩
  · have hbad := numR_bad (s := s.data.toList) (by
      have hn : s.data.toList = [] := List.length_eq_zero_iff.1 (by rw [size_list]; omega)
      rw [hn]
      simp [numP, digsOf])
    rw [hbad]
    clear hbad
    have hi : ¬ (0 : Int) < (s.size : Int) := by omega
    have hi1 : (s.size : Int) < 1 := by omega
    go_enter Tryz.func77, Tryz.ntmps77
    go_wp2
    go_ret2
    exact ⟨rfl, rfl⟩
end Go.Proofs.YtpkoefpdpoikkaaGreatDoor
namespace Go.Proofs.YtpkoefpdpoikkaaGreatDoor
open Go.RowKit Go.Extern.Stop Go.Stop Go.Extern Go.Sort Go.Shelf Go.Lib

def TextsAt (w : World) (v : Value) (ts : List ByteArray) : Prop :=
  ∃ b cap, v = .slice (some ⟨b, 0, none⟩) ts.length cap ∧ ts.length ≤ cap ∧ ∀ j (h : j < ts.length), w.cell? ⟨b, j, none⟩ = some (.string ts[j])

theorem textsAt_of_own {w : World} {base : Nat} {v : Value} {ts : List ByteArray} (hne : ts ≠ []) (h : w.ownsRow base 9 1 v ts.length (ts.map Value.string)) : TextsAt w v ts := by
  obtain ⟨hl, h⟩ := h
  rcases h with ⟨hv, hn⟩ | ⟨g, cap, cur, rfl, _, hg, hc, _, _, ht⟩
  · exact absurd (List.length_eq_zero_iff.1 hn) hne
  · refine ⟨g, cap, rfl, hc, fun j hj => ?_⟩
    have hu : (ts.map Value.string)[j]? = some (.string ts[j]) := by simp [hj]
    rw [← ht, List.getElem?_take, if_pos (by omega)] at hu
    simp only [World.cell?, hg]
    simpa using hu

theorem Tryz.strInfo3 : (Tryz.prog.info? 9).map (fun i => (i.zero, i.size, i.bytes)) = some (some (.string ⟨#[]⟩), 1, 16) := by kernel_rfl
theorem Tryz.strInfo : ∃ i0 : TypeInfo, Tryz.prog.info? 9 = some i0 ∧ i0.zero = some (.string ⟨#[]⟩) ∧ i0.size = 1 ∧ i0.bytes = 16 := by
  obtain ⟨i, hi, h⟩ := Option.map_eq_some_iff.1 Tryz.strInfo3
  simp only [Prod.mk.injEq] at h
  exact ⟨i, hi, h.1, h.2.1, h.2.2⟩

theorem cell_one (w : World) (x : Value) (t : TypeId) : ∀ j u, [x][j]? = some u → (w.alloc (.cells #[x] t)).cell? ((⟨w.heap.size, 0, none⟩ : Addr).add j) = some u := by
  intro j u hj
  rw [Addr.add_lit, Nat.zero_add]
  match j, hj with
  | 0, hj => simp at hj; subst hj; simp
  | j + 1, hj => simp at hj

def CutInv (l : List UInt8) (f n : Nat) (ts : List ByteArray) : Prop :=
  f ≤ n ∧ ts.length ≤ f ∧ (∀ c ∈ (l.drop f).take (n - f), c ≠ 32) ∧ ts.map (·.data.toList) ++ words (l.drop f) = words l

theorem cut_zero (l : List UInt8) : CutInv l 0 0 [] := ⟨Nat.le_refl _, Nat.le_refl _, by simp, by simp⟩

theorem cut_skip {l : List UInt8} {f n : Nat} {ts : List ByteArray} {c : UInt8} (h : CutInv l f n ts) (hc : l[n]? = some c) (hne : c ≠ 32) : CutInv l f (n + 1) ts := by
  obtain ⟨h1, h2, h3, h4⟩ := h
  refine ⟨by omega, h2, fun d hd => ?_, h4⟩
  obtain ⟨k, hk⟩ := List.mem_iff_getElem?.1 hd
  rw [List.getElem?_take] at hk
  split at hk
  · rename_i hlt
    rw [List.getElem?_drop] at hk
    rcases Nat.lt_or_ge k (n - f) with h' | h'
    · refine h3 d (List.mem_iff_getElem?.2 ⟨k, ?_⟩)
      rw [List.getElem?_take, if_pos h', List.getElem?_drop, hk]
    · rw [show f + k = n by omega, hc] at hk
      rw [← Option.some.inj hk]; exact hne
  · cases hk

theorem cut_hit {s : ByteArray} {f n : Nat} {ts : List ByteArray} (h : CutInv s.data.toList f n ts) (hc : s.data.toList[n]? = some 32) : CutInv s.data.toList (n + 1) (n + 1) (ts ++ [s.extract f n]) := by
  obtain ⟨h1, h2, h3, h4⟩ := h
  refine ⟨Nat.le_refl _, by simp; omega, by simp, ?_⟩
  have hn : n < s.data.toList.length := by
    rcases Nat.lt_or_ge n s.data.toList.length with h | h
    · exact h
    · rw [List.getElem?_eq_none h] at hc; cases hc
  have hsp : s.data.toList.drop f = (s.data.toList.drop f).take (n - f) ++ 32 :: s.data.toList.drop (n + 1) := by
    have e1 := List.take_append_drop (n - f) (s.data.toList.drop f)
    rw [List.drop_drop, show f + (n - f) = n by omega, List.drop_eq_getElem_cons hn] at e1
    rw [List.getElem?_eq_getElem hn] at hc
    rw [Option.some.inj hc] at e1
    exact e1.symm
  rw [hsp, words_append _ _ h3] at h4
  rw [← h4, List.map_append, List.append_assoc]
  congr 1
  simp only [List.map_cons, List.map_nil, List.cons_append, List.nil_append]
  rw [extract_data]

theorem cut_end {s : ByteArray} {f : Nat} {ts : List ByteArray} (h : CutInv s.data.toList f s.size ts) : (ts ++ [s.extract f s.size]).map (·.data.toList) = words s.data.toList := by
  obtain ⟨h1, h2, h3, h4⟩ := h
  rw [List.take_of_length_le (by rw [List.length_drop, size_list]; omega)] at h3
  rw [words_none _ h3] at h4
  rw [← h4, List.map_append]
  simp only [List.map_cons, List.map_nil, extract_to_end]

set_option maxRecDepth 100000 in
set_option maxHeartbeats 2000000 in
theorem cutText_any (s : ByteArray) (w : World) (hs : s.size < 4294967281) :
    Calls Tryz.prog 82 #[.string s, .int .u8 32] w fun e w' => ∃ v ts, e = .returned v ∧ TextsAt w' v ts ∧ ts.map (·.data.toList) = words s.data.toList ∧ Below w.heap.size w w' := by
  obtain ⟨i0, hi0, hz0, hs0, hby0⟩ := Tryz.strInfo
  go_enter Tryz.func82, Tryz.ntmps82
  go_wp2
  go_loopw [5, 6, 7] (fun out from' k wr => ∃ (n f : Nat) (ts : List ByteArray), n ≤ s.size ∧ k = .int .i64 n ∧ from' = .int .i64 f ∧ Below w.heap.size w wr ∧ CutInv s.data.toList f n ts ∧ wr.ownsRow w.heap.size 9 1 out ts.length (ts.map Value.string)) (fun _ _ k _ => s.size - (intOf k).toNat)
  case atStart => exact ⟨0, 0, [], by omega, rfl, rfl, Below.refl _ _, cut_zero _, by simp; exact World.ownsRow_nil _ _ _ _⟩
  case round =>
    obtain ⟨n, f, ts, hn, rfl, rfl, hb, hci, hown⟩ := hrel
    have OW : Hid (wr.ownsRow w.heap.size 9 1 u5 ts.length (ts.map Value.string)) := hown
    have CI : Hid (CutInv s.data.toList f n ts) := hci
    have hfn : f ≤ n := hci.1
    have htl : ts.length ≤ f := hci.2.1
    have TL : Hid (ts.length ≤ f) := htl
    clear hown hci htl
    by_cases hlt : n < s.size
    · have hi : (n : Int) < (s.size : Int) := by omega
      have hby := byte_list s n hlt
      by_cases hc : s[n].toNat = 32
      · have hc' : (s[n].toNat : Int) = 32 := by omega
        have HC : Hid (s.data.toList[n]? = some 32) := by
          rw [hby]
          exact congrArg some (UInt8.toNat_inj.1 hc)
        clear hby hc
        have hal : Below wr.heap.size wr (wr.alloc (.cells #[.string (s.extract f n)] 9)) := (Below.refl _ _).alloc (Nat.le_refl _) _
        have hbA : Below w.heap.size w (wr.alloc (.cells #[.string (s.extract f n)] 9)) := hb.alloc hb.size _
        go_wp2_with (at_builtin; refine wpList_append_own _ rfl _ _ 97 rfl w.heap.size 9 i0 (.string ⟨#[]⟩) 1 16 Tryz.underlying97 hi0 hz0 hs0 hby0 rfl (by decide) u5 ts.length (ts.map Value.string) rfl ?qc0 ⟨wr.heap.size, 0, none⟩ 1 1 [.string (s.extract f n)] rfl ?qc1 ?qc2 ?qc3 ?qc4 ?qc5 ?qc6 ?_)
        case qc0 => exact own_below OW.out hal
        case qc1 => rfl
        case qc2 => exact cell_one _ _ _
        case qc3 => intro u hu; simp at hu; subst hu; rfl
        case qc4 => have := TL.out; unfold maxLen; omega
        case qc5 => have := TL.out; omega
        case qc6 => first | exact hbA.size | (have := hb.size; omega)
        intro v' w4 hown4 hgrow hnil
        have hbC : Below w.heap.size w w4 := hbA.grown hgrow hbA.size (fun k hk => by
          rcases OW.out.2 with ⟨e, _⟩ | ⟨g', cap', cur, e, hg', _⟩
          · rw [e] at hk; simp [Value.ownBlock] at hk
          · rw [e] at hk; simp [Value.ownBlock] at hk; omega)
        have OW4 : Hid (w4.ownsRow w.heap.size 9 1 v' (ts.length + 1) (ts.map Value.string ++ [.string (s.extract f n)])) := hown4
        clear hown4 hnil hgrow
        go_wp2
        go_roundw
        case rel => exact ⟨n + 1, n + 1, ts ++ [s.extract f n], by omega, by go_num, by go_num, hbC, cut_hit CI.out HC.out, by rw [List.length_append, List.map_append]; exact OW4.out⟩
        case measure => simp [intOf]; omega
      · have hc' : ¬ (s[n].toNat : Int) = 32 := by omega
        have CI' : Hid (CutInv s.data.toList f (n + 1) ts) := cut_skip CI.out hby (fun e => hc (by rw [e]; rfl))
        clear hby hc
        go_wp2
        go_roundw
        case rel => exact ⟨n + 1, f, ts, by omega, by go_num, by go_num, hb, CI'.out, OW.out⟩
        case measure => simp [intOf]; omega
    · have hn' : n = s.size := by omega
      subst hn'
      have hal : Below wr.heap.size wr (wr.alloc (.cells #[.string (s.extract f s.size)] 9)) := (Below.refl _ _).alloc (Nat.le_refl _) _
      have hbA : Below w.heap.size w (wr.alloc (.cells #[.string (s.extract f s.size)] 9)) := hb.alloc hb.size _
      go_wp2_with (at_builtin; refine wpList_append_own _ rfl _ _ 97 rfl w.heap.size 9 i0 (.string ⟨#[]⟩) 1 16 Tryz.underlying97 hi0 hz0 hs0 hby0 rfl (by decide) u5 ts.length (ts.map Value.string) rfl ?qc0 ⟨wr.heap.size, 0, none⟩ 1 1 [.string (s.extract f s.size)] rfl ?qc1 ?qc2 ?qc3 ?qc4 ?qc5 ?qc6 ?_)
      case qc0 => exact own_below OW.out hal
      case qc1 => rfl
      case qc2 => exact cell_one _ _ _
      case qc3 => intro u hu; simp at hu; subst hu; rfl
      case qc4 => have := TL.out; unfold maxLen; omega
      case qc5 => have := TL.out; omega
      case qc6 => first | exact hbA.size | (have := hb.size; omega)
      intro v' w4 hown4 hgrow hnil
      have hbC : Below w.heap.size w w4 := hbA.grown hgrow hbA.size (fun k hk => by
        rcases OW.out.2 with ⟨e, _⟩ | ⟨g', cap', cur, e, hg', _⟩
        · rw [e] at hk; simp [Value.ownBlock] at hk
        · rw [e] at hk; simp [Value.ownBlock] at hk; omega)
      have OW4 : Hid (w4.ownsRow w.heap.size 9 1 v' (ts.length + 1) (ts.map Value.string ++ [.string (s.extract f s.size)])) := hown4
      clear hown4 hnil hgrow
      go_wp2
      go_ret
      exact ⟨v', ts ++ [s.extract f s.size], rfl, textsAt_of_own (base := w.heap.size) (by simp) (by rw [List.length_append, List.map_append]; exact OW4.out), cut_end CI.out, hbC⟩
end Go.Proofs.YtpkoefpdpoikkaaGreatDoor
namespace Go.Proofs.YtpkoefpdpoikkaaGreatDoor
open Go.RowKit Go.Extern.Stop Go.Stop Go.Extern Go.Sort Go.Shelf Go.Lib

theorem Tryz.numInfo3 : (Tryz.prog.info? 3).map (fun i => (i.zero, i.size, i.bytes)) = some (some (.int .i64 0), 1, 8) := by kernel_rfl
theorem Tryz.numInfo : ∃ i0 : TypeInfo, Tryz.prog.info? 3 = some i0 ∧ i0.zero = some (.int .i64 0) ∧ i0.size = 1 ∧ i0.bytes = 8 := by
  obtain ⟨i, hi, h⟩ := Option.map_eq_some_iff.1 Tryz.numInfo3
  simp only [Prod.mk.injEq] at h
  exact ⟨i, hi, h.1, h.2.1, h.2.2⟩

end Go.Proofs.YtpkoefpdpoikkaaGreatDoor
