/-
  The contracts of file.counts, file.Number and file.partOf.
-/
import Derived.Test.YtcpplldfmmpaoaaGreatDoorRefRow
import Derived.Maps.AppendAt
import Derived.Deep.Onto
import Derived.Handy
namespace Go.Proofs.YtcpplldfmmpaoaaGreatDoor
open Go.RowKit Go.Extern.Stop Go.Stop Go.Extern Go.Sort Go.Shelf Go.Lib

theorem numR_bad {s : List UInt8} (h : numP s = none) : numR s = (.int .i64 0, false) := by
  rw [numP_is] at h
  unfold numR
  rw [h]

theorem numR_good {s : List UInt8} {n : Int} (h : numP s = some n) : numR s = (.int .i64 n, true) := by
  rw [numP_is] at h
  unfold numR
  rw [h]

theorem decFrom_lt : ∀ (l : List UInt8) (acc m : Nat), decFrom acc l = some m → m < (acc + 1) * 10 ^ l.length
  | [], acc, m, h => by simp [decFrom] at h; subst h; simp
  | b :: r, acc, m, h => by
    unfold decFrom at h
    split at h
    · rename_i d hd
      have h1 := (digitVal_is hd).1
      have := decFrom_lt r (acc * 10 + d) m h
      refine Nat.lt_of_lt_of_le this ?_
      rw [List.length_cons, Nat.pow_succ, Nat.mul_comm (10 ^ r.length) 10, ← Nat.mul_assoc]
      exact Nat.mul_le_mul_right _ (by omega)
    · cases h

theorem decFrom_small {l : List UInt8} {m : Nat} (hl : l.length ≤ 11) (h : decFrom 0 l = some m) : m < 100000000000 := by
  have h1 := decFrom_lt l 0 m h
  have h2 : 10 ^ l.length ≤ 10 ^ 11 := Nat.pow_le_pow_right (by omega) hl
  omega

def NumOk (s D : List UInt8) (b : Bool) : Prop :=
  digsOf s = D ∧ ¬ (D.length < 1 ∨ 11 < s.length) ∧ ¬ (D.head? = some 48 ∧ 1 < s.length) ∧ (b = true ↔ D.length < s.length)

theorem num_some {s D : List UInt8} {b : Bool} (h : NumOk s D b) {m : Nat} (hm : decFrom 0 D = some m) : numP s = some (if b = true then -(m : Int) else (m : Int)) := by
  obtain ⟨rfl, h1, h2, h3⟩ := h
  unfold numP
  rw [if_neg h1, if_neg h2, hm]
  simp only [Option.map_some, h3]

theorem num_none {s D : List UInt8} {b : Bool} (h : NumOk s D b) {k : Nat} {c : UInt8} (hc : D[k]? = some c) (hd : digitVal c = none) : numP s = none := by
  obtain ⟨rfl, h1, h2, h3⟩ := h
  unfold numP
  rw [if_neg h1, if_neg h2]
  cases hm : decFrom 0 (digsOf s) with
  | none => rfl
  | some m =>
    obtain ⟨d, e⟩ := digit_of_decFrom _ _ _ hm k c hc
    rw [e] at hd
    cases hd

theorem head_is {s : ByteArray} (h : 0 < s.size) : s.data.toList.head? = some s[0] := by
  rw [List.head?_eq_getElem?]
  exact byte_list s 0 h

set_option maxRecDepth 100000 in
set_option maxHeartbeats 2000000 in
theorem numberOf_any (s : ByteArray) (w : World) (hs : s.size ≤ maxLen) :
    Calls Tryz.prog 89 #[.string s] w fun e w' => e = .returned (.tuple #[(numR s.data.toList).1, .bool (numR s.data.toList).2]) ∧ w' = w := by
  unfold maxLen at hs
  by_cases h1 : 0 < s.size
  · have hi : (0 : Int) < (s.size : Int) := by omega
    by_cases hb : s[0].toNat = 45
    · have hb' : (s[0].toNat : Int) = 45 := by omega
      have hdg : digsOf s.data.toList = (s.extract 1 s.size).data.toList := by
        unfold digsOf
        rw [head_is h1, if_pos (by rw [show s[0] = 45 from UInt8.toNat_inj.1 hb]), extract_to_end, List.drop_one]
      have hez : (s.extract 1 s.size).size = s.size - 1 := by rw [ByteArray.size_extract]; omega
      by_cases hA : s.size - 1 < 1 ∨ 11 < s.size
      · have hbad := numR_bad (s := s.data.toList) (by
          unfold numP
          rw [if_pos]
          rw [hdg, size_list, hez, size_list]
          exact hA)
        rw [hbad]
        clear hbad hdg hez hb
        by_cases hA1 : s.size - 1 < 1
        · have hA1' : ((s.size - 1 : Nat) : Int) < 1 := by omega
          go_enter Tryz.func89, Tryz.ntmps89
          go_wp2
          go_ret2
          exact ⟨rfl, rfl⟩
        · have hA1' : ¬ ((s.size - 1 : Nat) : Int) < 1 := by omega
          have hA2' : (11 : Int) < (s.size : Int) := by omega
          go_enter Tryz.func89, Tryz.ntmps89
          go_wp2
          go_ret2
          exact ⟨rfl, rfl⟩
      · have hA1' : ¬ ((s.size - 1 : Nat) : Int) < 1 := by omega
        have hA2' : ¬ (11 : Int) < (s.size : Int) := by omega
        have hA3' : (1 : Int) < (s.size : Int) := by omega
        have hez0 : 0 < s.size - 1 := by omega
        have hez1 : 0 < (s.extract 1 s.size).size := by omega
        by_cases hz : (s.extract 1 s.size)[0].toNat = 48
        · have hz' : ((s.extract 1 s.size)[0].toNat : Int) = 48 := by omega
          have hbad := numR_bad (s := s.data.toList) (by
            unfold numP
            rw [if_neg (by rw [hdg, size_list, hez, size_list]; exact hA), if_pos]
            rw [hdg, head_is hez1, size_list]
            exact ⟨by rw [show (s.extract 1 s.size)[0] = 48 from UInt8.toNat_inj.1 hz], by omega⟩)
          rw [hbad]
          clear hbad hdg hez hb hA hz
          go_enter Tryz.func89, Tryz.ntmps89
          go_wp2
          go_ret2
          exact ⟨rfl, rfl⟩
        · have hz' : ¬ ((s.extract 1 s.size)[0].toNat : Int) = 48 := by omega
          have HP : Hid (NumOk s.data.toList (s.extract 1 s.size).data.toList true) := by
            refine ⟨hdg, by rw [size_list, hez, size_list]; exact hA, fun h => ?_, by rw [size_list, hez, size_list]; simp; omega⟩
            rw [head_is hez1] at h
            exact hz (by rw [Option.some.inj h.1]; rfl)
          have hD11 : (s.extract 1 s.size).size ≤ 11 := by omega
          have hneg : (((s.extract 1 s.size).size : Nat) : Int) < (s.size : Int) := by omega
          clear hdg hb hA hz
          generalize hr : numR s.data.toList = R
          have HR : Hid (numR s.data.toList = R) := hr
          clear hr
          go_enter Tryz.func89, Tryz.ntmps89
          go_wp2
          generalize (s.extract 1 s.size)[0].toNat = d0 at hz' ⊢
          clear hz' hez1 hez0 hA1'
          clear hez
          generalize s.extract 1 s.size = D at *
          go_loop [5, 6] (fun n i => ∃ k m : Nat, k ≤ D.size ∧ decFrom 0 (D.data.toList.take k) = some m ∧ n = .int .i64 m ∧ i = .int .i64 k) (fun _ i => D.size - (intOf i).toNat)
          case atStart => exact ⟨0, 0, by omega, by simp [decFrom], rfl, rfl⟩
          case round =>
            obtain ⟨k, m, hk, hm, rfl, rfl⟩ := hrel
            have hmb := decFrom_small (Nat.le_trans (List.length_take_le _ _) (Nat.le_trans hk hD11)) hm
            have HM : Hid (decFrom 0 (D.data.toList.take k) = some m) := hm
            clear hm
            by_cases hlt : k < D.size
            · have hi : (k : Int) < (D.size : Int) := by omega
              have hby := byte_list D k hlt
              have h256 : D[k].toNat < 256 := D[k].toNat_lt
              cases hdv : digitVal D[k] with
              | none =>
                have hbad := numR_bad (num_none HP.out hby hdv)
                have hR : R = (.int .i64 0, false) := by rw [← HR.out]; exact hbad
                subst hR
                have hcc : ¬ (48 ≤ D[k].toNat ∧ D[k].toNat ≤ 57) := fun h => by unfold digitVal at hdv; rw [if_pos h] at hdv; cases hdv
                clear hby hdv hbad HR
                by_cases g1 : D[k].toNat < 48
                · have g1' : (D[k].toNat : Int) < 48 := by omega
                  go_wp2
                  go_ret2
                  exact ⟨rfl, rfl⟩
                · have g1' : ¬ (D[k].toNat : Int) < 48 := by omega
                  have g2' : (57 : Int) < (D[k].toNat : Int) := by omega
                  go_wp2
                  go_ret2
                  exact ⟨rfl, rfl⟩
              | some d =>
                have hst := decFrom_take D.data.toList k 0 m D[k] d HM.out hby hdv
                have hdd : 48 ≤ D[k].toNat ∧ D[k].toNat ≤ 57 ∧ d = D[k].toNat - 48 := by
                  unfold digitVal at hdv
                  split at hdv
                  · rename_i h; exact ⟨h.1, h.2, (Option.some.inj hdv).symm⟩
                  · cases hdv
                have HST : Hid (decFrom 0 (D.data.toList.take (k + 1)) = some (m * 10 + d)) := hst
                clear hst hby hdv
                obtain ⟨g1, g2, g3⟩ := hdd
                have g1' : ¬ (D[k].toNat : Int) < 48 := by omega
                have g2' : ¬ (57 : Int) < (D[k].toNat : Int) := by omega
                go_wp2
                go_round
                case rel => exact ⟨k + 1, m * 10 + d, by omega, HST.out, by go_num, by go_num⟩
                case measure => simp [intOf]; omega
            · have hkD : k = D.size := by omega
              subst hkD
              have hm' := HM.out
              rw [List.take_of_length_le (by rw [size_list]; omega)] at hm'
              have hgood := numR_good (num_some HP.out hm')
              have hR : R = _ := HR.out.symm.trans hgood
              subst hR
              clear hm' hgood HR
              have hng : ¬ ((D.size : Int) < (D.size : Int)) := by omega
              go_wp2
              go_ret2
              exact ⟨by simp, rfl⟩
    · have hb' : ¬ (s[0].toNat : Int) = 45 := by omega
      have hdg : digsOf s.data.toList = s.data.toList := by
        unfold digsOf
        rw [head_is h1, if_neg]
        intro e
        exact hb (by rw [Option.some.inj e]; rfl)
      by_cases hA : 11 < s.size
      · have hbad := numR_bad (s := s.data.toList) (by
          unfold numP
          rw [if_pos]
          rw [hdg, size_list]
          exact Or.inr hA)
        rw [hbad]
        clear hbad hdg hb
        have hA1' : ¬ (s.size : Int) < 1 := by omega
        have hA2' : (11 : Int) < (s.size : Int) := by omega
        go_enter Tryz.func89, Tryz.ntmps89
        go_wp2
        go_ret2
        exact ⟨rfl, rfl⟩
      · have hA1' : ¬ (s.size : Int) < 1 := by omega
        have hA2' : ¬ (11 : Int) < (s.size : Int) := by omega
        by_cases hz : s[0].toNat = 48 ∧ 1 < s.size
        · have hz' : (s[0].toNat : Int) = 48 := by omega
          have hA3' : (1 : Int) < (s.size : Int) := by omega
          have hbad := numR_bad (s := s.data.toList) (by
            unfold numP
            rw [if_neg (by rw [hdg, size_list]; omega), if_pos]
            rw [hdg, head_is h1, size_list]
            exact ⟨by rw [show s[0] = 48 from UInt8.toNat_inj.1 hz.1], hz.2⟩)
          rw [hbad]
          clear hbad hdg hb hA hz
          go_enter Tryz.func89, Tryz.ntmps89
          go_wp2
          go_ret2
          exact ⟨rfl, rfl⟩
        · have HP : Hid (NumOk s.data.toList s.data.toList false) := by
            refine ⟨hdg, by rw [size_list]; omega, fun h => ?_, by simp⟩
            rw [head_is h1, size_list] at h
            exact hz ⟨by rw [Option.some.inj h.1]; rfl, h.2⟩
          have hD11 : s.size ≤ 11 := by omega
          have hzz : ¬ ((s[0].toNat : Int) = 48 ∧ (1 : Int) < (s.size : Int)) := by omega
          clear hdg hb hA hz
          generalize hr : numR s.data.toList = R
          have HR : Hid (numR s.data.toList = R) := hr
          clear hr
          by_cases hz0 : (s[0].toNat : Int) = 48
          · have hz1 : ¬ (1 : Int) < (s.size : Int) := by omega
            clear hzz
            go_enter Tryz.func89, Tryz.ntmps89
            go_wp2
            go_loop [5, 6] (fun n i => ∃ k m : Nat, k ≤ s.size ∧ decFrom 0 (s.data.toList.take k) = some m ∧ n = .int .i64 m ∧ i = .int .i64 k) (fun _ i => s.size - (intOf i).toNat)
            case atStart => exact ⟨0, 0, by omega, by simp [decFrom], rfl, rfl⟩
            case round =>
              obtain ⟨k, m, hk, hm, rfl, rfl⟩ := hrel
              have hmb := decFrom_small (Nat.le_trans (List.length_take_le _ _) (Nat.le_trans hk hD11)) hm
              have HM : Hid (decFrom 0 (s.data.toList.take k) = some m) := hm
              clear hm
              by_cases hlt : k < s.size
              · have hi : (k : Int) < (s.size : Int) := by omega
                have hby := byte_list s k hlt
                have h256 : s[k].toNat < 256 := s[k].toNat_lt
                cases hdv : digitVal s[k] with
                | none =>
                  have hbad := numR_bad (num_none HP.out hby hdv)
                  have hR : R = (.int .i64 0, false) := by rw [← HR.out]; exact hbad
                  subst hR
                  have hcc : ¬ (48 ≤ s[k].toNat ∧ s[k].toNat ≤ 57) := fun h => by unfold digitVal at hdv; rw [if_pos h] at hdv; cases hdv
                  clear hby hdv hbad HR
                  by_cases g1 : s[k].toNat < 48
                  · have g1' : (s[k].toNat : Int) < 48 := by omega
                    go_wp2
                    go_ret2
                    exact ⟨rfl, rfl⟩
                  · have g1' : ¬ (s[k].toNat : Int) < 48 := by omega
                    have g2' : (57 : Int) < (s[k].toNat : Int) := by omega
                    go_wp2
                    go_ret2
                    exact ⟨rfl, rfl⟩
                | some d =>
                  have hst := decFrom_take s.data.toList k 0 m s[k] d HM.out hby hdv
                  have hdd : 48 ≤ s[k].toNat ∧ s[k].toNat ≤ 57 ∧ d = s[k].toNat - 48 := by
                    unfold digitVal at hdv
                    split at hdv
                    · rename_i h; exact ⟨h.1, h.2, (Option.some.inj hdv).symm⟩
                    · cases hdv
                  have HST : Hid (decFrom 0 (s.data.toList.take (k + 1)) = some (m * 10 + d)) := hst
                  clear hst hby hdv
                  obtain ⟨g1, g2, g3⟩ := hdd
                  have g1' : ¬ (s[k].toNat : Int) < 48 := by omega
                  have g2' : ¬ (57 : Int) < (s[k].toNat : Int) := by omega
                  go_wp2
                  go_round
                  case rel => exact ⟨k + 1, m * 10 + d, by omega, HST.out, by go_num, by go_num⟩
                  case measure => simp [intOf]; omega
              · have hkD : k = s.size := by omega
                subst hkD
                have hm' := HM.out
                rw [List.take_of_length_le (by rw [size_list]; omega)] at hm'
                have hgood := numR_good (num_some HP.out hm')
                have hR : R = _ := HR.out.symm.trans hgood
                subst hR
                clear hm' hgood HR
                have hng : ¬ ((s.size : Int) < (s.size : Int)) := by omega
                go_wp2
                go_ret2
                exact ⟨by simp, rfl⟩
          · clear hzz
            go_enter Tryz.func89, Tryz.ntmps89
            go_wp2
            go_loop [5, 6] (fun n i => ∃ k m : Nat, k ≤ s.size ∧ decFrom 0 (s.data.toList.take k) = some m ∧ n = .int .i64 m ∧ i = .int .i64 k) (fun _ i => s.size - (intOf i).toNat)
            case atStart => exact ⟨0, 0, by omega, by simp [decFrom], rfl, rfl⟩
            case round =>
              obtain ⟨k, m, hk, hm, rfl, rfl⟩ := hrel
              have hmb := decFrom_small (Nat.le_trans (List.length_take_le _ _) (Nat.le_trans hk hD11)) hm
              have HM : Hid (decFrom 0 (s.data.toList.take k) = some m) := hm
              clear hm
              by_cases hlt : k < s.size
              · have hi : (k : Int) < (s.size : Int) := by omega
                have hby := byte_list s k hlt
                have h256 : s[k].toNat < 256 := s[k].toNat_lt
                cases hdv : digitVal s[k] with
                | none =>
                  have hbad := numR_bad (num_none HP.out hby hdv)
                  have hR : R = (.int .i64 0, false) := by rw [← HR.out]; exact hbad
                  subst hR
                  have hcc : ¬ (48 ≤ s[k].toNat ∧ s[k].toNat ≤ 57) := fun h => by unfold digitVal at hdv; rw [if_pos h] at hdv; cases hdv
                  clear hby hdv hbad HR
                  by_cases g1 : s[k].toNat < 48
                  · have g1' : (s[k].toNat : Int) < 48 := by omega
                    go_wp2
                    go_ret2
                    exact ⟨rfl, rfl⟩
                  · have g1' : ¬ (s[k].toNat : Int) < 48 := by omega
                    have g2' : (57 : Int) < (s[k].toNat : Int) := by omega
                    go_wp2
                    go_ret2
                    exact ⟨rfl, rfl⟩
                | some d =>
                  have hst := decFrom_take s.data.toList k 0 m s[k] d HM.out hby hdv
                  have hdd : 48 ≤ s[k].toNat ∧ s[k].toNat ≤ 57 ∧ d = s[k].toNat - 48 := by
                    unfold digitVal at hdv
                    split at hdv
                    · rename_i h; exact ⟨h.1, h.2, (Option.some.inj hdv).symm⟩
                    · cases hdv
                  have HST : Hid (decFrom 0 (s.data.toList.take (k + 1)) = some (m * 10 + d)) := hst
                  clear hst hby hdv
                  obtain ⟨g1, g2, g3⟩ := hdd
                  have g1' : ¬ (s[k].toNat : Int) < 48 := by omega
                  have g2' : ¬ (57 : Int) < (s[k].toNat : Int) := by omega
                  go_wp2
                  go_round
                  case rel => exact ⟨k + 1, m * 10 + d, by omega, HST.out, by go_num, by go_num⟩
                  case measure => simp [intOf]; omega
              · have hkD : k = s.size := by omega
                subst hkD
                have hm' := HM.out
                rw [List.take_of_length_le (by rw [size_list]; omega)] at hm'
                have hgood := numR_good (num_some HP.out hm')
                have hR : R = _ := HR.out.symm.trans hgood
                subst hR
                clear hm' hgood HR
                have hng : ¬ ((s.size : Int) < (s.size : Int)) := by omega
                go_wp2
                go_ret2
                exact ⟨by simp, rfl⟩
  · have hbad := numR_bad (s := s.data.toList) (by
      have hn : s.data.toList = [] := List.length_eq_zero_iff.1 (by rw [size_list]; omega)
      rw [hn]
      simp [numP, digsOf])
    rw [hbad]
    clear hbad
    have hi : ¬ (0 : Int) < (s.size : Int) := by omega
    have hi1 : (s.size : Int) < 1 := by omega
    go_enter Tryz.func89, Tryz.ntmps89
    go_wp2
    go_ret2
    exact ⟨rfl, rfl⟩
end Go.Proofs.YtcpplldfmmpaoaaGreatDoor
namespace Go.Proofs.YtcpplldfmmpaoaaGreatDoor
open Go.RowKit Go.Extern.Stop Go.Stop Go.Extern Go.Sort Go.Shelf Go.Lib

theorem Tryz.strInfo3 : (Tryz.prog.info? 9).map (fun i => (i.zero, i.size, i.bytes)) = some (some (.string ⟨#[]⟩), 1, 16) := by kernel_rfl
theorem Tryz.strInfo : ∃ i0 : TypeInfo, Tryz.prog.info? 9 = some i0 ∧ i0.zero = some (.string ⟨#[]⟩) ∧ i0.size = 1 ∧ i0.bytes = 16 := by
  obtain ⟨i, hi, h⟩ := Option.map_eq_some_iff.1 Tryz.strInfo3
  simp only [Prod.mk.injEq] at h
  exact ⟨i, hi, h.1, h.2.1, h.2.2⟩

end Go.Proofs.YtcpplldfmmpaoaaGreatDoor
namespace Go.Proofs.YtcpplldfmmpaoaaGreatDoor
open Go.RowKit Go.Extern.Stop Go.Stop Go.Extern Go.Sort Go.Shelf Go.Lib

structure EnvN (w : World) (a : Nat → Addr) : Prop where
  base : EnvS w
  bound : w.cell? ⟨3, 0, none⟩ = some (.iface 195 (.pointer (some (a 1))))
  name : w.cell? ⟨9, 0, none⟩ = some (.iface 195 (.pointer (some (a 4))))

theorem EnvN.below {w w' : World} {a : Nat → Addr} (h : EnvN w a) (hb : Below w.heap.size w w') : EnvN w' a := ⟨h.base.below hb, below_keep hb h.bound, below_keep hb h.name⟩
structure EnvK (w : World) (a : Nat → Addr) : Prop where
  env : EnvN w a
  kind : w.cell? ⟨4, 0, none⟩ = some (.iface 195 (.pointer (some (a 3))))

theorem EnvK.below {w w' : World} {a : Nat → Addr} (h : EnvK w a) (hb : Below w.heap.size w w') : EnvK w' a := ⟨h.env.below hb, below_keep hb h.kind⟩
def flV (f : Fl) : Value := .agg #[.string f.1, .string f.2.1, .int .i64 f.2.2.1, .int .i64 f.2.2.2.1, .int .i64 f.2.2.2.2.1, .int .i64 f.2.2.2.2.2]

theorem counts_any (n : Int) (w : World) : Calls Tryz.prog 49 #[.int .i64 n] w fun e w' => e = .returned (.bool (cntB n)) ∧ w' = w := by
  by_cases h1 : 1 ≤ n
  · by_cases h2 : n ≤ 1073741824
    · have hr : cntB n = true := by simp [cntB, h1, h2]
      rw [hr]
      go_enter Tryz.func49, Tryz.ntmps49
      go_wp2
      go_ret
      exact ⟨rfl, rfl⟩
    · have hr : cntB n = false := by simp [cntB, h2]
      rw [hr]
      go_enter Tryz.func49, Tryz.ntmps49
      go_wp2
      go_ret
      exact ⟨rfl, rfl⟩
  · have hr : cntB n = false := by simp [cntB, h1]
    rw [hr]
    go_enter Tryz.func49, Tryz.ntmps49
    go_wp2
    go_ret
    exact ⟨rfl, rfl⟩

theorem pathR_none {s : List UInt8} (h : pathO s = none) : pathR s = ([], 0, 5) := by unfold pathR; rw [h]
theorem pathR_some {s : List UInt8} {g : Bool} {n : Int} (h : pathO s = some (g, n)) : pathR s = (kindL g, n, 0) := by unfold pathR; rw [h]

theorem bytes_data (l : List UInt8) : (bytesOf l).data.toList = l := by simp [bytesOf]

set_option maxRecDepth 100000 in
set_option maxHeartbeats 4000000 in
theorem fnumber_n (p : ByteArray) (w : World) (a : Nat → Addr) (h : EnvN w a) (hp : p.size ≤ 100000) :
    Calls Tryz.prog 46 #[.string p] w fun e w' => e = .returned (.tuple #[.string (bytesOf (pathR p.data.toList).1), .int .i64 (pathR p.data.toList).2.1, errV a (pathR p.data.toList).2.2]) ∧ Below w.heap.size w w' := by
  obtain ⟨m, hm⟩ := h.base.maxl
  have hcut := Tryz.strings_Cut p ⟨#[47]⟩ m w (by omega) hm
  have hpc := path_cut p.data.toList
  have hWs : (Lib.cut p.data.toList [47]).2.1.length ≤ p.size := by
    rw [← size_list]
    rcases cut_cases 47 p.data.toList with ⟨_, hc⟩ | ⟨x, y, hxy, _, hc⟩
    · rw [hc]; simp
    · rw [hc, hxy]; simp; omega
  have eK : (⟨(Lib.cut p.data.toList [47]).1.toArray⟩ : ByteArray) = bytesOf (Lib.cut p.data.toList [47]).1 := rfl
  have eW : (⟨(Lib.cut p.data.toList [47]).2.1.toArray⟩ : ByteArray) = bytesOf (Lib.cut p.data.toList [47]).2.1 := rfl
  dsimp only at hcut
  rw [eK, eW] at hcut
  clear eK eW hm
  generalize Lib.cut p.data.toList [47] = C at hcut hpc hWs
  obtain ⟨kL, wL, found⟩ := C
  dsimp only at hcut hpc hWs
  have hnum := fun W (hW : EnvS W) => number_s (bytesOf wL) W hW (by rw [bytes_len]; unfold maxLen; omega)
  rw [bytes_data] at hnum
  have hKd : (bytesOf kL).data.toList = kL := bytes_data kL
  generalize hkB : bytesOf kL = kB at hcut hKd
  have HKB : Hid (bytesOf kL = kB) := hkB
  clear hkB
  generalize bytesOf wL = wB at hcut hnum
  have HPC : Hid (pathO p.data.toList = if kL = kData then (pathN wL).map fun n => (false, n) else if kL = kGone then (pathN wL).map fun n => (true, n) else none) := hpc
  clear hpc hWs
  go_enter Tryz.func46, Tryz.ntmps46
  go_wp2_with fail
  refine hcut.mono ?_
  rintro e w1 ⟨rfl, q, rfl⟩
  clear hcut
  have hB1 : Below w.heap.size w (w.drewN q) := below_drewN (Below.refl _ _) q
  have hn1 := hnum _ (h.below hB1).base
  clear hnum
  have bad : ∀ (b : Bool), pathO p.data.toList = none → ∀ W, Below w.heap.size w W → (Ending.returned (.tuple #[.string ⟨#[]⟩, .int .i64 0, .iface 195 (.pointer (some (a 4)))]) = Ending.returned (.tuple #[.string (bytesOf (pathR p.data.toList).1), .int .i64 (pathR p.data.toList).2.1, errV a (pathR p.data.toList).2.2]) ∧ Below w.heap.size w W) := fun _ hp0 W hW => by
    rw [pathR_none hp0]; exact ⟨rfl, hW⟩
  have BAD : Hid (∀ (b : Bool), pathO p.data.toList = none → ∀ W, Below w.heap.size w W → (Ending.returned (.tuple #[.string ⟨#[]⟩, .int .i64 0, .iface 195 (.pointer (some (a 4)))]) = Ending.returned (.tuple #[.string (bytesOf (pathR p.data.toList).1), .int .i64 (pathR p.data.toList).2.1, errV a (pathR p.data.toList).2.2]) ∧ Below w.heap.size w W)) := bad
  clear bad
  by_cases hk : ∃ g, kL = kindL g
  · obtain ⟨g, hg⟩ := hk
    unfold numR at hn1
    have HP : Hid (pathO p.data.toList = (pathN wL).map fun n => (g, n)) := by
      show _ = _
      rw [HPC.out]
      cases g
      · rw [if_pos (show kL = kData from hg)]
      · rw [if_neg (by rw [hg]; decide), if_pos (show kL = kGone from hg)]
    cases hn : numO wL with
    | none =>
      rw [hn] at hn1
      dsimp only at hn1
      have HN : Hid (pathO p.data.toList = none) := by
        show _ = _
        rw [HP.out]; unfold pathN; rw [hn]; rfl
      clear hn
      go_wp2_with fail
      refine hn1.mono ?_
      rintro e w2 ⟨rfl, hb2⟩
      clear hn1
      have hB2 : Below w.heap.size w w2 := hB1.trans (hb2.mono hB1.size)
      have et := (h.below hB2).name
      cases g
      · have d1 := eqB_of (hKd.trans hg)
        simp only [kindL, Bool.false_eq_true, if_false, kData] at d1
        clear hg hKd
        go_wp2
        go_region
        go_wp2
        go_ret3
        exact BAD.out true HN.out _ hB2.drew
      · have d1 := neB_of (s := kB) (l := [100, 97, 116, 97]) (by rw [hKd, hg]; decide)
        have d2 := eqB_of (hKd.trans hg)
        simp only [kindL, if_true, kGone] at d2
        clear hg hKd
        go_wp2
        go_region
        go_wp2
        go_ret3
        exact BAD.out true HN.out _ hB2.drew
    | some n =>
      rw [hn] at hn1
      dsimp only at hn1
      have HN : Hid (numO wL = some n) := hn
      clear hn
      go_wp2_with fail
      refine hn1.mono ?_
      rintro e w2 ⟨rfl, hb2⟩
      clear hn1
      have hB2 : Below w.heap.size w w2 := hB1.trans (hb2.mono hB1.size)
      have et := (h.below hB2).name
      have hcn := counts_any n w2
      cases hc : cntB n with
      | false =>
        rw [hc] at hcn
        have HO : Hid (pathO p.data.toList = none) := by
          show _ = _
          rw [HP.out]; unfold pathN; rw [HN.out]; simp [hc]
        clear hc
        cases g
        · have d1 := eqB_of (hKd.trans hg)
          simp only [kindL, Bool.false_eq_true, if_false, kData] at d1
          clear hg hKd
          go_wp2_with (go_at_call 49; refine hcn.mono ?_; rintro e w' ⟨rfl, rfl⟩)
          go_region
          go_wp2
          go_ret3
          exact BAD.out true HO.out _ hB2.drew
        · have d1 := neB_of (s := kB) (l := [100, 97, 116, 97]) (by rw [hKd, hg]; decide)
          have d2 := eqB_of (hKd.trans hg)
          simp only [kindL, if_true, kGone] at d2
          clear hg hKd
          go_wp2_with (go_at_call 49; refine hcn.mono ?_; rintro e w' ⟨rfl, rfl⟩)
          go_region
          go_wp2
          go_ret3
          exact BAD.out true HO.out _ hB2.drew
      | true =>
        rw [hc] at hcn
        have HO : Hid (pathO p.data.toList = some (g, n)) := by
          show _ = _
          rw [HP.out]; unfold pathN; rw [HN.out]; simp [hc]
        have HKG : Hid (kB = bytesOf (kindL g)) := by
          show _ = _
          rw [← HKB.out, hg]
        clear hc
        cases g
        · have d1 := eqB_of (hKd.trans hg)
          simp only [kindL, Bool.false_eq_true, if_false, kData] at d1
          clear hg hKd
          go_wp2_with (go_at_call 49; refine hcn.mono ?_; rintro e w' ⟨rfl, rfl⟩)
          go_ret3
          exact ⟨by rw [pathR_some HO.out, HKG.out]; rfl, hB2⟩
        · have d1 := neB_of (s := kB) (l := [100, 97, 116, 97]) (by rw [hKd, hg]; decide)
          have d2 := eqB_of (hKd.trans hg)
          simp only [kindL, if_true, kGone] at d2
          clear hg hKd
          go_wp2_with (go_at_call 49; refine hcn.mono ?_; rintro e w' ⟨rfl, rfl⟩)
          go_ret3
          exact ⟨by rw [pathR_some HO.out, HKG.out]; rfl, hB2⟩
  · have hk1 : kL ≠ kData := fun e => hk ⟨false, e⟩
    have hk2 : kL ≠ kGone := fun e => hk ⟨true, e⟩
    have HN : Hid (pathO p.data.toList = none) := by
      show _ = _
      rw [HPC.out, if_neg hk1, if_neg hk2]
    have d1 := neB_of (s := kB) (l := [100, 97, 116, 97]) (by rw [hKd]; exact hk1)
    have d2 := neB_of (s := kB) (l := [103, 111, 110, 101]) (by rw [hKd]; exact hk2)
    clear hk hk1 hk2 hKd
    generalize numR wL = R at hn1
    obtain ⟨nv, bv⟩ := R
    dsimp only at hn1
    go_wp2_with fail
    refine hn1.mono ?_
    rintro e w2 ⟨rfl, hb2⟩
    clear hn1
    have hB2 : Below w.heap.size w w2 := hB1.trans (hb2.mono hB1.size)
    have et := (h.below hB2).name
    go_wp2
    go_region
    go_wp2
    go_ret3
    exact BAD.out true HN.out _ hB2.drew

set_option maxRecDepth 100000 in
set_option maxHeartbeats 2000000 in
theorem partOf_any (g : Bool) (q : ByteArray) (w : World) (hq : q.size ≤ maxLen) :
    Calls Tryz.prog 47 #[.string (bytesOf (kindL g)), .string q] w fun e w' => e = .returned (.bool (partB g q.data.toList)) ∧ w' = w := by
  cases g
  · have hw : Calls Tryz.prog 76 #[.string q, .int .i64 12] w fun e w' => e = .returned (.bool (partB false q.data.toList)) ∧ w' = w := word_any q 12 w hq (by omega)
    generalize partB false q.data.toList = r at hw ⊢
    have d1 := neB_of (s := bytesOf (kindL false)) (l := [103, 111, 110, 101]) (by rw [bytes_data]; decide)
    generalize bytesOf (kindL false) = kB at d1
    go_enter Tryz.func47, Tryz.ntmps47
    go_wp2_with (go_at_call 76; refine hw.mono ?_; rintro e w' ⟨rfl, rfl⟩)
    go_ret
    exact ⟨rfl, rfl⟩
  · have d1 := eqB_of (s := bytesOf (kindL true)) (l := [103, 111, 110, 101]) (by rw [bytes_data]; rfl)
    generalize bytesOf (kindL true) = kB at d1
    by_cases h : q.data.toList = [45]
    · have hr : partB true q.data.toList = true := by simp [partB, h]
      rw [hr]
      have d2 := eqB_of h
      clear hr h
      go_enter Tryz.func47, Tryz.ntmps47
      go_wp2
      go_ret
      exact ⟨rfl, rfl⟩
    · have hr : partB true q.data.toList = false := by simp [partB, h]
      rw [hr]
      have d2 := neB_of h
      clear hr h
      go_enter Tryz.func47, Tryz.ntmps47
      go_wp2
      go_ret
      exact ⟨rfl, rfl⟩

end Go.Proofs.YtcpplldfmmpaoaaGreatDoor
