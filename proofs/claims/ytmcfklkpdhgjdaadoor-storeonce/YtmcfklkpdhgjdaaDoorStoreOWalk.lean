/-
  The walk of StoreOnce: whatever acts: true; what was there is as it was.
-/
import Derived.Test.YtmcfklkpdhgjdaaDoorStoreTwo
import Derived.Deep.RegionWith
import Derived.Deep.CutBlock
import Derived.Lib.QuietBelow
import Derived.BigQuiet
namespace Go.Proofs.YtmcfklkpdhgjdaaDoor
open Go.RowKit Go.Extern.Stop Go.Stop Go.Extern Go.Sort Go.Shelf Go.Lib

set_option maxRecDepth 100000 in
set_option maxHeartbeats 32000000 in
theorem storeOnce_any {a : Nat → Addr} {EM : World → Prop} {SAt : World → Value → (Nat → Prop) → St → Prop} (w : World) (K : StoreK a w.heap.size EM SAt) (h : EM w) (v : Value) (l : List Ac) (hv : AcsAt w v l) (hl : l.length ≤ maxLen) (hz : ∀ x ∈ l, x.2.1.size ≤ maxLen ∧ x.2.2.1.size ≤ maxLen) (hi : ∀ x ∈ l, -9223372036854775808 ≤ x.2.2.2 ∧ x.2.2.2 ≤ 9223372036854775807) :
    Calls Tryd.prog 3 #[v] w fun e w' => e = .returned (.bool true) ∧ Below w.heap.size w w' := by
  have hst := stored_any K w h
  have HK : Hid (StoreK a w.heap.size EM SAt) := K
  have HLG : Hid (∀ W', Below w.heap.size w W' → Calls Tryd.prog 6 #[v] W' fun e w' => e = .returned (.int .i64 (if acsLong l = true then 1 else 0)) ∧ w' = W') := fun W' hb => longActs_any v l W' (hv.below hb (Nat.le_refl _)) hl hz
  have HE : Hid (EM w) := h
  have HV : Hid (∀ W', Below w.heap.size w W' → AcsAt W' v l) := fun W' hb => hv.below hb (Nat.le_refl _)
  have HI : Hid (∀ x ∈ l, -9223372036854775808 ≤ x.2.2.2 ∧ x.2.2.2 ≤ 9223372036854775807) := hi
  obtain ⟨q, cap, rfl⟩ := hv.form
  obtain ⟨L, hL⟩ : ∃ L, l.length = L := ⟨_, rfl⟩
  have HL : Hid (l.length = L) := hL
  rw [hL] at HLG HV ⊢
  clear K h hv hz hi hl hL
  cases hlong : acsLong l
  case true =>
    rw [hlong, if_pos rfl] at HLG
    clear hlong
    go_enter Tryd.func3, Tryd.ntmps3
    go_wp2_with fail
    refine hst.mono ?_
    rintro e w1 ⟨rfl, hb1⟩
    clear hst
    go_wp2_with fail
    refine (HLG.out w1 hb1).mono ?_
    rintro e w2 ⟨rfl, rfl⟩
    go_wp2
    go_ret
    exact ⟨rfl, hb1⟩
  case false =>
  obtain ⟨s1, s2⟩ := acs_short hlong
  have HSH : Hid (∀ x ∈ l, x.2.1.size ≤ 40 ∧ x.2.2.1.size ≤ 20001) := s2
  rw [HL.out] at s1
  rw [hlong, if_neg (by simp)] at HLG
  clear hlong s2
  go_enter Tryd.func3, Tryd.ntmps3
  go_wp2_with fail
  refine hst.mono ?_
  rintro e w1 ⟨rfl, hb1⟩
  clear hst
  go_wp2_with fail
  refine (HLG.out w1 hb1).mono ?_
  rintro e w2 ⟨rfl, rfl⟩
  clear HLG
  have E2 := HK.out.below _ _ HE.out hb1
  go_wp2_with fail
  refine (HK.out.new w2 E2).mono ?_
  rintro e w3 ⟨v3, FP3, rfl, hs3, hn3, hb3⟩
  have S3 : Hid (SOk EM SAt w.heap.size w w3 v3 FP3 newS) := ⟨HK.out.below _ _ E2 (hb3.mono hb1.size), hb1.trans (hb3.mono hb1.size), Nat.le_refl _, hs3, fun k hk => Nat.le_trans hb1.size (hn3 k hk)⟩
  obtain ⟨p, rfl⟩ := HK.out.ptr _ _ _ _ hs3
  clear hs3 hn3 hb3 E2 hb1 HE
  go_wp2
  go_loopw [5] (fun k wr => ∃ (m : Nat) (s : St) (FP : Nat → Prop), m ≤ L ∧ k = .int .i64 m ∧ SOk EM SAt w.heap.size w wr (.pointer (some p)) FP s ∧ Keeps s) (fun k _ => L - (intOf k).toNat)
  case atStart => exact ⟨0, newS, FP3, by omega, rfl, S3.out, newS_keeps⟩
  case round =>
    clear S3
    obtain ⟨m, s, FP, hm, rfl, hS, hK⟩ := hrel
    have S0 : Hid (SOk EM SAt w.heap.size w wr (.pointer (some p)) FP s) := hS
    have HKS : Hid (Keeps s) := hK
    clear hS hK
    by_cases hlt : m < L
    · have hltx : m < l.length := by rw [HL.out]; exact hlt
      obtain ⟨g, o, hq, -, hc⟩ := (HV.out wr S0.out.frame).cells (fun e => by rw [e] at hltx; simp at hltx)
      subst hq
      obtain ⟨c0, c1, c2, c3⟩ := hc m hltx
      have hmem : l[m] ∈ l := List.getElem_mem hltx
      obtain ⟨z1, z2⟩ := HSH.out _ hmem
      have hz4 := HI.out _ hmem
      generalize l[m].1 = x1 at *
      generalize l[m].2.1 = x2 at *
      generalize l[m].2.2.1 = x3 at *
      generalize l[m].2.2.2 = x4 at *
      have hi : (m : Int) < (L : Int) := by omega
      have hi0 : (0 : Int) ≤ (m : Int) := by omega
      clear hc hmem hltx
      have hb1 : Below wr.heap.size wr (wr.alloc (.cells #[.string x1, .string x2, .string x3, .int .i64 x4] 28)) := (Below.refl _ _).alloc (Nat.le_refl _) _
      have hlt1 : wr.heap.size < (wr.alloc (.cells #[.string x1, .string x2, .string x3, .int .i64 x4] 28)).heap.size := by simp
      have hac : ActC (wr.alloc (.cells #[.string x1, .string x2, .string x3, .int .i64 x4] 28)) wr.heap.size (x1, x2, x3, x4) := by
        unfold ActC
        rw [cell_of_row _ _ _ _ _ _ (heap_alloc_new _ _), cell_of_row _ _ _ _ _ _ (heap_alloc_new _ _), cell_of_row _ _ _ _ _ _ (heap_alloc_new _ _), cell_of_row _ _ _ _ _ _ (heap_alloc_new _ _)]
        exact ⟨rfl, rfl, rfl, rfl⟩
      have S1 := S0.out.quiet HK.out hb1
      have hcp := HK.out.copy _ _ FP s S1.env S1.at_ HKS.out
      go_upto_region 11 with fail
      generalize wr.alloc (.cells #[.string x1, .string x2, .string x3, .int .i64 x4] 28) = W1 at *
      clear c0 c1 c2 c3 S1
      obtain ⟨A, hA⟩ : ∃ A, wr.heap.size = A := ⟨_, rfl⟩
      rw [hA] at hac ⊢
      go_wp2_with fail
      refine hcp.mono ?_
      rintro e w2 ⟨u2, GP, rfl, hu, hnu, hb2⟩
      obtain ⟨p2, rfl⟩ := HK.out.ptr _ _ _ _ hu
      have T2 : Hid (Twin EM SAt w.heap.size w w2 (.pointer (some p)) s (.pointer (some p2)) s A (x1, x2, x3, x4)) := Twin.new HK.out S0.out hA.symm hb1 hlt1 hac hu hnu hb2
      clear hcp hu hnu hb2 hac hb1 hlt1 hA S0 HSH HI
      obtain ⟨d0, d1, d2, d3⟩ := T2.out.cells
      dsimp only at d0 d1 d2 d3
      go_upto_block 2 with fail
      clear d0 d1 d2 d3
      go_cut [8, 9, 10, 11, 12, 13, 14, 15, 16, 17, 18] from 47 to 229 (fun _ _ _ _ _ _ _ _ _ _ _ wx => ∃ s', Twin EM SAt w.heap.size w wx (.pointer (some p)) s' (.pointer (some p2)) s A (x1, x2, x3, x4) ∧ Keeps s' ∧ TailOk s s')
      case first =>
        by_cases k0 : x1.data.toList = [112, 117, 116]
        · have e0 := eqL_of k0
          clear k0
          have HK' : Hid (Keeps (putS s x2 x3)) := putS_keeps HKS.out x2 x3
          have HTL : Hid (TailOk s (putS s x2 x3)) := tail_put s x2 x3
          have hp := T2.out.put HK.out HKS.out x2 x3 (by omega) (by omega)
          have h1 := fun W' (hT : Twin EM SAt w.heap.size w W' (.pointer (some p)) (putS s x2 x3) (.pointer (some p2)) s A (x1, x2, x3, x4)) => hT.get1 HK.out HK'.out x2 (by omega)
          have h2 := fun W' (hT : Twin EM SAt w.heap.size w W' (.pointer (some p)) (putS s x2 x3) (.pointer (some p2)) s A (x1, x2, x3, x4)) => hT.get2 HK.out HKS.out x2 (by omega)
          have h3 := fun W' (hT : Twin EM SAt w.heap.size w W' (.pointer (some p)) (putS s x2 x3) (.pointer (some p2)) s A (x1, x2, x3, x4)) => hT.power1 HK.out HK'.out
          rcases put_legs HKS.out x2 x3 with ⟨⟨mc, q1⟩, q2, q3⟩ | ⟨q1, q2, q3⟩ | ⟨⟨mc, q1⟩, q2, q3⟩ | ⟨⟨mc, q1⟩, q2, q3, q4⟩ | ⟨⟨mc, q1⟩, q2, q3, kk, q4, q5⟩
          · rw [q2] at hp h1 h2 h3 HK' HTL
            rw [q1] at hp
            rw [q3] at h1 h2
            generalize (getT s.obs x2).1 = tu at h1 h2
            simp only [errV] at hp h1 h2
            clear q1 q2 q3
            have HS : Hid (∀ W', Twin EM SAt w.heap.size w W' (.pointer (some p)) (s) (.pointer (some p2)) s A (x1, x2, x3, x4) → Calls Tryd.prog 12 #[.pointer (some p2), .pointer (some p)] W' fun e w' => e = .returned (.bool true) ∧ Twin EM SAt w.heap.size w w' (.pointer (some p)) (s) (.pointer (some p2)) s A (x1, x2, x3, x4)) := fun W' hT => hT.same21 HK.out
            cases hoff : s.off
            · as_aux_lemma =>
                rw [hoff] at h3
                clear hoff
                obtain ⟨d0, d1, d2, d3⟩ := T2.out.cells
                dsimp only at d0 d1 d2 d3
                go_wp2_with fail
                refine (hp).mono ?_
                rintro e w3 ⟨rfl, hT⟩
                clear d0 d1 d2 d3
                have T3 : Hid (Twin EM SAt w.heap.size w w3 (.pointer (some p)) (s) (.pointer (some p2)) s A (x1, x2, x3, x4)) := hT
                clear hT T2
                obtain ⟨d0, d1, d2, d3⟩ := T3.out.cells
                dsimp only at d0 d1 d2 d3
                go_wp2_with fail
                refine (h1 _ T3.out).mono ?_
                rintro e w4 ⟨rfl, hT⟩
                clear d0 d1 d2 d3
                have T4 : Hid (Twin EM SAt w.heap.size w w4 (.pointer (some p)) (s) (.pointer (some p2)) s A (x1, x2, x3, x4)) := hT
                clear hT T3
                obtain ⟨d0, d1, d2, d3⟩ := T4.out.cells
                dsimp only at d0 d1 d2 d3
                go_wp2_with fail
                refine (h2 _ T4.out).mono ?_
                rintro e w5 ⟨rfl, hT⟩
                clear d0 d1 d2 d3
                have T5 : Hid (Twin EM SAt w.heap.size w w5 (.pointer (some p)) (s) (.pointer (some p2)) s A (x1, x2, x3, x4)) := hT
                clear hT T4
                clear hp h1 h2
                have hnb : (!false) = true := rfl
                rw [hnb] at h3
                obtain ⟨d0, d1, d2, d3⟩ := T5.out.cells
                dsimp only at d0 d1 d2 d3
                go_wp2_with fail
                refine (h3 _ T5.out).mono ?_
                rintro e w6 ⟨rfl, hT⟩
                clear d0 d1 d2 d3
                have T6 : Hid (Twin EM SAt w.heap.size w w6 (.pointer (some p)) (s) (.pointer (some p2)) s A (x1, x2, x3, x4)) := hT
                clear hT T5
                obtain ⟨d0, d1, d2, d3⟩ := T6.out.cells
                dsimp only at d0 d1 d2 d3
                go_wp2_with fail
                refine (HS.out _ T6.out).mono ?_
                rintro e w7 ⟨rfl, hT⟩
                clear d0 d1 d2 d3
                have T7 : Hid (Twin EM SAt w.heap.size w w7 (.pointer (some p)) (s) (.pointer (some p2)) s A (x1, x2, x3, x4)) := hT
                clear hT T6
                clear h3 HS
                go_wp2
                go_meet
                case rel => exact ⟨s, T7.out, HK'.out, HTL.out⟩
            · as_aux_lemma =>
                rw [hoff] at h3
                clear hoff
                obtain ⟨d0, d1, d2, d3⟩ := T2.out.cells
                dsimp only at d0 d1 d2 d3
                go_wp2_with fail
                refine (hp).mono ?_
                rintro e w3 ⟨rfl, hT⟩
                clear d0 d1 d2 d3
                have T3 : Hid (Twin EM SAt w.heap.size w w3 (.pointer (some p)) (s) (.pointer (some p2)) s A (x1, x2, x3, x4)) := hT
                clear hT T2
                obtain ⟨d0, d1, d2, d3⟩ := T3.out.cells
                dsimp only at d0 d1 d2 d3
                go_wp2_with fail
                refine (h1 _ T3.out).mono ?_
                rintro e w4 ⟨rfl, hT⟩
                clear d0 d1 d2 d3
                have T4 : Hid (Twin EM SAt w.heap.size w w4 (.pointer (some p)) (s) (.pointer (some p2)) s A (x1, x2, x3, x4)) := hT
                clear hT T3
                obtain ⟨d0, d1, d2, d3⟩ := T4.out.cells
                dsimp only at d0 d1 d2 d3
                go_wp2_with fail
                refine (h2 _ T4.out).mono ?_
                rintro e w5 ⟨rfl, hT⟩
                clear d0 d1 d2 d3
                have T5 : Hid (Twin EM SAt w.heap.size w w5 (.pointer (some p)) (s) (.pointer (some p2)) s A (x1, x2, x3, x4)) := hT
                clear hT T4
                clear hp h1 h2
                have hnb : (!true) = false := rfl
                rw [hnb] at h3
                obtain ⟨d0, d1, d2, d3⟩ := T5.out.cells
                dsimp only at d0 d1 d2 d3
                go_wp2_with fail
                refine (h3 _ T5.out).mono ?_
                rintro e w6 ⟨rfl, hT⟩
                clear d0 d1 d2 d3
                have T6 : Hid (Twin EM SAt w.heap.size w w6 (.pointer (some p)) (s) (.pointer (some p2)) s A (x1, x2, x3, x4)) := hT
                clear hT T5
                clear h3 HS
                go_wp2
                go_meet
                case rel => exact ⟨s, T6.out, HK'.out, HTL.out⟩
          · as_aux_lemma =>
              rw [q1] at hp
              rw [q3] at h1
              rw [q2] at h2
              generalize (getT s.obs x2).1 = tu at h2
              generalize putS s x2 x3 = s1 at *
              simp only [errV] at hp h1 h2
              have hxx : ¬ (x3.size : Int) < (x3.size : Int) := by omega
              clear q1 q2 q3 h3
              obtain ⟨d0, d1, d2, d3⟩ := T2.out.cells
              dsimp only at d0 d1 d2 d3
              go_wp2_with fail
              refine (hp).mono ?_
              rintro e w3 ⟨rfl, hT⟩
              clear d0 d1 d2 d3
              have T3 : Hid (Twin EM SAt w.heap.size w w3 (.pointer (some p)) (s1) (.pointer (some p2)) s A (x1, x2, x3, x4)) := hT
              clear hT T2
              obtain ⟨d0, d1, d2, d3⟩ := T3.out.cells
              dsimp only at d0 d1 d2 d3
              go_wp2_with fail
              refine (h1 _ T3.out).mono ?_
              rintro e w4 ⟨rfl, hT⟩
              clear d0 d1 d2 d3
              have T4 : Hid (Twin EM SAt w.heap.size w w4 (.pointer (some p)) (s1) (.pointer (some p2)) s A (x1, x2, x3, x4)) := hT
              clear hT T3
              obtain ⟨d0, d1, d2, d3⟩ := T4.out.cells
              dsimp only at d0 d1 d2 d3
              go_wp2_with fail
              refine (h2 _ T4.out).mono ?_
              rintro e w5 ⟨rfl, hT⟩
              clear d0 d1 d2 d3
              have T5 : Hid (Twin EM SAt w.heap.size w w5 (.pointer (some p)) (s1) (.pointer (some p2)) s A (x1, x2, x3, x4)) := hT
              clear hT T4
              clear hp h1 h2
              obtain ⟨d0, d1, d2, d3⟩ := T5.out.cells
              dsimp only at d0 d1 d2 d3
              go_wp2
              go_meet
              case rel => exact ⟨s1, T5.out, HK'.out, HTL.out⟩
          · rw [q3] at hp h1 h2 h3 HK' HTL
            rw [q1] at hp
            rw [q2] at h1 h2
            generalize (getT s.obs x2).1 = tu at h1 h2
            simp only [errV] at hp h1 h2
            clear q1 q2 q3
            have HS : Hid (∀ W', Twin EM SAt w.heap.size w W' (.pointer (some p)) (s) (.pointer (some p2)) s A (x1, x2, x3, x4) → Calls Tryd.prog 12 #[.pointer (some p2), .pointer (some p)] W' fun e w' => e = .returned (.bool true) ∧ Twin EM SAt w.heap.size w w' (.pointer (some p)) (s) (.pointer (some p2)) s A (x1, x2, x3, x4)) := fun W' hT => hT.same21 HK.out
            cases hoff : s.off
            · as_aux_lemma =>
                rw [hoff] at h3
                clear hoff
                obtain ⟨d0, d1, d2, d3⟩ := T2.out.cells
                dsimp only at d0 d1 d2 d3
                go_wp2_with fail
                refine (hp).mono ?_
                rintro e w3 ⟨rfl, hT⟩
                clear d0 d1 d2 d3
                have T3 : Hid (Twin EM SAt w.heap.size w w3 (.pointer (some p)) (s) (.pointer (some p2)) s A (x1, x2, x3, x4)) := hT
                clear hT T2
                obtain ⟨d0, d1, d2, d3⟩ := T3.out.cells
                dsimp only at d0 d1 d2 d3
                go_wp2_with fail
                refine (h1 _ T3.out).mono ?_
                rintro e w4 ⟨rfl, hT⟩
                clear d0 d1 d2 d3
                have T4 : Hid (Twin EM SAt w.heap.size w w4 (.pointer (some p)) (s) (.pointer (some p2)) s A (x1, x2, x3, x4)) := hT
                clear hT T3
                obtain ⟨d0, d1, d2, d3⟩ := T4.out.cells
                dsimp only at d0 d1 d2 d3
                go_wp2_with fail
                refine (h2 _ T4.out).mono ?_
                rintro e w5 ⟨rfl, hT⟩
                clear d0 d1 d2 d3
                have T5 : Hid (Twin EM SAt w.heap.size w w5 (.pointer (some p)) (s) (.pointer (some p2)) s A (x1, x2, x3, x4)) := hT
                clear hT T4
                clear hp h1 h2
                have hnb : (!false) = true := rfl
                rw [hnb] at h3
                obtain ⟨d0, d1, d2, d3⟩ := T5.out.cells
                dsimp only at d0 d1 d2 d3
                go_wp2_with fail
                refine (h3 _ T5.out).mono ?_
                rintro e w6 ⟨rfl, hT⟩
                clear d0 d1 d2 d3
                have T6 : Hid (Twin EM SAt w.heap.size w w6 (.pointer (some p)) (s) (.pointer (some p2)) s A (x1, x2, x3, x4)) := hT
                clear hT T5
                obtain ⟨d0, d1, d2, d3⟩ := T6.out.cells
                dsimp only at d0 d1 d2 d3
                go_wp2_with fail
                refine (HS.out _ T6.out).mono ?_
                rintro e w7 ⟨rfl, hT⟩
                clear d0 d1 d2 d3
                have T7 : Hid (Twin EM SAt w.heap.size w w7 (.pointer (some p)) (s) (.pointer (some p2)) s A (x1, x2, x3, x4)) := hT
                clear hT T6
                clear h3 HS
                go_wp2
                go_meet
                case rel => exact ⟨s, T7.out, HK'.out, HTL.out⟩
            · as_aux_lemma =>
                rw [hoff] at h3
                clear hoff
                obtain ⟨d0, d1, d2, d3⟩ := T2.out.cells
                dsimp only at d0 d1 d2 d3
                go_wp2_with fail
                refine (hp).mono ?_
                rintro e w3 ⟨rfl, hT⟩
                clear d0 d1 d2 d3
                have T3 : Hid (Twin EM SAt w.heap.size w w3 (.pointer (some p)) (s) (.pointer (some p2)) s A (x1, x2, x3, x4)) := hT
                clear hT T2
                obtain ⟨d0, d1, d2, d3⟩ := T3.out.cells
                dsimp only at d0 d1 d2 d3
                go_wp2_with fail
                refine (h1 _ T3.out).mono ?_
                rintro e w4 ⟨rfl, hT⟩
                clear d0 d1 d2 d3
                have T4 : Hid (Twin EM SAt w.heap.size w w4 (.pointer (some p)) (s) (.pointer (some p2)) s A (x1, x2, x3, x4)) := hT
                clear hT T3
                obtain ⟨d0, d1, d2, d3⟩ := T4.out.cells
                dsimp only at d0 d1 d2 d3
                go_wp2_with fail
                refine (h2 _ T4.out).mono ?_
                rintro e w5 ⟨rfl, hT⟩
                clear d0 d1 d2 d3
                have T5 : Hid (Twin EM SAt w.heap.size w w5 (.pointer (some p)) (s) (.pointer (some p2)) s A (x1, x2, x3, x4)) := hT
                clear hT T4
                clear hp h1 h2
                have hnb : (!true) = false := rfl
                rw [hnb] at h3
                obtain ⟨d0, d1, d2, d3⟩ := T5.out.cells
                dsimp only at d0 d1 d2 d3
                go_wp2_with fail
                refine (h3 _ T5.out).mono ?_
                rintro e w6 ⟨rfl, hT⟩
                clear d0 d1 d2 d3
                have T6 : Hid (Twin EM SAt w.heap.size w w6 (.pointer (some p)) (s) (.pointer (some p2)) s A (x1, x2, x3, x4)) := hT
                clear hT T5
                clear h3 HS
                go_wp2
                go_meet
                case rel => exact ⟨s, T6.out, HK'.out, HTL.out⟩
          · as_aux_lemma =>
              rw [q1] at hp
              rw [q3] at h1
              rw [q2] at h2
              rw [q4] at h3
              generalize (getT s.obs x2).1 = tu at h2
              generalize (getT (putS s x2 x3).obs x2).1 = tv at h1
              generalize putS s x2 x3 = s1 at *
              simp only [errV] at hp h1 h2
              clear q1 q2 q3 q4
              obtain ⟨d0, d1, d2, d3⟩ := T2.out.cells
              dsimp only at d0 d1 d2 d3
              go_wp2_with fail
              refine (hp).mono ?_
              rintro e w3 ⟨rfl, hT⟩
              clear d0 d1 d2 d3
              have T3 : Hid (Twin EM SAt w.heap.size w w3 (.pointer (some p)) (s1) (.pointer (some p2)) s A (x1, x2, x3, x4)) := hT
              clear hT T2
              obtain ⟨d0, d1, d2, d3⟩ := T3.out.cells
              dsimp only at d0 d1 d2 d3
              go_wp2_with fail
              refine (h1 _ T3.out).mono ?_
              rintro e w4 ⟨rfl, hT⟩
              clear d0 d1 d2 d3
              have T4 : Hid (Twin EM SAt w.heap.size w w4 (.pointer (some p)) (s1) (.pointer (some p2)) s A (x1, x2, x3, x4)) := hT
              clear hT T3
              obtain ⟨d0, d1, d2, d3⟩ := T4.out.cells
              dsimp only at d0 d1 d2 d3
              go_wp2_with fail
              refine (h2 _ T4.out).mono ?_
              rintro e w5 ⟨rfl, hT⟩
              clear d0 d1 d2 d3
              have T5 : Hid (Twin EM SAt w.heap.size w w5 (.pointer (some p)) (s1) (.pointer (some p2)) s A (x1, x2, x3, x4)) := hT
              clear hT T4
              clear hp h1 h2
              have hnb : (!true) = false := rfl
              rw [hnb] at h3
              obtain ⟨d0, d1, d2, d3⟩ := T5.out.cells
              dsimp only at d0 d1 d2 d3
              go_wp2_with fail
              refine (h3 _ T5.out).mono ?_
              rintro e w6 ⟨rfl, hT⟩
              clear d0 d1 d2 d3
              have T6 : Hid (Twin EM SAt w.heap.size w w6 (.pointer (some p)) (s1) (.pointer (some p2)) s A (x1, x2, x3, x4)) := hT
              clear hT T5
              clear h3
              go_wp2
              go_meet
              case rel => exact ⟨s1, T6.out, HK'.out, HTL.out⟩
          · rw [q1] at hp
            rw [q5] at h1
            rw [q2] at h2
            rw [q3] at h3
            generalize (getT s.obs x2).1 = tu at h2
            generalize putS s x2 x3 = s1 at *
            simp only [errV] at hp h1 h2
            have hts := take_size q4
            have hte := take_extract x3 kk
            clear q1 q2 q3 q5
            by_cases hfull : kk = x3.size
            · as_aux_lemma =>
                have hev : bytesOf (x3.data.toList.take kk) = x3 := by rw [hfull]; exact bytesOf_take_all x3
                rw [hev] at h1
                have hxx : ¬ (x3.size : Int) < (x3.size : Int) := by omega
                clear hts hte hfull hev q4
                obtain ⟨d0, d1, d2, d3⟩ := T2.out.cells
                dsimp only at d0 d1 d2 d3
                go_wp2_with fail
                refine (hp).mono ?_
                rintro e w3 ⟨rfl, hT⟩
                clear d0 d1 d2 d3
                have T3 : Hid (Twin EM SAt w.heap.size w w3 (.pointer (some p)) (s1) (.pointer (some p2)) s A (x1, x2, x3, x4)) := hT
                clear hT T2
                obtain ⟨d0, d1, d2, d3⟩ := T3.out.cells
                dsimp only at d0 d1 d2 d3
                go_wp2_with fail
                refine (h1 _ T3.out).mono ?_
                rintro e w4 ⟨rfl, hT⟩
                clear d0 d1 d2 d3
                have T4 : Hid (Twin EM SAt w.heap.size w w4 (.pointer (some p)) (s1) (.pointer (some p2)) s A (x1, x2, x3, x4)) := hT
                clear hT T3
                obtain ⟨d0, d1, d2, d3⟩ := T4.out.cells
                dsimp only at d0 d1 d2 d3
                go_wp2_with fail
                refine (h2 _ T4.out).mono ?_
                rintro e w5 ⟨rfl, hT⟩
                clear d0 d1 d2 d3
                have T5 : Hid (Twin EM SAt w.heap.size w w5 (.pointer (some p)) (s1) (.pointer (some p2)) s A (x1, x2, x3, x4)) := hT
                clear hT T4
                clear hp h1 h2
                have hnb : (!true) = false := rfl
                rw [hnb] at h3
                obtain ⟨d0, d1, d2, d3⟩ := T5.out.cells
                dsimp only at d0 d1 d2 d3
                go_wp2_with fail
                refine (h3 _ T5.out).mono ?_
                rintro e w6 ⟨rfl, hT⟩
                clear d0 d1 d2 d3
                have T6 : Hid (Twin EM SAt w.heap.size w w6 (.pointer (some p)) (s1) (.pointer (some p2)) s A (x1, x2, x3, x4)) := hT
                clear hT T5
                clear h3
                obtain ⟨d0, d1, d2, d3⟩ := T6.out.cells
                dsimp only at d0 d1 d2 d3
                go_wp2
                go_meet
                case rel => exact ⟨s1, T6.out, HK'.out, HTL.out⟩
            · as_aux_lemma =>
                have hq1 : ((bytesOf (x3.data.toList.take kk)).toList == (x3.extract 0 kk).toList) = true := by rw [hte]; simp
                generalize bytesOf (x3.data.toList.take kk) = tt at h1 hts hq1
                have hxx : ¬ (x3.size : Int) < (tt.size : Int) := by omega
                have hx1 : (tt.size : Int) ≤ (x3.size : Int) := by omega
                have hx2 : ¬ tt.size = x3.size := by omega
                rw [← hts] at hq1
                clear hts hte hfull q4
                obtain ⟨d0, d1, d2, d3⟩ := T2.out.cells
                dsimp only at d0 d1 d2 d3
                go_wp2_with fail
                refine (hp).mono ?_
                rintro e w3 ⟨rfl, hT⟩
                clear d0 d1 d2 d3
                have T3 : Hid (Twin EM SAt w.heap.size w w3 (.pointer (some p)) (s1) (.pointer (some p2)) s A (x1, x2, x3, x4)) := hT
                clear hT T2
                obtain ⟨d0, d1, d2, d3⟩ := T3.out.cells
                dsimp only at d0 d1 d2 d3
                go_wp2_with fail
                refine (h1 _ T3.out).mono ?_
                rintro e w4 ⟨rfl, hT⟩
                clear d0 d1 d2 d3
                have T4 : Hid (Twin EM SAt w.heap.size w w4 (.pointer (some p)) (s1) (.pointer (some p2)) s A (x1, x2, x3, x4)) := hT
                clear hT T3
                obtain ⟨d0, d1, d2, d3⟩ := T4.out.cells
                dsimp only at d0 d1 d2 d3
                go_wp2_with fail
                refine (h2 _ T4.out).mono ?_
                rintro e w5 ⟨rfl, hT⟩
                clear d0 d1 d2 d3
                have T5 : Hid (Twin EM SAt w.heap.size w w5 (.pointer (some p)) (s1) (.pointer (some p2)) s A (x1, x2, x3, x4)) := hT
                clear hT T4
                clear hp h1 h2
                have hnb : (!true) = false := rfl
                rw [hnb] at h3
                obtain ⟨d0, d1, d2, d3⟩ := T5.out.cells
                dsimp only at d0 d1 d2 d3
                go_wp2_with fail
                refine (h3 _ T5.out).mono ?_
                rintro e w6 ⟨rfl, hT⟩
                clear d0 d1 d2 d3
                have T6 : Hid (Twin EM SAt w.heap.size w w6 (.pointer (some p)) (s1) (.pointer (some p2)) s A (x1, x2, x3, x4)) := hT
                clear hT T5
                clear h3
                obtain ⟨d0, d1, d2, d3⟩ := T6.out.cells
                dsimp only at d0 d1 d2 d3
                go_wp2
                go_meet
                case rel => exact ⟨s1, T6.out, HK'.out, HTL.out⟩
        have e0 := neL_of k0
        clear k0
        by_cases k1 : x1.data.toList = [115, 119, 97, 112]
        · have e1 := eqL_of k1
          clear k1
          have HK' : Hid (Keeps (swapS s x2 x3)) := swapS_keeps HKS.out x2 x3
          have HTL : Hid (TailOk s (swapS s x2 x3)) := tail_swap s x2 x3
          have hp := T2.out.swap HK.out HKS.out x2 x3 (by omega) (by omega)
          have HH1 : Hid (∀ W', Twin EM SAt w.heap.size w W' (.pointer (some p)) (swapS s x2 x3) (.pointer (some p2)) s A (x1, x2, x3, x4) → Calls Tryd.prog 14 #[.pointer (some p)] W' fun e w' => e = .returned (.string (swapS s x2 x3).head) ∧ Below W'.heap.size W' w') := fun W' hT => hT.head1b HK.out HK'.out
          have HH2 : Hid (∀ W', Twin EM SAt w.heap.size w W' (.pointer (some p)) (swapS s x2 x3) (.pointer (some p2)) s A (x1, x2, x3, x4) → Calls Tryd.prog 14 #[.pointer (some p2)] W' fun e w' => e = .returned (.string s.head) ∧ Below W'.heap.size W' w') := fun W' hT => hT.head2b HK.out HKS.out
          have HDR : Hid (∀ W', Twin EM SAt w.heap.size w W' (.pointer (some p)) (swapS s x2 x3) (.pointer (some p2)) s A (x1, x2, x3, x4) → Twin EM SAt w.heap.size w W'.drew (.pointer (some p)) (swapS s x2 x3) (.pointer (some p2)) s A (x1, x2, x3, x4)) := fun W' hT => hT.drew HK.out
          rcases swap_legs s x2 x3 with ⟨q1, q2, q3⟩ | ⟨⟨mc, q1⟩, q2⟩
          · as_aux_lemma =>
              rw [q1] at hp
              rw [q2] at HH2
              rw [q3] at HH1
              generalize swapS s x2 x3 = s1 at *
              simp only [errV] at hp
              clear q1 q2 q3
              obtain ⟨d0, d1, d2, d3⟩ := T2.out.cells
              dsimp only at d0 d1 d2 d3
              go_wp2_with fail
              refine (hp).mono ?_
              rintro e w3 ⟨rfl, hT⟩
              clear d0 d1 d2 d3
              have T3 : Hid (Twin EM SAt w.heap.size w w3 (.pointer (some p)) (s1) (.pointer (some p2)) s A (x1, x2, x3, x4)) := hT
              clear hT T2
              clear hp
              obtain ⟨d0, d1, d2, d3⟩ := T3.out.cells
              dsimp only at d0 d1 d2 d3
              go_upto_region 33 with fail
              have f1 := cell_regrown d1
              have f2 := cell_regrown d2
              have hmxo : Tryd.prog.follows .mixedOrders = true := by kernel_rfl
              have HTQ : Hid (∀ d os, Twin EM SAt w.heap.size w (grow (redrawn w3 d) os) (.pointer (some p)) (s1) (.pointer (some p2)) s A (x1, x2, x3, x4)) := fun d os => T3.out.quiet HK.out (below_regrown w3 d os)
              have h1q := fun d os => Calls.regrown_of (w := w3) (d := d) (os := os) (HH1.out _ (HTQ.out d os))
              have h2q := fun d os => Calls.regrown_of (w := w3) (d := d) (os := os) (HH2.out _ (HTQ.out d os))
              clear d0 d1 d2 d3
              refine wp_region_quiet_below hmxo (by kernel_rfl) ?_
              repeat (go_big_quiet_step (first | exact h1q _ _ | exact h2q _ _))
              refine wpQuiet_nil ?_
              intro _ hw'
              obtain ⟨⟨dq, osq⟩, hw''⟩ := hw'
              subst hw''
              clear f1 f2 h1q h2q
              have T4 : Hid (Twin EM SAt w.heap.size w (grow (redrawn w3 dq) osq) (.pointer (some p)) (s1) (.pointer (some p2)) s A (x1, x2, x3, x4)) := HTQ.out dq osq
              clear T3 HTQ HH1 HH2
              generalize grow (redrawn w3 dq) osq = wX at *
              go_wp2
              go_meet
              case rel => exact ⟨s1, T4.out, HK'.out, HTL.out⟩
          · as_aux_lemma =>
              rw [q1] at hp
              rw [q2] at HH1
              generalize s.head = hd at HH1 HH2
              generalize swapS s x2 x3 = s1 at *
              simp only [errV] at hp
              clear q1 q2
              obtain ⟨d0, d1, d2, d3⟩ := T2.out.cells
              dsimp only at d0 d1 d2 d3
              go_wp2_with fail
              refine (hp).mono ?_
              rintro e w3 ⟨rfl, hT⟩
              clear d0 d1 d2 d3
              have T3 : Hid (Twin EM SAt w.heap.size w w3 (.pointer (some p)) (s1) (.pointer (some p2)) s A (x1, x2, x3, x4)) := hT
              clear hT T2
              clear hp
              obtain ⟨d0, d1, d2, d3⟩ := T3.out.cells
              dsimp only at d0 d1 d2 d3
              go_upto_region 33 with fail
              have f1 := cell_regrown d1
              have f2 := cell_regrown d2
              have hmxo : Tryd.prog.follows .mixedOrders = true := by kernel_rfl
              have HTQ : Hid (∀ d os, Twin EM SAt w.heap.size w (grow (redrawn w3 d) os) (.pointer (some p)) (s1) (.pointer (some p2)) s A (x1, x2, x3, x4)) := fun d os => T3.out.quiet HK.out (below_regrown w3 d os)
              have h1q := fun d os => Calls.regrown_of (w := w3) (d := d) (os := os) (HH1.out _ (HTQ.out d os))
              have h2q := fun d os => Calls.regrown_of (w := w3) (d := d) (os := os) (HH2.out _ (HTQ.out d os))
              clear d0 d1 d2 d3
              refine wp_region_quiet_below hmxo (by kernel_rfl) ?_
              repeat (go_big_quiet_step (first | exact h1q _ _ | exact h2q _ _))
              refine wpQuiet_nil ?_
              intro _ hw'
              obtain ⟨⟨dq, osq⟩, hw''⟩ := hw'
              subst hw''
              clear f1 f2 h1q h2q
              have T4 : Hid (Twin EM SAt w.heap.size w (grow (redrawn w3 dq) osq) (.pointer (some p)) (s1) (.pointer (some p2)) s A (x1, x2, x3, x4)) := HTQ.out dq osq
              clear T3 HTQ HH1 HH2
              generalize grow (redrawn w3 dq) osq = wX at *
              go_wp2
              go_meet
              case rel => exact ⟨s1, T4.out, HK'.out, HTL.out⟩
        have e1 := neL_of k1
        clear k1
        by_cases k2 : x1.data.toList = [100, 114, 111, 112]
        · have e2 := eqL_of k2
          clear k2
          have HK' : Hid (Keeps (dropS s x2)) := dropS_keeps HKS.out x2
          have HTL : Hid (TailOk s (dropS s x2)) := tail_drop s x2
          have hp := T2.out.drop HK.out HKS.out x2 (by omega)
          have h1 := fun W' (hT : Twin EM SAt w.heap.size w W' (.pointer (some p)) (dropS s x2) (.pointer (some p2)) s A (x1, x2, x3, x4)) => hT.get1 HK.out HK'.out x2 (by omega)
          rcases drop_legs HKS.out x2 with ⟨q1, q2⟩ | ⟨⟨mc, q1⟩, q2⟩
          · as_aux_lemma =>
              rw [q1] at hp
              rw [q2] at h1
              generalize (getT (dropS s x2).obs x2).1 = tu at h1
              generalize dropS s x2 = s1 at *
              simp only [errV] at hp h1
              clear q1 q2
              obtain ⟨d0, d1, d2, d3⟩ := T2.out.cells
              dsimp only at d0 d1 d2 d3
              go_wp2_with fail
              refine (hp).mono ?_
              rintro e w3 ⟨rfl, hT⟩
              clear d0 d1 d2 d3
              have T3 : Hid (Twin EM SAt w.heap.size w w3 (.pointer (some p)) (s1) (.pointer (some p2)) s A (x1, x2, x3, x4)) := hT
              clear hT T2
              obtain ⟨d0, d1, d2, d3⟩ := T3.out.cells
              dsimp only at d0 d1 d2 d3
              go_wp2_with fail
              refine (h1 _ T3.out).mono ?_
              rintro e w4 ⟨rfl, hT⟩
              clear d0 d1 d2 d3
              have T4 : Hid (Twin EM SAt w.heap.size w w4 (.pointer (some p)) (s1) (.pointer (some p2)) s A (x1, x2, x3, x4)) := hT
              clear hT T3
              clear hp h1
              go_wp2
              go_meet
              case rel => exact ⟨s1, T4.out, HK'.out, HTL.out⟩
          · as_aux_lemma =>
              rw [q1, q2] at hp
              rw [q2] at h1 HK' HTL
              generalize (getT s.obs x2).1 = tu at h1
              generalize errV a (getT s.obs x2).2 = eu at h1
              simp only [errV] at hp
              clear q1 q2
              have HS : Hid (∀ W', Twin EM SAt w.heap.size w W' (.pointer (some p)) (s) (.pointer (some p2)) s A (x1, x2, x3, x4) → Calls Tryd.prog 12 #[.pointer (some p2), .pointer (some p)] W' fun e w' => e = .returned (.bool true) ∧ Twin EM SAt w.heap.size w w' (.pointer (some p)) (s) (.pointer (some p2)) s A (x1, x2, x3, x4)) := fun W' hT => hT.same21 HK.out
              obtain ⟨d0, d1, d2, d3⟩ := T2.out.cells
              dsimp only at d0 d1 d2 d3
              go_wp2_with fail
              refine (hp).mono ?_
              rintro e w3 ⟨rfl, hT⟩
              clear d0 d1 d2 d3
              have T3 : Hid (Twin EM SAt w.heap.size w w3 (.pointer (some p)) (s) (.pointer (some p2)) s A (x1, x2, x3, x4)) := hT
              clear hT T2
              obtain ⟨d0, d1, d2, d3⟩ := T3.out.cells
              dsimp only at d0 d1 d2 d3
              go_wp2_with fail
              refine (h1 _ T3.out).mono ?_
              rintro e w4 ⟨rfl, hT⟩
              clear d0 d1 d2 d3
              have T4 : Hid (Twin EM SAt w.heap.size w w4 (.pointer (some p)) (s) (.pointer (some p2)) s A (x1, x2, x3, x4)) := hT
              clear hT T3
              clear hp h1
              obtain ⟨d0, d1, d2, d3⟩ := T4.out.cells
              dsimp only at d0 d1 d2 d3
              go_wp2_with fail
              refine (HS.out _ T4.out).mono ?_
              rintro e w5 ⟨rfl, hT⟩
              clear d0 d1 d2 d3
              have T5 : Hid (Twin EM SAt w.heap.size w w5 (.pointer (some p)) (s) (.pointer (some p2)) s A (x1, x2, x3, x4)) := hT
              clear hT T4
              clear HS
              go_wp2
              go_meet
              case rel => exact ⟨s, T5.out, HK'.out, HTL.out⟩
        have e2 := neL_of k2
        clear k2
        by_cases k3 : x1.data.toList = [99, 117, 116]
        · as_aux_lemma =>
            have e3 := eqL_of k3
            clear k3
            have HK' : Hid (Keeps (cutS s x4)) := cutS_keeps HKS.out x4
            have HTL : Hid (TailOk s (cutS s x4)) := tail_cut s x4
            have hp := T2.out.cut HK.out HKS.out x4 hz4
            generalize errV a (cutC s x4) = eu at hp
            generalize cutS s x4 = s1 at *
            obtain ⟨d0, d1, d2, d3⟩ := T2.out.cells
            dsimp only at d0 d1 d2 d3
            go_wp2_with fail
            refine (hp).mono ?_
            rintro e w3 ⟨rfl, hT⟩
            clear d0 d1 d2 d3
            have T3 : Hid (Twin EM SAt w.heap.size w w3 (.pointer (some p)) (s1) (.pointer (some p2)) s A (x1, x2, x3, x4)) := hT
            clear hT T2
            clear hp
            go_wp2
            go_meet
            case rel => exact ⟨s1, T3.out, HK'.out, HTL.out⟩
        have e3 := neL_of k3
        clear k3
        by_cases k4 : x1.data.toList = [111, 110]
        · as_aux_lemma =>
            have e4 := eqL_of k4
            clear k4
            have HK' : Hid (Keeps (onS s)) := onS_keeps HKS.out
            have HTL : Hid (TailOk s (onS s)) := tail_on s
            have hp := T2.out.on HK.out HKS.out
            have h3 := fun W' (hT : Twin EM SAt w.heap.size w W' (.pointer (some p)) (onS s) (.pointer (some p2)) s A (x1, x2, x3, x4)) => hT.power1 HK.out HK'.out
            have ho : (!(onS s).off) = true := rfl
            rw [ho] at h3
            generalize onS s = s1 at *
            clear ho
            obtain ⟨d0, d1, d2, d3⟩ := T2.out.cells
            dsimp only at d0 d1 d2 d3
            go_wp2_with fail
            refine (hp).mono ?_
            rintro e w3 ⟨rfl, hT⟩
            clear d0 d1 d2 d3
            have T3 : Hid (Twin EM SAt w.heap.size w w3 (.pointer (some p)) (s1) (.pointer (some p2)) s A (x1, x2, x3, x4)) := hT
            clear hT T2
            obtain ⟨d0, d1, d2, d3⟩ := T3.out.cells
            dsimp only at d0 d1 d2 d3
            go_wp2_with fail
            refine (h3 _ T3.out).mono ?_
            rintro e w4 ⟨rfl, hT⟩
            clear d0 d1 d2 d3
            have T4 : Hid (Twin EM SAt w.heap.size w w4 (.pointer (some p)) (s1) (.pointer (some p2)) s A (x1, x2, x3, x4)) := hT
            clear hT T3
            clear hp h3
            go_wp2
            go_meet
            case rel => exact ⟨s1, T4.out, HK'.out, HTL.out⟩
        have e4 := neL_of k4
        clear k4
        have HK' : Hid (Keeps (nextS s x4)) := nextS_keeps HKS.out x4
        have HTL : Hid (TailOk s (nextS s x4)) := tail_next s x4
        have hp := T2.out.next HK.out HKS.out x4 hz4
        have HH1 : Hid (∀ W', Twin EM SAt w.heap.size w W' (.pointer (some p)) (nextS s x4) (.pointer (some p2)) s A (x1, x2, x3, x4) → Calls Tryd.prog 19 #[.pointer (some p)] W' fun e w' => e = .returned (.int .i64 (nextS s x4).day) ∧ Twin EM SAt w.heap.size w w' (.pointer (some p)) (nextS s x4) (.pointer (some p2)) s A (x1, x2, x3, x4)) := fun W' hT => hT.day1 HK.out HK'.out
        have HH2 : Hid (∀ W', Twin EM SAt w.heap.size w W' (.pointer (some p)) (nextS s x4) (.pointer (some p2)) s A (x1, x2, x3, x4) → Calls Tryd.prog 19 #[.pointer (some p2)] W' fun e w' => e = .returned (.int .i64 s.day) ∧ Twin EM SAt w.heap.size w w' (.pointer (some p)) (nextS s x4) (.pointer (some p2)) s A (x1, x2, x3, x4)) := fun W' hT => hT.day2 HK.out HKS.out
        have HDR : Hid (∀ W', Twin EM SAt w.heap.size w W' (.pointer (some p)) (nextS s x4) (.pointer (some p2)) s A (x1, x2, x3, x4) → Twin EM SAt w.heap.size w W'.drew (.pointer (some p)) (nextS s x4) (.pointer (some p2)) s A (x1, x2, x3, x4)) := fun W' hT => hT.drew HK.out
        have hd0 := HKS.out.day0
        rcases next_legs s x4 with ⟨q1, q2, q3, q4⟩ | ⟨mc, q1⟩
        · as_aux_lemma =>
            rw [q1, if_pos rfl] at hp
            rw [q2] at HH1
            generalize nextS s x4 = s1 at *
            simp only [errV] at hp
            obtain ⟨NN, hNN⟩ : ∃ N, s.day + x4 = N := ⟨_, rfl⟩
            have hadd : IntKind.i64.wrap (s.day + x4) = NN := by rw [IntWalk.i64_in _ (by omega)]; exact hNN
            rw [hNN] at hp HH1
            obtain ⟨DD, hDD⟩ : ∃ D, s.day = D := ⟨_, rfl⟩
            have HDD : Hid (s.day = DD) := hDD
            rw [hDD] at hadd HH2
            clear q1 q2 q3 q4 hNN hDD hd0
            obtain ⟨d0, d1, d2, d3⟩ := T2.out.cells
            dsimp only at d0 d1 d2 d3
            go_wp2_with fail
            refine (hp).mono ?_
            rintro e w3 ⟨rfl, hT⟩
            clear d0 d1 d2 d3
            have T3 : Hid (Twin EM SAt w.heap.size w w3 (.pointer (some p)) (s1) (.pointer (some p2)) s A (x1, x2, x3, x4)) := hT
            clear hT T2
            clear hp
            obtain ⟨d0, d1, d2, d3⟩ := T3.out.cells
            dsimp only at d0 d1 d2 d3
            go_upto_region 16 with fail
            go_region_held3 (fun w' => w'.cell? ⟨A, 3, none⟩ = some (.int .i64 x4))
              (first
                | (go_split_ands; exact hX.cells.2.2.2)
                | go_keep)
              (first
                | (go_at_call 19; first
                  | (with_reducible refine (HH1.out _ (by first | exact T3.out | exact hX | exact HDR.out _ hX | exact HDR.out _ T3.out | exact HDR.out _ (HDR.out _ hX))).mono ?_; rintro e wX ⟨rfl, hX⟩)
                  | (with_reducible refine (HH2.out _ (by first | exact T3.out | exact hX | exact HDR.out _ hX | exact HDR.out _ T3.out | exact HDR.out _ (HDR.out _ hX))).mono ?_; rintro e wX ⟨rfl, hX⟩)))
            have T4 : Hid (Twin EM SAt w.heap.size w wX (.pointer (some p)) (s1) (.pointer (some p2)) s A (x1, x2, x3, x4)) := hX
            clear hX T3 HH1 HH2 HDR hadd
            try clear d0 d1 d2 d3
            go_wp2
            go_meet
            case rel => exact ⟨s1, T4.out, HK'.out, HTL.out⟩
        · as_aux_lemma =>
            rw [q1, if_neg (by omega)] at hp
            generalize nextS s x4 = s1 at *
            simp only [errV] at hp
            clear q1 hd0
            obtain ⟨d0, d1, d2, d3⟩ := T2.out.cells
            dsimp only at d0 d1 d2 d3
            go_wp2_with fail
            refine (hp).mono ?_
            rintro e w3 ⟨rfl, hT⟩
            clear d0 d1 d2 d3
            have T3 : Hid (Twin EM SAt w.heap.size w w3 (.pointer (some p)) (s1) (.pointer (some p2)) s A (x1, x2, x3, x4)) := hT
            clear hT T2
            clear hp
            obtain ⟨d0, d1, d2, d3⟩ := T3.out.cells
            dsimp only at d0 d1 d2 d3
            go_upto_region 16 with fail
            go_quiet (fail)
            have T4 : Hid (Twin EM SAt w.heap.size w (w3.drewN nq) (.pointer (some p)) (s1) (.pointer (some p2)) s A (x1, x2, x3, x4)) := T3.out.quiet HK.out (below_drewN (Below.refl _ _) nq)
            clear T3 HH1 HH2 HDR
            generalize w3.drewN nq = wX at *
            try clear d0 d1 d2 d3
            go_wp2
            go_meet
            case rel => exact ⟨s1, T4.out, HK'.out, HTL.out⟩
      case rest =>
      obtain ⟨s', hT, hK2, hTL⟩ := hcut
      have T3 : Hid (Twin EM SAt w.heap.size w wc (.pointer (some p)) (s') (.pointer (some p2)) s A (x1, x2, x3, x4)) := hT
      have HK' : Hid (Keeps s') := hK2
      have HTL : Hid (TailOk s s') := hTL
      clear hT hK2 hTL T2
      generalize wc = w3 at *
      have hdn : ¬ ((s').day < s.day) := by have := HTL.out.1; omega
      have hln : ¬ ((s.obs.length : Int) + 1 < (((s').obs.length : Nat) : Int)) := by have := HTL.out.2; omega
      have hl2 : s.obs.length ≤ 200 := HKS.out.many
      have hl3 : (s').obs.length ≤ 200 := HK'.out.many
      have HQ1 : Hid (∀ W', Twin EM SAt w.heap.size w W' (.pointer (some p)) (s') (.pointer (some p2)) s A (x1, x2, x3, x4) → Calls Tryd.prog 19 #[.pointer (some p)] W' fun e w' => e = .returned (.int .i64 (s').day) ∧ Twin EM SAt w.heap.size w w' (.pointer (some p)) (s') (.pointer (some p2)) s A (x1, x2, x3, x4)) := fun W' hT => hT.day1 HK.out HK'.out
      have HQ2 : Hid (∀ W', Twin EM SAt w.heap.size w W' (.pointer (some p)) (s') (.pointer (some p2)) s A (x1, x2, x3, x4) → Calls Tryd.prog 19 #[.pointer (some p2)] W' fun e w' => e = .returned (.int .i64 s.day) ∧ Twin EM SAt w.heap.size w w' (.pointer (some p)) (s') (.pointer (some p2)) s A (x1, x2, x3, x4)) := fun W' hT => hT.day2 HK.out HKS.out
      have HQ3 : Hid (∀ W', Twin EM SAt w.heap.size w W' (.pointer (some p)) (s') (.pointer (some p2)) s A (x1, x2, x3, x4) → Calls Tryd.prog 20 #[.pointer (some p)] W' fun e w' => ∃ q c, e = .returned (.slice q (s').obs.length c) ∧ Twin EM SAt w.heap.size w w' (.pointer (some p)) (s') (.pointer (some p2)) s A (x1, x2, x3, x4)) := fun W' hT => hT.names1 HK.out HK'.out
      have HQ4 : Hid (∀ W', Twin EM SAt w.heap.size w W' (.pointer (some p)) (s') (.pointer (some p2)) s A (x1, x2, x3, x4) → Calls Tryd.prog 20 #[.pointer (some p2)] W' fun e w' => ∃ q c, e = .returned (.slice q s.obs.length c) ∧ Twin EM SAt w.heap.size w w' (.pointer (some p)) (s') (.pointer (some p2)) s A (x1, x2, x3, x4)) := fun W' hT => hT.names2 HK.out HKS.out
      generalize (s').day = D1 at hdn HQ1
      generalize s.day = D0 at hdn HQ2
      generalize (s').obs.length = N1 at hln hl3 HQ3
      generalize s.obs.length = N0 at hln hl2 HQ4
      go_wp2_with fail
      refine (HQ1.out _ T3.out).mono ?_
      rintro e w4 ⟨rfl, hT⟩
      have T4 : Hid (Twin EM SAt w.heap.size w w4 (.pointer (some p)) (s') (.pointer (some p2)) s A (x1, x2, x3, x4)) := hT
      clear hT T3 HQ1
      go_wp2_with fail
      refine (HQ2.out _ T4.out).mono ?_
      rintro e w5 ⟨rfl, hT⟩
      have T5 : Hid (Twin EM SAt w.heap.size w w5 (.pointer (some p)) (s') (.pointer (some p2)) s A (x1, x2, x3, x4)) := hT
      clear hT T4 HQ2
      go_wp2_with fail
      refine (HQ3.out _ T5.out).mono ?_
      rintro e w6 ⟨q5, c5, rfl, hT⟩
      have T6 : Hid (Twin EM SAt w.heap.size w w6 (.pointer (some p)) (s') (.pointer (some p2)) s A (x1, x2, x3, x4)) := hT
      clear hT T5 HQ3
      go_wp2_with fail
      refine (HQ4.out _ T6.out).mono ?_
      rintro e w7 ⟨q6, c6, rfl, hT⟩
      have T7 : Hid (Twin EM SAt w.heap.size w w7 (.pointer (some p)) (s') (.pointer (some p2)) s A (x1, x2, x3, x4)) := hT
      clear hT T6 HQ4
      go_wp2
      go_roundw
      case rel =>
        obtain ⟨FPn, hS⟩ := T7.out.first
        exact ⟨m + 1, s', FPn, by omega, by go_num, hS, HK'.out⟩
      case measure => simp [intOf]; omega
    · obtain rfl : m = L := by omega
      go_wp2
      go_ret
      exact ⟨rfl, S0.out.frame⟩
end Go.Proofs.YtmcfklkpdhgjdaaDoor
