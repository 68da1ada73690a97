/-
  The walk of StoreActs: whatever acts, whatever name: true; what was there is as it was.
-/
import Derived.Test.YtmcfklkpdhgjdaaGreatDoorStoreAs
namespace Go.Proofs.YtmcfklkpdhgjdaaGreatDoor
open Go.RowKit Go.Extern.Stop Go.Stop Go.Extern Go.Sort Go.Shelf Go.Lib

/-- Both stores, just made. -/
theorem both_new {a : Nat → Addr} {B : Nat} {EM : World → Prop} {SAt : World → Value → (Nat → Prop) → St → Prop} (K : StoreK a B EM SAt) {w0 W w' : World} {v : Value} {FP : Nat → Prop} {b : Nat} (h : SOk EM SAt B w0 W v FP newS) (hm : MAt w' b newS) (hb : W.heap.size ≤ b) (hB : Below W.heap.size W w') : Both EM SAt B w0 w' v FP newS b newS :=
  ⟨h.quiet K hB, hm, fun hF => Nat.lt_irrefl _ (Nat.lt_of_lt_of_le (K.lt _ _ _ _ _ h.at_ hF) hb), Nat.le_trans (K.size _ h.env) hb, fun _ _ hne => absurd rfl hne⟩

set_option maxRecDepth 100000 in
set_option maxHeartbeats 4000000 in
theorem storeActs_any {a : Nat → Addr} {EM : World → Prop} {SAt : World → Value → (Nat → Prop) → St → Prop} (w : World) (K : StoreK a w.heap.size EM SAt) (h : EM w) (v : Value) (l : List Ac) (nm : ByteArray) (hv : AcsAt w v l) (hl : l.length ≤ maxLen) (hz : ∀ x ∈ l, x.2.1.size ≤ maxLen ∧ x.2.2.1.size ≤ maxLen) (hi : ∀ x ∈ l, -9223372036854775808 ≤ x.2.2.2 ∧ x.2.2.2 ≤ 9223372036854775807) (hn : nm.size ≤ maxLen) :
    Calls Tryz.prog 3 #[v, .string nm] w fun e w' => e = .returned (.bool true) ∧ Below w.heap.size w w' := by
  have hst := stored_any K w h
  have HK : Hid (StoreK a w.heap.size EM SAt) := K
  have HLG : Hid (∀ W', Below w.heap.size w W' → Calls Tryz.prog 5 #[v] W' fun e w' => e = .returned (.int .i64 (if acsLong l = true then 1 else 0)) ∧ w' = W') := fun W' hb => longActs_any v l W' (hv.below hb (Nat.le_refl _)) hl hz
  have HE : Hid (EM w) := h
  have HV : Hid (∀ W', Below w.heap.size w W' → AcsAt W' v l) := fun W' hb => hv.below hb (Nat.le_refl _)
  have HI : Hid (∀ x ∈ l, -9223372036854775808 ≤ x.2.2.2 ∧ x.2.2.2 ≤ 9223372036854775807) := hi
  obtain ⟨q, cap, rfl⟩ := hv.form
  unfold maxLen at hn
  obtain ⟨L, hL⟩ : ∃ L, l.length = L := ⟨_, rfl⟩
  have HL : Hid (l.length = L) := hL
  rw [hL] at HLG HV ⊢
  clear K h hv hz hi hl hL
  cases hlong : acsLong l
  case true =>
    rw [hlong, if_pos rfl] at HLG
    clear hlong
    go_enter Tryz.func3, Tryz.ntmps3
    go_wp2_with fail
    refine hst.mono ?_
    rintro e w1 ⟨rfl, hb1⟩
    clear hst
    go_wp2_with fail
    refine (HLG.out w1 hb1).mono ?_
    rintro e w2 ⟨rfl, rfl⟩
    go_wp2
    go_ret
    exact ⟨rfl, hb1⟩
  case false =>
  obtain ⟨s1, s2⟩ := acs_short hlong
  have HSH : Hid (∀ x ∈ l, x.2.1.size ≤ 40 ∧ x.2.2.1.size ≤ 20001) := s2
  rw [HL.out] at s1
  rw [hlong, if_neg (by simp)] at HLG
  clear hlong s2
  by_cases h40 : 40 < nm.size
  · have h40' : (40 : Int) < (nm.size : Int) := by omega
    go_enter Tryz.func3, Tryz.ntmps3
    go_wp2_with fail
    refine hst.mono ?_
    rintro e w1 ⟨rfl, hb1⟩
    clear hst
    go_wp2_with fail
    refine (HLG.out w1 hb1).mono ?_
    rintro e w2 ⟨rfl, rfl⟩
    go_wp2
    go_ret
    exact ⟨rfl, hb1⟩
  have h40' : ¬ (40 : Int) < (nm.size : Int) := by omega
  go_enter Tryz.func3, Tryz.ntmps3
  go_wp2_with fail
  refine hst.mono ?_
  rintro e w1 ⟨rfl, hb1⟩
  clear hst
  go_wp2_with fail
  refine (HLG.out w1 hb1).mono ?_
  rintro e w2 ⟨rfl, rfl⟩
  clear HLG
  have E2 := HK.out.below _ _ HE.out hb1
  go_wp2_with fail
  refine (HK.out.new w2 E2).mono ?_
  rintro e w3 ⟨v3, FP3, rfl, hs3, hn3, hb3⟩
  have S3 : Hid (SOk EM SAt w.heap.size w w3 v3 FP3 newS) := ⟨HK.out.below _ _ E2 (hb3.mono hb1.size), hb1.trans (hb3.mono hb1.size), Nat.le_refl _, hs3, fun k hk => Nat.le_trans hb1.size (hn3 k hk)⟩
  obtain ⟨p, rfl⟩ := HK.out.ptr _ _ _ _ hs3
  clear hs3 hn3 hb3 E2 hb1
  go_wp2_with fail
  refine (newStore_any w3).mono ?_
  rintro e w4 ⟨b, rfl, hm4, -, hb4, hB4⟩
  have B4 : Hid (Both EM SAt w.heap.size w w4 (.pointer (some p)) FP3 newS b newS) := both_new HK.out S3.out hm4 hb4 hB4
  clear hm4 hb4 hB4 S3
  go_wp2
  go_loopw [8] (fun k wr => ∃ (m : Nat) (s : St) (FP : Nat → Prop), m ≤ L ∧ k = .int .i64 m ∧ Both EM SAt w.heap.size w wr (.pointer (some p)) FP s b s ∧ Keeps s ∧ s.cut ≤ 9223372036854775807) (fun k _ => L - (intOf k).toNat)
  case atStart => exact ⟨0, newS, FP3, by omega, rfl, B4.out, newS_keeps, by decide⟩
  case round =>
    clear B4
    obtain ⟨m, s, FP, hm, rfl, hB, hK, hcx⟩ := hrel
    have BB : Hid (Both EM SAt w.heap.size w wr (.pointer (some p)) FP s b s) := hB
    have HKS : Hid (Keeps s) := hK
    have HCX : Hid (s.cut ≤ 9223372036854775807) := hcx
    clear hB hK hcx
    by_cases hlt : m < L
    · have hltx : m < l.length := by rw [HL.out]; exact hlt
      obtain ⟨g, o, hq, -, hc⟩ := (HV.out wr BB.out.ok.frame).cells (fun e => by rw [e] at hltx; simp at hltx)
      subst hq
      obtain ⟨c0, c1, c2, c3⟩ := hc m hltx
      have hmem : l[m] ∈ l := List.getElem_mem hltx
      obtain ⟨z1, z2⟩ := HSH.out _ hmem
      have hdo := do_any HK.out w wr _ FP s b l[m] BB.out HKS.out HCX.out (by omega) (by omega) (HI.out _ hmem)
      have HK2 : Hid (Keeps (actS s l[m])) := actS_keeps HKS.out _
      have HC2 : Hid ((actS s l[m]).cut ≤ 9223372036854775807) := actS_top HCX.out _ (HI.out _ hmem).2
      unfold acV at hdo
      generalize actS s l[m] = s' at *
      generalize l[m].1 = x1 at *
      generalize l[m].2.1 = x2 at *
      generalize l[m].2.2.1 = x3 at *
      generalize l[m].2.2.2 = x4 at *
      have hi : (m : Int) < (L : Int) := by omega
      have hi0 : (0 : Int) ≤ (m : Int) := by omega
      clear hc hmem z1 z2 hltx
      go_wp2_with fail
      refine hdo.mono ?_
      rintro e w5 ⟨rfl, FP5, hB5⟩
      clear hdo
      have B5 : Hid (Both EM SAt w.heap.size w w5 (.pointer (some p)) FP5 s' b s') := hB5
      clear hB5
      go_wp2
      go_round
      case rel => exact ⟨m + 1, s', FP5, by omega, by go_num, B5.out, HK2.out, HC2.out⟩
      case measure => simp [intOf]; omega
    · obtain rfl : m = L := by omega
      have hf := fun W' (hb : Below wr.heap.size wr W') => find_any b s nm W' (BB.out.mat.below hb) (Nat.le_trans HKS.out.many (by decide))
      rcases findI_get s.obs nm with ⟨g1, g2⟩ | ⟨j, hj, g1, g2, -, -⟩
      · have hbo : bornO s.obs nm = -1 := by unfold bornO; rw [g2]
        rw [g1] at hf
        clear g1 g2
        go_wp2_with fail
        refine (hf wr (Below.refl _ _)).mono ?_
        rintro e w5 ⟨rfl, rfl⟩
        clear hf
        go_wp2_with fail
        refine (asStore_any HK.out w w5 _ FP s b BB.out HKS.out).mono ?_
        rintro e w6 ⟨rfl, hb6⟩
        have B6 : Hid (Both EM SAt w.heap.size w w6 (.pointer (some p)) FP s b s) := BB.out.quiet HK.out hb6
        clear hb6
        go_wp2_with fail
        refine (HK.out.born w6 _ FP s nm B6.out.ok.env B6.out.ok.at_ HKS.out (by omega)).mono ?_
        rintro e w7 ⟨rfl, hb7⟩
        have B7 : Hid (Both EM SAt w.heap.size w w7 (.pointer (some p)) FP s b s) := B6.out.quiet HK.out hb7
        rw [hbo]
        clear hb7 B6
        go_wp2_with fail
        refine (HK.out.same w7 _ _ FP FP s s B7.out.ok.env B7.out.ok.at_ B7.out.ok.at_).mono ?_
        rintro e w8 ⟨rfl, hb8⟩
        have B8 : Hid (Both EM SAt w.heap.size w w8 (.pointer (some p)) FP s b s) := B7.out.quiet HK.out hb8
        rw [sameS_self]
        clear hb8 B7
        go_wp2_with fail
        refine (HK.out.same1 w8 _ FP s B8.out.ok.env B8.out.ok.at_).mono ?_
        rintro e w9 ⟨rfl, hb9⟩
        have B9 : Hid (Both EM SAt w.heap.size w w9 (.pointer (some p)) FP s b s) := B8.out.quiet HK.out hb9
        clear hb9 B8
        go_wp2_with fail
        refine (HK.out.same0 w9 B9.out.ok.env).mono ?_
        rintro e w10 ⟨rfl, hb10⟩
        have B10 : Hid (Both EM SAt w.heap.size w w10 (.pointer (some p)) FP s b s) := B9.out.quiet HK.out hb10
        clear hb10 B9
        go_wp2
        go_ret
        exact ⟨rfl, B10.out.ok.frame⟩
      · have hbo : bornO s.obs nm = s.obs[j].2.2 := by unfold bornO; rw [g2]
        rw [g1] at hf
        obtain ⟨vL, x0, -, xo⟩ := BB.out.mat.cell
        obtain ⟨q2, cap2, rfl⟩ := xo.form
        obtain ⟨g, o, hq, hc⟩ := xo.cells (fun e => by rw [e] at hj; simp at hj)
        subst hq
        have x1 := (hc j hj).2.2
        have hj1 : (j : Int) < (s.obs.length : Int) := by omega
        have hj0 : (0 : Int) ≤ (j : Int) := by omega
        have hjn : ¬ (j : Int) < 0 := by omega
        generalize s.obs[j].2.2 = dz at *
        generalize s.obs.length = M at x0 hj1
        have HF : Hid (∀ W', Below wr.heap.size wr W' → Calls Tryz.prog 9 #[.pointer (some ⟨b, 0, none⟩), .string nm] W' fun e w' => e = .returned (.int .i64 (j : Int)) ∧ w' = W') := hf
        have HS : Hid (∀ W', Below wr.heap.size wr W' → W'.cell? ⟨b, 0, none⟩ = some (.slice (some ⟨g, o, none⟩) M cap2) ∧ W'.cell? ⟨g, o + j * 3 + 2, none⟩ = some (.int .i64 dz) ∧ Below wr.heap.size wr W') := fun W' hb => ⟨below_keep hb x0, below_keep hb x1, hb⟩
        have b0 : Below wr.heap.size wr wr := Below.refl _ _
        clear g1 g2 hc xo hj hf
        go_wp2_with fail
        refine (HF.out wr b0).mono ?_
        rintro e w5 ⟨rfl, rfl⟩
        go_wp2_with fail
        go_region_held3 (fun w' => w'.cell? ⟨b, 0, none⟩ = some (.slice (some ⟨g, o, none⟩) M cap2) ∧ w'.cell? ⟨g, o + j * 3 + 2, none⟩ = some (.int .i64 dz) ∧ Below w5.heap.size w5 w')
          (first
            | (exact HS.out _ (by go_split_ands; assumption))
            | (exact HS.out _ (Below.drew (by go_split_ands; assumption))))
          (first
            | (go_at_call 9; refine (HF.out _ (by first | (go_split_ands; assumption) | (exact Below.drew (by go_split_ands; assumption)))).mono ?_; rintro e wX ⟨rfl, rfl⟩))
        have BD : Hid (Both EM SAt w.heap.size w w5.drew (.pointer (some p)) FP s b s) := BB.out.quiet HK.out (Below.drew b0)
        clear HS HF b0 BB
        generalize w5.drew = wD at *
        go_wp2_with fail
        refine (asStore_any HK.out w wD _ FP s b BD.out HKS.out).mono ?_
        rintro e w6 ⟨rfl, hb6⟩
        have B6 : Hid (Both EM SAt w.heap.size w w6 (.pointer (some p)) FP s b s) := BD.out.quiet HK.out hb6
        clear hb6
        go_wp2_with fail
        refine (HK.out.born w6 _ FP s nm B6.out.ok.env B6.out.ok.at_ HKS.out (by omega)).mono ?_
        rintro e w7 ⟨rfl, hb7⟩
        have B7 : Hid (Both EM SAt w.heap.size w w7 (.pointer (some p)) FP s b s) := B6.out.quiet HK.out hb7
        rw [hbo]
        clear hb7 B6
        go_wp2_with fail
        refine (HK.out.same w7 _ _ FP FP s s B7.out.ok.env B7.out.ok.at_ B7.out.ok.at_).mono ?_
        rintro e w8 ⟨rfl, hb8⟩
        have B8 : Hid (Both EM SAt w.heap.size w w8 (.pointer (some p)) FP s b s) := B7.out.quiet HK.out hb8
        rw [sameS_self]
        clear hb8 B7
        go_wp2_with fail
        refine (HK.out.same1 w8 _ FP s B8.out.ok.env B8.out.ok.at_).mono ?_
        rintro e w9 ⟨rfl, hb9⟩
        have B9 : Hid (Both EM SAt w.heap.size w w9 (.pointer (some p)) FP s b s) := B8.out.quiet HK.out hb9
        clear hb9 B8
        go_wp2_with fail
        refine (HK.out.same0 w9 B9.out.ok.env).mono ?_
        rintro e w10 ⟨rfl, hb10⟩
        have B10 : Hid (Both EM SAt w.heap.size w w10 (.pointer (some p)) FP s b s) := B9.out.quiet HK.out hb10
        clear hb10 B9
        go_wp2
        go_ret
        exact ⟨rfl, B10.out.ok.frame⟩
end Go.Proofs.YtmcfklkpdhgjdaaGreatDoor
