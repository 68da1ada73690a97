/-
  The walk of TxnTells.
-/
import Derived.Test.YtcpplldfmmpaoaaGreatDoorRefTxn2
namespace Go.Proofs.YtcpplldfmmpaoaaGreatDoor
open Go.RowKit Go.Extern.Stop Go.Stop Go.Extern Go.Sort Go.Shelf Go.Lib

set_option maxRecDepth 100000 in
set_option maxHeartbeats 32000000 in
theorem txnTells_any (w : World) (a : Nat → Addr) (h : EnvX w a) (hEr : Errs w a) (s n : Sn) (vs vn vl : Value) (l : List Ch) (id day idx : Int)
    (hx : FlsAt w vs s.2.2.2.2.2.2) (ho : s.2.2.2.2.2.1.size ≤ maxLen) (hl : s.2.2.2.2.2.2.length ≤ maxLen) (hsz : ∀ f ∈ s.2.2.2.2.2.2, f.1.size ≤ maxLen ∧ f.2.1.size ≤ maxLen) (hbs : ∀ k, vs.ownBlock = some k → k < w.heap.size)
    (hx' : FlsAt w vn n.2.2.2.2.2.2) (ho' : n.2.2.2.2.2.1.size ≤ maxLen) (hl' : n.2.2.2.2.2.2.length ≤ maxLen) (hsz' : ∀ f ∈ n.2.2.2.2.2.2, f.1.size ≤ maxLen ∧ f.2.1.size ≤ maxLen) (hA : ChIn w vl l) :
    Calls Tryz.prog 4 #[snV s vs, snV n vn, vl, .int .i64 id, .int .i64 day, .int .i64 idx] w fun e w' => e = .returned (.bool true) ∧ Below w.heap.size w w' := by
  have HENV : Hid (∀ W, Below w.heap.size w W → EnvX W a) := fun W hb => h.below hb
  have HERR : Hid (∀ W, Below w.heap.size w W → Errs W a) := fun W hb => hEr.below hb
  have HX : Hid (∀ W, Below w.heap.size w W → FlsAt W vs s.2.2.2.2.2.2) := fun W hb => hx.below hb
  have HY : Hid (∀ W, Below w.heap.size w W → FlsAt W vn n.2.2.2.2.2.2) := fun W hb => hx'.below hb
  have HBS : Hid (∀ k, vs.ownBlock = some k → k < w.heap.size) := hbs
  have HCH : Hid (∀ W, Below w.heap.size w W → Calls Tryz.prog 5 #[] W fun e w' => e = .returned (.bool true) ∧ Below W.heap.size W w') := fun W hb => changed_any W a (h.below hb)
  have HLS : Hid (∀ W, Below w.heap.size w W → Calls Tryz.prog 6 #[snV s vs] W fun e w' => e = .returned (.int .i64 (if longSn s then 1 else 0)) ∧ Below W.heap.size W w') := fun W hb => longSnap_any s vs W (hx.below hb) ho hl hsz
  have HLN : Hid (∀ W, Below w.heap.size w W → Calls Tryz.prog 6 #[snV n vn] W fun e w' => e = .returned (.int .i64 (if longSn n then 1 else 0)) ∧ Below W.heap.size W w') := fun W hb => longSnap_any n vn W (hx'.below hb) ho' hl' hsz'
  have HLC : Hid (∀ W, Below w.heap.size w W → Calls Tryz.prog 7 #[vl] W fun e w' => e = .returned (.bool (chsLong l)) ∧ Below W.heap.size W w') := fun W hb => longChanges_any vl l W (hA.1.below hb (Nat.le_refl _)) hA.2.1 hA.2.2
  have HCA : Hid (∀ W, Below w.heap.size w W → ChsAt W vl l) := fun W hb => hA.1.below hb (Nat.le_refl _)
  obtain ⟨qs, cs, hvs⟩ := hx.form
  obtain ⟨qn, cn, hvn⟩ := hx'.form
  obtain ⟨ql, cl, hvl⟩ := hA.1.form
  obtain ⟨L0, hL0⟩ : ∃ k, s.2.2.2.2.2.2.length = k := ⟨_, rfl⟩
  obtain ⟨L1, hL1⟩ : ∃ k, n.2.2.2.2.2.2.length = k := ⟨_, rfl⟩
  obtain ⟨LL, hLL⟩ : ∃ k, l.length = k := ⟨_, rfl⟩
  have HL0 : Hid (s.2.2.2.2.2.2.length = L0) := hL0
  have HL1 : Hid (n.2.2.2.2.2.2.length = L1) := hL1
  have HLL : Hid (l.length = LL) := hLL
  rw [hL0] at hvs
  rw [hL1] at hvn
  rw [hLL] at hvl
  subst hvs hvn hvl
  clear hx ho hl hsz hx' ho' hl' hsz' hbs hA h hEr hL0 hL1 hLL
  have HS : Hid (∀ W v, SnAt W (w.heap.size) s v → W.cell? ⟨w.heap.size, 0, none⟩ = some (.int .i64 s.1) ∧ W.cell? ⟨w.heap.size, 1, none⟩ = some (.int .i64 s.2.1) ∧ W.cell? ⟨w.heap.size, 2, none⟩ = some (.int .i64 s.2.2.1) ∧ W.cell? ⟨w.heap.size, 3, none⟩ = some (.int .i64 s.2.2.2.1) ∧ W.cell? ⟨w.heap.size, 4, none⟩ = some (.int .i64 s.2.2.2.2.1) ∧ W.cell? ⟨w.heap.size, 5, none⟩ = some (.string s.2.2.2.2.2.1) ∧ W.cell? ⟨w.heap.size, 6, none⟩ = some v) := fun W v h => h.cells
  have HN : Hid (∀ W v, SnAt W (w.heap.size + 1) n v → W.cell? ⟨w.heap.size + 1, 0, none⟩ = some (.int .i64 n.1) ∧ W.cell? ⟨w.heap.size + 1, 1, none⟩ = some (.int .i64 n.2.1) ∧ W.cell? ⟨w.heap.size + 1, 2, none⟩ = some (.int .i64 n.2.2.1) ∧ W.cell? ⟨w.heap.size + 1, 3, none⟩ = some (.int .i64 n.2.2.2.1) ∧ W.cell? ⟨w.heap.size + 1, 4, none⟩ = some (.int .i64 n.2.2.2.2.1) ∧ W.cell? ⟨w.heap.size + 1, 5, none⟩ = some (.string n.2.2.2.2.2.1) ∧ W.cell? ⟨w.heap.size + 1, 6, none⟩ = some v) := fun W v h => h.cells
  have hA0 : Below w.heap.size w (w.alloc (.cells #[.int .i64 s.1, .int .i64 s.2.1, .int .i64 s.2.2.1, .int .i64 s.2.2.2.1, .int .i64 s.2.2.2.2.1, .string s.2.2.2.2.2.1, .slice qs L0 cs] 24)) := (Below.refl _ _).alloc (Nat.le_refl _) _
  have hA1 : Below (w.alloc (.cells #[.int .i64 s.1, .int .i64 s.2.1, .int .i64 s.2.2.1, .int .i64 s.2.2.2.1, .int .i64 s.2.2.2.2.1, .string s.2.2.2.2.2.1, .slice qs L0 cs] 24)).heap.size (w.alloc (.cells #[.int .i64 s.1, .int .i64 s.2.1, .int .i64 s.2.2.1, .int .i64 s.2.2.2.1, .int .i64 s.2.2.2.2.1, .string s.2.2.2.2.2.1, .slice qs L0 cs] 24)) ((w.alloc (.cells #[.int .i64 s.1, .int .i64 s.2.1, .int .i64 s.2.2.1, .int .i64 s.2.2.2.1, .int .i64 s.2.2.2.2.1, .string s.2.2.2.2.2.1, .slice qs L0 cs] 24)).alloc (.cells #[.int .i64 n.1, .int .i64 n.2.1, .int .i64 n.2.2.1, .int .i64 n.2.2.2.1, .int .i64 n.2.2.2.2.1, .string n.2.2.2.2.2.1, .slice qn L1 cn] 24)) := (Below.refl _ _).alloc (Nat.le_refl _) _
  have hs0 : SnAt ((w.alloc (.cells #[.int .i64 s.1, .int .i64 s.2.1, .int .i64 s.2.2.1, .int .i64 s.2.2.2.1, .int .i64 s.2.2.2.2.1, .string s.2.2.2.2.2.1, .slice qs L0 cs] 24)).alloc (.cells #[.int .i64 n.1, .int .i64 n.2.1, .int .i64 n.2.2.1, .int .i64 n.2.2.2.1, .int .i64 n.2.2.2.2.1, .string n.2.2.2.2.2.1, .slice qn L1 cn] 24)) (w.heap.size) s (.slice qs L0 cs) := (SnAt.new w s (.slice qs L0 cs)).below hA1
  have hn0 : SnAt ((w.alloc (.cells #[.int .i64 s.1, .int .i64 s.2.1, .int .i64 s.2.2.1, .int .i64 s.2.2.2.1, .int .i64 s.2.2.2.2.1, .string s.2.2.2.2.2.1, .slice qs L0 cs] 24)).alloc (.cells #[.int .i64 n.1, .int .i64 n.2.1, .int .i64 n.2.2.1, .int .i64 n.2.2.2.1, .int .i64 n.2.2.2.2.1, .string n.2.2.2.2.2.1, .slice qn L1 cn] 24)) (w.heap.size + 1) n (.slice qn L1 cn) := by
    have h := SnAt.new (w.alloc (.cells #[.int .i64 s.1, .int .i64 s.2.1, .int .i64 s.2.2.1, .int .i64 s.2.2.2.1, .int .i64 s.2.2.2.2.1, .string s.2.2.2.2.2.1, .slice qs L0 cs] 24)) n (.slice qn L1 cn)
    have e : (w.alloc (.cells #[.int .i64 s.1, .int .i64 s.2.1, .int .i64 s.2.2.1, .int .i64 s.2.2.2.1, .int .i64 s.2.2.2.2.1, .string s.2.2.2.2.2.1, .slice qs L0 cs] 24)).heap.size = w.heap.size + 1 := by simp
    rw [e] at h
    exact h
  have hB0 : Below w.heap.size w ((w.alloc (.cells #[.int .i64 s.1, .int .i64 s.2.1, .int .i64 s.2.2.1, .int .i64 s.2.2.2.1, .int .i64 s.2.2.2.2.1, .string s.2.2.2.2.2.1, .slice qs L0 cs] 24)).alloc (.cells #[.int .i64 n.1, .int .i64 n.2.1, .int .i64 n.2.2.1, .int .i64 n.2.2.2.1, .int .i64 n.2.2.2.2.1, .string n.2.2.2.2.2.1, .slice qn L1 cn] 24)) := hA0.trans (hA1.mono hA0.size)
  clear hA0 hA1
  unfold snV at HLS HLN ⊢
  go_enter Tryz.func4, Tryz.ntmps4
  go_upto_region 1 with fail
  generalize (w.alloc (.cells #[.int .i64 s.1, .int .i64 s.2.1, .int .i64 s.2.2.1, .int .i64 s.2.2.2.1, .int .i64 s.2.2.2.2.1, .string s.2.2.2.2.2.1, .slice qs L0 cs] 24)).alloc (.cells #[.int .i64 n.1, .int .i64 n.2.1, .int .i64 n.2.2.1, .int .i64 n.2.2.2.1, .int .i64 n.2.2.2.2.1, .string n.2.2.2.2.2.1, .slice qn L1 cn] 24) = W0 at hs0 hn0 hB0 ⊢
  go_wp2_with fail
  refine (HCH.out W0 hB0).mono ?_
  rintro e w1 ⟨rfl, hb1⟩
  clear HCH
  have hB1 : Below w.heap.size w w1 := hB0.trans (hb1.mono hB0.size)
  have hs1 := hs0.below hb1
  have hn1 := hn0.below hb1
  clear hs0 hn0 hB0 hb1
  obtain ⟨LS, hLS⟩ : ∃ B, longSn s = B := ⟨_, rfl⟩
  obtain ⟨LN, hLN⟩ : ∃ B, longSn n = B := ⟨_, rfl⟩
  obtain ⟨LC, hLC⟩ : ∃ B, chsLong l = B := ⟨_, rfl⟩
  have HSS : Hid (LS = false → L0 ≤ 61 ∧ Short s.2.2.2.2.2.2) := fun e => by
    have h := longSn_no (hLS.trans e)
    rw [HL0.out] at h
    exact h.2
  have HSN : Hid (LN = false → L1 ≤ 61 ∧ Short n.2.2.2.2.2.2) := fun e => by
    have h := longSn_no (hLN.trans e)
    rw [HL1.out] at h
    exact h.2
  have HSL : Hid (LC = false → LL ≤ 30 ∧ ∀ x ∈ l, x.2.2.size ≤ 30 ∧ x.2.1.1.size ≤ 30 ∧ x.2.1.2.1.size ≤ 30) := fun e => by
    have h := chs_short (hLC.trans e)
    rw [HLL.out] at h
    exact h
  rw [hLS] at HLS
  rw [hLN] at HLN
  rw [hLC] at HLC
  clear hLS hLN hLC
  go_upto_region 2 with fail
  go_cut [39] from 26 to 38 (fun c wx => c = .bool ((LS || LN) || LC) ∧ Below w1.heap.size w1 wx)
  case first =>
    obtain ⟨x0, x1, x2, x3, x4, x5, x6⟩ := HS.out w1 _ hs1
    obtain ⟨z0, z1, z2, z3, z4, z5, z6⟩ := HN.out w1 _ hn1
    have hbs : Below w1.heap.size w1 w1 := Below.refl _ _
    have hls := HLS.out
    have hln := HLN.out
    have hlc := HLC.out
    clear hs1 hn1 HS HN HLS HLN HLC HENV HERR HX HY HBS HCA HL0 HL1 HLL HSS HSN HSL
    obtain ⟨A, hA⟩ : ∃ A : Int, (if LS = true then (1 : Int) else 0) = A := ⟨_, rfl⟩
    obtain ⟨D, hD⟩ : ∃ D : Int, (if LN = true then (1 : Int) else 0) = D := ⟨_, rfl⟩
    rw [hA] at hls
    rw [hD] at hln
    have hwr : IntKind.i64.wrap (A + D) = A + D := IntWalk.i64_in _ (by subst hA hD; split <;> split <;> omega)
    cases hLL : (LS || LN)
    · have hpz : decide (0 < A + D) = false := by
        rw [Bool.or_eq_false_iff] at hLL
        obtain ⟨rfl, rfl⟩ := hLL
        subst hA hD
        rfl
      clear hA hD
      cases LC
      · first
          | (go_region_held3 (fun w' => w'.cell? ⟨w.heap.size, 0, none⟩ = some (.int .i64 s.1) ∧ w'.cell? ⟨w.heap.size, 1, none⟩ = some (.int .i64 s.2.1) ∧ w'.cell? ⟨w.heap.size, 2, none⟩ = some (.int .i64 s.2.2.1) ∧ w'.cell? ⟨w.heap.size, 3, none⟩ = some (.int .i64 s.2.2.2.1) ∧ w'.cell? ⟨w.heap.size, 4, none⟩ = some (.int .i64 s.2.2.2.2.1) ∧ w'.cell? ⟨w.heap.size, 5, none⟩ = some (.string s.2.2.2.2.2.1) ∧ w'.cell? ⟨w.heap.size, 6, none⟩ = some (.slice qs L0 cs) ∧ w'.cell? ⟨w.heap.size + 1, 0, none⟩ = some (.int .i64 n.1) ∧ w'.cell? ⟨w.heap.size + 1, 1, none⟩ = some (.int .i64 n.2.1) ∧ w'.cell? ⟨w.heap.size + 1, 2, none⟩ = some (.int .i64 n.2.2.1) ∧ w'.cell? ⟨w.heap.size + 1, 3, none⟩ = some (.int .i64 n.2.2.2.1) ∧ w'.cell? ⟨w.heap.size + 1, 4, none⟩ = some (.int .i64 n.2.2.2.2.1) ∧ w'.cell? ⟨w.heap.size + 1, 5, none⟩ = some (.string n.2.2.2.2.2.1) ∧ w'.cell? ⟨w.heap.size + 1, 6, none⟩ = some (.slice qn L1 cn) ∧ Below w1.heap.size w1 w')
              (first
                | (go_split_ands; with_reducible exact ⟨below_keep hbX (by assumption), below_keep hbX (by assumption), below_keep hbX (by assumption), below_keep hbX (by assumption), below_keep hbX (by assumption), below_keep hbX (by assumption), below_keep hbX (by assumption), below_keep hbX (by assumption), below_keep hbX (by assumption), below_keep hbX (by assumption), below_keep hbX (by assumption), below_keep hbX (by assumption), below_keep hbX (by assumption), below_keep hbX (by assumption), Below.trans (by assumption) (hbX.mono (Below.size (by assumption)))⟩)
                | (go_split_ands; exact ⟨by go_keep, by go_keep, by go_keep, by go_keep, by go_keep, by go_keep, by go_keep, by go_keep, by go_keep, by go_keep, by go_keep, by go_keep, by go_keep, by go_keep, by assumption⟩)
                | (go_split_ands; exact ⟨by go_keep, by go_keep, by go_keep, by go_keep, by go_keep, by go_keep, by go_keep, by go_keep, by go_keep, by go_keep, by go_keep, by go_keep, by go_keep, by go_keep, Below.drew (by assumption)⟩))
              (first
                | (go_at_call 6; (with_reducible refine (hls _ (by go_split_ands; exact hB1.trans (Below.mono (by assumption) hB1.size))).mono ?_); rintro e wX ⟨rfl, hbX⟩)
                | (go_at_call 6; (with_reducible refine (hln _ (by go_split_ands; exact hB1.trans (Below.mono (by assumption) hB1.size))).mono ?_); rintro e wX ⟨rfl, hbX⟩)
                | (go_at_call 7; (with_reducible refine (hlc _ (by go_split_ands; exact hB1.trans (Below.mono (by assumption) hB1.size))).mono ?_); rintro e wX ⟨rfl, hbX⟩)))
          | fail
        all_goals go_split_ands
        all_goals have hbY : Below w1.heap.size w1 wX := by assumption
        all_goals clear hls hln hlc hB1
        all_goals go_wp2
        all_goals go_meet
        all_goals exact ⟨by simp [hLL], hbY⟩
      · first
          | (go_region_held3 (fun w' => w'.cell? ⟨w.heap.size, 0, none⟩ = some (.int .i64 s.1) ∧ w'.cell? ⟨w.heap.size, 1, none⟩ = some (.int .i64 s.2.1) ∧ w'.cell? ⟨w.heap.size, 2, none⟩ = some (.int .i64 s.2.2.1) ∧ w'.cell? ⟨w.heap.size, 3, none⟩ = some (.int .i64 s.2.2.2.1) ∧ w'.cell? ⟨w.heap.size, 4, none⟩ = some (.int .i64 s.2.2.2.2.1) ∧ w'.cell? ⟨w.heap.size, 5, none⟩ = some (.string s.2.2.2.2.2.1) ∧ w'.cell? ⟨w.heap.size, 6, none⟩ = some (.slice qs L0 cs) ∧ w'.cell? ⟨w.heap.size + 1, 0, none⟩ = some (.int .i64 n.1) ∧ w'.cell? ⟨w.heap.size + 1, 1, none⟩ = some (.int .i64 n.2.1) ∧ w'.cell? ⟨w.heap.size + 1, 2, none⟩ = some (.int .i64 n.2.2.1) ∧ w'.cell? ⟨w.heap.size + 1, 3, none⟩ = some (.int .i64 n.2.2.2.1) ∧ w'.cell? ⟨w.heap.size + 1, 4, none⟩ = some (.int .i64 n.2.2.2.2.1) ∧ w'.cell? ⟨w.heap.size + 1, 5, none⟩ = some (.string n.2.2.2.2.2.1) ∧ w'.cell? ⟨w.heap.size + 1, 6, none⟩ = some (.slice qn L1 cn) ∧ Below w1.heap.size w1 w')
              (first
                | (go_split_ands; with_reducible exact ⟨below_keep hbX (by assumption), below_keep hbX (by assumption), below_keep hbX (by assumption), below_keep hbX (by assumption), below_keep hbX (by assumption), below_keep hbX (by assumption), below_keep hbX (by assumption), below_keep hbX (by assumption), below_keep hbX (by assumption), below_keep hbX (by assumption), below_keep hbX (by assumption), below_keep hbX (by assumption), below_keep hbX (by assumption), below_keep hbX (by assumption), Below.trans (by assumption) (hbX.mono (Below.size (by assumption)))⟩)
                | (go_split_ands; exact ⟨by go_keep, by go_keep, by go_keep, by go_keep, by go_keep, by go_keep, by go_keep, by go_keep, by go_keep, by go_keep, by go_keep, by go_keep, by go_keep, by go_keep, by assumption⟩)
                | (go_split_ands; exact ⟨by go_keep, by go_keep, by go_keep, by go_keep, by go_keep, by go_keep, by go_keep, by go_keep, by go_keep, by go_keep, by go_keep, by go_keep, by go_keep, by go_keep, Below.drew (by assumption)⟩))
              (first
                | (go_at_call 6; (with_reducible refine (hls _ (by go_split_ands; exact hB1.trans (Below.mono (by assumption) hB1.size))).mono ?_); rintro e wX ⟨rfl, hbX⟩)
                | (go_at_call 6; (with_reducible refine (hln _ (by go_split_ands; exact hB1.trans (Below.mono (by assumption) hB1.size))).mono ?_); rintro e wX ⟨rfl, hbX⟩)
                | (go_at_call 7; (with_reducible refine (hlc _ (by go_split_ands; exact hB1.trans (Below.mono (by assumption) hB1.size))).mono ?_); rintro e wX ⟨rfl, hbX⟩)))
          | fail
        all_goals go_split_ands
        all_goals have hbY : Below w1.heap.size w1 wX := by assumption
        all_goals clear hls hln hlc hB1
        all_goals go_wp2
        all_goals go_meet
        all_goals exact ⟨by simp [hLL], hbY⟩
    · have hpz : decide (0 < A + D) = true := by
        rw [Bool.or_eq_true] at hLL
        subst hA hD
        rcases hLL with rfl | rfl
        · cases LN <;> rfl
        · cases LS <;> rfl
      clear hA hD
      have hdr : Below w1.heap.size w1 w1.drew := (Below.refl _ _).drew
      have hBd : Below w.heap.size w w1.drew := hB1.trans (hdr.mono hB1.size)
      have xd0 := below_keep hdr x0
      have xd1 := below_keep hdr x1
      have xd2 := below_keep hdr x2
      have xd3 := below_keep hdr x3
      have xd4 := below_keep hdr x4
      have xd5 := below_keep hdr x5
      have xd6 := below_keep hdr x6
      have zd0 := below_keep hdr z0
      have zd1 := below_keep hdr z1
      have zd2 := below_keep hdr z2
      have zd3 := below_keep hdr z3
      have zd4 := below_keep hdr z4
      have zd5 := below_keep hdr z5
      have zd6 := below_keep hdr z6
      first
        | (go_region_with (first
          | (go_at_call 6; (with_reducible refine (hls _ (by first | exact hB1 | exact hBd)).mono ?_); rintro e wX ⟨rfl, hbX⟩; have u0 := below_keep hbX zd0; have u1 := below_keep hbX zd1; have u2 := below_keep hbX zd2; have u3 := below_keep hbX zd3; have u4 := below_keep hbX zd4; have u5 := below_keep hbX zd5; have u6 := below_keep hbX zd6; have hBX : Below w.heap.size w wX := hBd.trans (hbX.mono hBd.size))
          | (go_at_call 6; (with_reducible refine (hln _ hBX).mono ?_); rintro e wY ⟨rfl, hbY⟩)))
        | fail
      all_goals have hbZ : Below w1.heap.size w1 wY := (hdr.trans (hbX.mono hdr.size)).trans (hbY.mono (hdr.trans (hbX.mono hdr.size)).size)
      all_goals clear hls hln hlc hB1 hbX hbY hBX
      all_goals go_wp2
      all_goals go_meet
      all_goals exact ⟨by simp [hLL], hbZ⟩
  case rest =>
  obtain ⟨rfl, hbc⟩ := hcut
  have hB2 : Below w.heap.size w wc := hB1.trans (hbc.mono hB1.size)
  have hs2 := hs1.below hbc
  have hn2 := hn1.below hbc
  clear hs1 hn1 hB1 hbc HLS HLN HLC
  generalize wc = w2 at *
  cases hLB : (LS || LN || LC)
  case true =>
    clear hs2 hn2
    go_wp2
    go_ret
    exact ⟨rfl, hB2⟩
  rw [Bool.or_eq_false_iff, Bool.or_eq_false_iff] at hLB
  obtain ⟨⟨rfl, rfl⟩, rfl⟩ := hLB
  obtain ⟨hS61, hSS⟩ := HSS.out rfl
  obtain ⟨hN61, hSN⟩ := HSN.out rfl
  obtain ⟨hL30, hSL⟩ := HSL.out rfl
  have HSH : Hid (Short s.2.2.2.2.2.2) := hSS
  have HSI : Hid (Short n.2.2.2.2.2.2) := hSN
  have HSA : Hid (∀ x ∈ l, x.2.2.size ≤ 30 ∧ x.2.1.1.size ≤ 30 ∧ x.2.1.2.1.size ≤ 30) := hSL
  clear HSS HSN HSL hSS hSN hSL
  have HOW : Hid (∀ W, Below w.heap.size w W → Calls Tryz.prog 9 #[snV s (.slice qs L0 cs)] W fun e w' => ∃ v', e = .returned (snV s v') ∧ FlsAt w' v' s.2.2.2.2.2.2 ∧ Below W.heap.size W w') := fun W hb => ownSnap_any s _ W (HX.out W hb) (by rw [HL0.out]; omega)
  have HOM : Hid (∀ W, Below w.heap.size w W → Calls Tryz.prog 9 #[snV n (.slice qn L1 cn)] W fun e w' => ∃ v', e = .returned (snV n v') ∧ FlsAt w' v' n.2.2.2.2.2.2 ∧ Below W.heap.size W w') := fun W hb => ownSnap_any n _ W (HY.out W hb) (by rw [HL1.out]; omega)
  have HBG : Hid (∀ W v, Below w.heap.size w W → FlsAt W v s.2.2.2.2.2.2 → Calls Tryz.prog 8 #[snV s v] W fun e w' => BeginP 66 W a s e w') := fun W v hb hf => begin_any s v W a (HENV.out W hb) hf (by rw [HL0.out]; omega) HSH.out
  have HSF : Hid (∀ W, Below w.heap.size w W → Calls Tryz.prog 16 #[snV s (.slice qs L0 cs)] W fun e w' => e = .returned (.agg #[.int .i64 (snapE s).1, .int .i64 (atZ (snapE s).2)]) ∧ Below W.heap.size W w') := fun W hb => snapFault_any s _ W (HX.out W hb) (by rw [HL0.out]; omega) (fun f hf => ⟨by have := (HSH.out f hf).1; omega, by have := (HSH.out f hf).2; omega⟩)
  have HOK0 : Hid ((snapE s).1 = 0 → TxOk (s, [], [])) := fun h => txOk_begin h
  have HCL : Hid ((snapE s).1 ≤ 12) := snapE_le s
  obtain ⟨SE, hSE⟩ : ∃ e, snapE s = e := ⟨_, rfl⟩
  unfold BeginP at HBG
  rw [hSE] at HSF HOK0 HBG HCL
  clear hSE
  unfold snV at HOW HOM HBG HSF
  obtain ⟨x0, x1, x2, x3, x4, x5, x6⟩ := HS.out w2 _ hs2
  go_wp2_with fail
  refine (HOW.out w2 hB2).mono ?_
  rintro e w3 ⟨v3, rfl, hf3, hb3⟩
  have hB3 : Below w.heap.size w w3 := hB2.trans (hb3.mono hB2.size)
  have hs3 := hs2.below hb3
  have hn3 := hn2.below hb3
  clear hb3 hs2 hn2 hB2 x0 x1 x2 x3 x4 x5 x6 HOW
  go_wp2_with fail
  refine (HBG.out w3 v3 hB3 hf3).mono ?_
  rintro e w4 ⟨v4, ev4, rfl, ht4, hb4, hor4⟩
  have hB4 : Below w.heap.size w w4 := hB3.trans (hb4.mono hB3.size)
  have hs4 := hs3.below hb4
  have hn4 := hn3.below hb4
  have hlt3 : w.heap.size + 1 < w3.heap.size := hn3.lt
  clear hf3 hs3 hn3 HBG
  obtain ⟨x0, x1, x2, x3, x4, x5, x6⟩ := HS.out w4 _ hs4
  go_upto_region 5 with fail
  go_wp2_with fail
  refine (HSF.out w4 hB4).mono ?_
  rintro e w5 ⟨rfl, hb5⟩
  clear HSF x0 x1 x2 x3 x4 x5 x6
  have hal5 : Below w5.heap.size w5 (w5.alloc (.cells #[.int .i64 SE.1, .int .i64 (atZ SE.2)] 49)) := (Below.refl _ _).alloc (Nat.le_refl _) _
  have hb6 : Below w4.heap.size w4 (w5.alloc (.cells #[.int .i64 SE.1, .int .i64 (atZ SE.2)] 49)) := hb5.trans (hal5.mono hb5.size)
  have hnew : FC (w5.alloc (.cells #[.int .i64 SE.1, .int .i64 (atZ SE.2)] 49)) w5.heap.size SE.1 (atZ SE.2) := heap_alloc_new _ _
  have hB6 := hB4.trans (hb6.mono hB4.size)
  have hs6 := hs4.below hb6
  have hn6 := hn4.below hb6
  have hT6 := ht4.keep (keepsC_below hb6)
  clear hb5 hal5 hs4 hn4 ht4
  go_upto_region 6 with fail
  generalize w5.alloc (.cells #[.int .i64 SE.1, .int .i64 (atZ SE.2)] 49) = w6 at *
  generalize w5.heap.size = fb at *
  have c0 := hnew.c0
  have c1 := hnew.c1
  clear hnew
  by_cases hE : SE.1 = 0
  case neg =>
    have hpos : (0 : Int) < (SE.1 : Int) := by omega
    obtain rfl : v4 = .pointer none := by
      rcases hor4 with ⟨_, h'⟩ | ⟨h', _⟩
      · exact h'
      · exact absurd h' hE
    have hsm := hT6.same3 HCL.out (HERR.out w6 hB6)
    have HB6 : Hid (Below w.heap.size w w6) := hB6
    clear hor4 hb4 hb6 hT6 hs6 hn6 hE hB3 hB4 hB6 hlt3 hS61 hN61 hL30
    go_wp2_with fail
    refine hsm.mono ?_
    rintro e w7 ⟨rfl, hb7⟩
    have HB7 : Hid (Below w.heap.size w w7) := HB6.out.trans (hb7.mono HB6.out.size)
    clear hsm hb7 c0 c1
    go_wp2
    go_ret
    exact ⟨rfl, HB7.out⟩
  case pos =>
  obtain rfl : ev4 = .nilIface := hT6.ok hE
  have hT4 : TxHas 66 w.heap.size w6 v4 (fun k => w3.heap.size ≤ k ∧ k < w4.heap.size) (s, [], []) := by
    rcases hor4 with ⟨h', _⟩ | ⟨_, h'⟩
    · exact absurd hE h'
    · exact (h' w.heap.size hB3.size).below hb6
  have HOK : Hid (TxOk (s, [], [])) := HOK0.out hE
  obtain ⟨tb, hv4⟩ := has_ptr hT4
  subst hv4
  rw [hE] at c0
  rw [show ((0 : Nat) : Int) = 0 from rfl] at c0
  clear HOK0 hor4 hT6 hE
  obtain ⟨x0, x1, x2, x3, x4, x5, x6⟩ := HS.out w6 _ hs6
  have hal7 : Below w6.heap.size w6 (w6.alloc (.cells #[.int .i64 s.1, .int .i64 s.2.1, .int .i64 s.2.2.1, .int .i64 s.2.2.2.1, .int .i64 s.2.2.2.2.1, .string s.2.2.2.2.2.1, .slice qs L0 cs, .slice none 0 0, .slice none 0 0] 54)) := (Below.refl _ _).alloc (Nat.le_refl _) _
  have hTW : TwT w (w6.alloc (.cells #[.int .i64 s.1, .int .i64 s.2.1, .int .i64 s.2.2.1, .int .i64 s.2.2.2.1, .int .i64 s.2.2.2.2.1, .string s.2.2.2.2.2.1, .slice qs L0 cs, .slice none 0 0, .slice none 0 0] 54)) (w.heap.size + 1) n (.slice qn L1 cn) (.pointer (some ⟨tb, 0, none⟩)) (.pointer (some ⟨w6.heap.size, 0, none⟩)) (s, [], []) (s, [], []) :=
    ⟨tw_begin (hn6.below hal7) (by omega) hlt3 hb6.size (hT4.below hal7) (heap_alloc_new _ _) ((HX.out w6 hB6).below hal7) HBS.out hb4.size, hB6.trans (hal7.mono hB6.size)⟩
  have HTW : Hid (TwT w (w6.alloc (.cells #[.int .i64 s.1, .int .i64 s.2.1, .int .i64 s.2.2.1, .int .i64 s.2.2.2.1, .int .i64 s.2.2.2.2.1, .string s.2.2.2.2.2.1, .slice qs L0 cs, .slice none 0 0, .slice none 0 0] 54)) (w.heap.size + 1) n (.slice qn L1 cn) (.pointer (some ⟨tb, 0, none⟩)) (.pointer (some ⟨w6.heap.size, 0, none⟩)) (s, [], []) (s, [], [])) := hTW
  clear hTW hal7 hn6 hT4 hb4 hb6 hlt3 hB3 hB4 hB6 hs6
  go_upto_region 11 with fail
  clear c0 c1 x0 x1 x2 x3 x4 x5 x6
  generalize w6.alloc (.cells #[.int .i64 s.1, .int .i64 s.2.1, .int .i64 s.2.2.1, .int .i64 s.2.2.2.1, .int .i64 s.2.2.2.2.1, .string s.2.2.2.2.2.1, .slice qs L0 cs, .slice none 0 0, .slice none 0 0] 54) = w7 at *
  generalize w6.heap.size = mb at *
  go_wp2_with fail
  go_loopw [18] (fun k wr => ∃ (i : Nat) (t : Tx), i ≤ LL ∧ k = .int .i64 i ∧ TwP i s t ∧ TwT w wr (w.heap.size + 1) n (.slice qn L1 cn) (.pointer (some ⟨tb, 0, none⟩)) (.pointer (some ⟨mb, 0, none⟩)) t t) (fun k _ => LL - (intOf k).toNat)
  case atStart => exact ⟨0, (s, [], []), by omega, rfl, ⟨HOK.out, rfl, by simp, by simp⟩, HTW.out⟩
  case round =>
  clear HTW HOK
  obtain ⟨i, t, hi, rfl, hP, hT⟩ := hrel
  have HP : Hid (TwP i s t) := hP
  have HT : Hid (TwT w wr (w.heap.size + 1) n (.slice qn L1 cn) (.pointer (some ⟨tb, 0, none⟩)) (.pointer (some ⟨mb, 0, none⟩)) t t) := hT
  have HFW : Hid (t.2.1.length ≤ 30 ∧ t.2.2.length ≤ 30 ∧ t.1.2.2.2.2.2.2.length ≤ 1000) := ⟨by have := hP.few; omega, by have := hP.few; omega, by rw [hP.base, HL0.out]; omega⟩
  clear hP hT
  by_cases hlt : i < LL
  case pos =>
    have hltx : i < l.length := by rw [HLL.out]; exact hlt
    have hi1 : (i : Int) < (LL : Int) := by omega
    have hi0 : (0 : Int) ≤ (i : Int) := by omega
    obtain ⟨b, o, hq, hbl, hc⟩ := (HCA.out wr HT.out.2).cells (fun e => by rw [e] at hltx; simp at hltx)
    subst hq
    have HCC : Hid (∀ W, Below w.heap.size w W → W.cell? ⟨b, o + i * 8, none⟩ = some (.bool l[i].1) ∧ W.cell? ⟨b, o + i * 8 + 1, none⟩ = some (.string l[i].2.1.1) ∧ W.cell? ⟨b, o + i * 8 + 2, none⟩ = some (.string l[i].2.1.2.1) ∧ W.cell? ⟨b, o + i * 8 + 3, none⟩ = some (.int .i64 l[i].2.1.2.2.1) ∧ W.cell? ⟨b, o + i * 8 + 4, none⟩ = some (.int .i64 l[i].2.1.2.2.2.1) ∧ W.cell? ⟨b, o + i * 8 + 5, none⟩ = some (.int .i64 l[i].2.1.2.2.2.2.1) ∧ W.cell? ⟨b, o + i * 8 + 6, none⟩ = some (.int .i64 l[i].2.1.2.2.2.2.2) ∧ W.cell? ⟨b, o + i * 8 + 7, none⟩ = some (.string l[i].2.2)) := fun W hb => by
      obtain ⟨b', o', e1, _, h'⟩ := (HCA.out W hb).cells (fun e => by rw [e] at hltx; simp at hltx)
      injection e1 with e1
      injection e1 with e1 e2 e3
      subst e1 e2
      exact h' i hltx
    obtain ⟨y1, y2, y3⟩ := HSA.out l[i] (List.getElem_mem _)
    clear hc hbl
    generalize l[i] = x at HCC y1 y2 y3
    clear hltx
    obtain ⟨xa, ⟨f0, f1, f2, f3, f4, f5⟩, xp⟩ := x
    dsimp only at HCC y1 y2 y3
    obtain ⟨c0, c1, c2, c3, c4, c5, c6, c7⟩ := HCC.out wr HT.out.2
    have HC3 : Hid (∀ (W : World) (k : Nat) (t' m' : Tx), k ≤ 12 → TwT w W (w.heap.size + 1) n (.slice qn L1 cn) (.pointer (some ⟨tb, 0, none⟩)) (.pointer (some ⟨mb, 0, none⟩)) t' m' → Calls Tryz.prog 18 #[errV a k, .int .i64 (k : Int)] W fun e w' => e = .returned (.bool true) ∧ TwT w w' (w.heap.size + 1) n (.slice qn L1 cn) (.pointer (some ⟨tb, 0, none⟩)) (.pointer (some ⟨mb, 0, none⟩)) t' m') := fun W k t' m' hk hT => (coded3_any W a (HERR.out W hT.2) k hk).mono fun e w' ⟨he, hb⟩ => ⟨he, hT.quiet hb⟩
    cases xa
    case true =>
      have HC1 : Hid (∀ W, TwT w W (w.heap.size + 1) n (.slice qn L1 cn) (.pointer (some ⟨tb, 0, none⟩)) (.pointer (some ⟨mb, 0, none⟩)) t t → Calls Tryz.prog 10 #[(.pointer (some ⟨tb, 0, none⟩)), .agg #[.string f0, .string f1, .int .i64 f2, .int .i64 f3, .int .i64 f4, .int .i64 f5]] W fun e w' => e = .returned (errV a (tAddE t (f0, f1, f2, f3, f4, f5))) ∧ TwT w w' (w.heap.size + 1) n (.slice qn L1 cn) (.pointer (some ⟨tb, 0, none⟩)) (.pointer (some ⟨mb, 0, none⟩)) (tAdd t (f0, f1, f2, f3, f4, f5)) t) := fun W hT => hT.call1 (fun FT h => add_any w.heap.size _ FT t (f0, f1, f2, f3, f4, f5) W a (HENV.out W hT.2) h hT.2.size (by have := HFW.out.1; omega) (by show f0.size ≤ _; omega) (by show f1.size ≤ _; omega))
      have HC2 : Hid (∀ W, TwT w W (w.heap.size + 1) n (.slice qn L1 cn) (.pointer (some ⟨tb, 0, none⟩)) (.pointer (some ⟨mb, 0, none⟩)) (tAdd t (f0, f1, f2, f3, f4, f5)) t → Calls Tryz.prog 19 #[(.pointer (some ⟨mb, 0, none⟩)), .agg #[.string f0, .string f1, .int .i64 f2, .int .i64 f3, .int .i64 f4, .int .i64 f5]] W fun e w' => e = .returned (.int .i64 ((tAddE t (f0, f1, f2, f3, f4, f5) : Nat) : Int)) ∧ TwT w w' (w.heap.size + 1) n (.slice qn L1 cn) (.pointer (some ⟨tb, 0, none⟩)) (.pointer (some ⟨mb, 0, none⟩)) (tAdd t (f0, f1, f2, f3, f4, f5)) (tAdd t (f0, f1, f2, f3, f4, f5))) := fun W hT => hT.call2 (fun FT h => radd_any w.heap.size _ FT t (f0, f1, f2, f3, f4, f5) W h hT.2.size (by have := HFW.out.1; omega) (by show f0.size ≤ _; omega) (by show f1.size ≤ _; omega))
      have HC4 : Hid (∀ W, TwT w W (w.heap.size + 1) n (.slice qn L1 cn) (.pointer (some ⟨tb, 0, none⟩)) (.pointer (some ⟨mb, 0, none⟩)) (tAdd t (f0, f1, f2, f3, f4, f5)) (tAdd t (f0, f1, f2, f3, f4, f5)) → Calls Tryz.prog 18 #[errV a (tAddE t (f0, f1, f2, f3, f4, f5)), .int .i64 ((tAddE t (f0, f1, f2, f3, f4, f5) : Nat) : Int)] W fun e w' => e = .returned (.bool true) ∧ TwT w w' (w.heap.size + 1) n (.slice qn L1 cn) (.pointer (some ⟨tb, 0, none⟩)) (.pointer (some ⟨mb, 0, none⟩)) (tAdd t (f0, f1, f2, f3, f4, f5)) (tAdd t (f0, f1, f2, f3, f4, f5))) := fun W hT => HC3.out W (tAddE t (f0, f1, f2, f3, f4, f5)) _ _ (tAddE_le t (f0, f1, f2, f3, f4, f5)) hT
      have HP2 : Hid (TwP (i + 1) s (tAdd t (f0, f1, f2, f3, f4, f5))) := HP.out.add (f0, f1, f2, f3, f4, f5)
      have T0 : Hid (TwT w wr (w.heap.size + 1) n (.slice qn L1 cn) (.pointer (some ⟨tb, 0, none⟩)) (.pointer (some ⟨mb, 0, none⟩)) t t) := HT.out
      generalize errV a (tAddE t (f0, f1, f2, f3, f4, f5)) = ev at HC1 HC4
      generalize ((tAddE t (f0, f1, f2, f3, f4, f5) : Nat) : Int) = cc at HC2 HC4
      generalize tAdd t (f0, f1, f2, f3, f4, f5) = t' at HC1 HC2 HC4 HP2
      clear HC3 HP HFW HENV HERR HX HY HT HCA HBS HSA HSH HSI y1 y2 y3 HOM HL0 HL1 HLL HS HN
      go_upto_region 15 with fail
      go_region_held3 (fun w' => w'.cell? ⟨b, o + i * 8 + 1, none⟩ = some (.string f0) ∧ w'.cell? ⟨b, o + i * 8 + 2, none⟩ = some (.string f1) ∧ w'.cell? ⟨b, o + i * 8 + 3, none⟩ = some (.int .i64 f2) ∧ w'.cell? ⟨b, o + i * 8 + 4, none⟩ = some (.int .i64 f3) ∧ w'.cell? ⟨b, o + i * 8 + 5, none⟩ = some (.int .i64 f4) ∧ w'.cell? ⟨b, o + i * 8 + 6, none⟩ = some (.int .i64 f5))
        (first
          | (go_split_ands; exact ⟨(HCC.out _ hX.2).2.1, (HCC.out _ hX.2).2.2.1, (HCC.out _ hX.2).2.2.2.1, (HCC.out _ hX.2).2.2.2.2.1, (HCC.out _ hX.2).2.2.2.2.2.1, (HCC.out _ hX.2).2.2.2.2.2.2.1⟩)
          | go_keep)
        (first
          | (go_at_call 10; refine (HC1.out _ (by first | exact T0.out | exact hX | exact hX.drew | exact T0.out.drew | exact hX.drew.drew)).mono ?_; rintro e wX ⟨rfl, hX⟩)
          | (go_at_call 19; refine (HC2.out _ (by first | exact T0.out | exact hX | exact hX.drew | exact T0.out.drew | exact hX.drew.drew)).mono ?_; rintro e wX ⟨rfl, hX⟩)
          | (go_at_call 18; refine (HC4.out _ (by first | exact T0.out | exact hX | exact hX.drew | exact T0.out.drew | exact hX.drew.drew)).mono ?_; rintro e wX ⟨rfl, hX⟩))
      all_goals have HX2 : Hid (TwT w wX (w.heap.size + 1) n (.slice qn L1 cn) (.pointer (some ⟨tb, 0, none⟩)) (.pointer (some ⟨mb, 0, none⟩)) t' t') := hX
      all_goals clear hX HC1 HC2 HC4 c0 c1 c2 c3 c4 c5 c6 c7 HCC T0
      all_goals go_wp2
      all_goals go_roundw
      case rel => exact ⟨i + 1, t', by omega, by go_num, HP2.out, HX2.out⟩
      case measure => simp [intOf]; omega
    case false =>
      have HC1 : Hid (∀ W, TwT w W (w.heap.size + 1) n (.slice qn L1 cn) (.pointer (some ⟨tb, 0, none⟩)) (.pointer (some ⟨mb, 0, none⟩)) t t → Calls Tryz.prog 11 #[(.pointer (some ⟨tb, 0, none⟩)), .string xp] W fun e w' => e = .returned (errV a (tRemE t xp)) ∧ TwT w w' (w.heap.size + 1) n (.slice qn L1 cn) (.pointer (some ⟨tb, 0, none⟩)) (.pointer (some ⟨mb, 0, none⟩)) (tRem t xp) t) := fun W hT => hT.call1 (fun FT h => remove_any w.heap.size _ FT t xp W a (HENV.out W hT.2) h hT.2.size (by have := HFW.out.2.1; omega) HFW.out.2.2)
      have HC2 : Hid (∀ W, TwT w W (w.heap.size + 1) n (.slice qn L1 cn) (.pointer (some ⟨tb, 0, none⟩)) (.pointer (some ⟨mb, 0, none⟩)) (tRem t xp) t → Calls Tryz.prog 20 #[(.pointer (some ⟨mb, 0, none⟩)), .string xp] W fun e w' => e = .returned (.int .i64 ((tRemE t xp : Nat) : Int)) ∧ TwT w w' (w.heap.size + 1) n (.slice qn L1 cn) (.pointer (some ⟨tb, 0, none⟩)) (.pointer (some ⟨mb, 0, none⟩)) (tRem t xp) (tRem t xp)) := fun W hT => hT.call2 (fun FT h => rremove_any w.heap.size _ FT t xp W h hT.2.size (by have := HFW.out.2.1; omega) HFW.out.2.2)
      have HC4 : Hid (∀ W, TwT w W (w.heap.size + 1) n (.slice qn L1 cn) (.pointer (some ⟨tb, 0, none⟩)) (.pointer (some ⟨mb, 0, none⟩)) (tRem t xp) (tRem t xp) → Calls Tryz.prog 18 #[errV a (tRemE t xp), .int .i64 ((tRemE t xp : Nat) : Int)] W fun e w' => e = .returned (.bool true) ∧ TwT w w' (w.heap.size + 1) n (.slice qn L1 cn) (.pointer (some ⟨tb, 0, none⟩)) (.pointer (some ⟨mb, 0, none⟩)) (tRem t xp) (tRem t xp)) := fun W hT => HC3.out W (tRemE t xp) _ _ (tRemE_le t xp) hT
      have HP2 : Hid (TwP (i + 1) s (tRem t xp)) := HP.out.rem xp
      have T0 : Hid (TwT w wr (w.heap.size + 1) n (.slice qn L1 cn) (.pointer (some ⟨tb, 0, none⟩)) (.pointer (some ⟨mb, 0, none⟩)) t t) := HT.out
      generalize errV a (tRemE t xp) = ev at HC1 HC4
      generalize ((tRemE t xp : Nat) : Int) = cc at HC2 HC4
      generalize tRem t xp = t' at HC1 HC2 HC4 HP2
      clear HC3 HP HFW HENV HERR HX HY HT HCA HBS HSA HSH HSI y1 y2 y3 HOM HL0 HL1 HLL HS HN
      go_upto_region 17 with fail
      go_region_held3 (fun w' => w'.cell? ⟨b, o + i * 8 + 7, none⟩ = some (.string xp))
        (first
          | (go_split_ands; exact (HCC.out _ hX.2).2.2.2.2.2.2.2)
          | go_keep)
        (first
          | (go_at_call 11; refine (HC1.out _ (by first | exact T0.out | exact hX | exact hX.drew | exact T0.out.drew | exact hX.drew.drew)).mono ?_; rintro e wX ⟨rfl, hX⟩)
          | (go_at_call 20; refine (HC2.out _ (by first | exact T0.out | exact hX | exact hX.drew | exact T0.out.drew | exact hX.drew.drew)).mono ?_; rintro e wX ⟨rfl, hX⟩)
          | (go_at_call 18; refine (HC4.out _ (by first | exact T0.out | exact hX | exact hX.drew | exact T0.out.drew | exact hX.drew.drew)).mono ?_; rintro e wX ⟨rfl, hX⟩))
      all_goals have HX2 : Hid (TwT w wX (w.heap.size + 1) n (.slice qn L1 cn) (.pointer (some ⟨tb, 0, none⟩)) (.pointer (some ⟨mb, 0, none⟩)) t' t') := hX
      all_goals clear hX HC1 HC2 HC4 c0 c1 c2 c3 c4 c5 c6 c7 HCC T0
      all_goals go_wp2
      all_goals go_roundw
      case rel => exact ⟨i + 1, t', by omega, by go_num, HP2.out, HX2.out⟩
      case measure => simp [intOf]; omega
  case neg =>
  obtain rfl : i = LL := by omega
  have hii : ¬ (i : Int) < (i : Int) := by omega
  have HC1 : Hid (∀ W v, TwT w W (w.heap.size + 1) n (.slice qn L1 cn) (.pointer (some ⟨tb, 0, none⟩)) (.pointer (some ⟨mb, 0, none⟩)) t t → FlsAt W v n.2.2.2.2.2.2 → Calls Tryz.prog 12 #[(.pointer (some ⟨tb, 0, none⟩)), snV n v, .int .i64 id, .int .i64 day, .int .i64 idx] W fun e w' => ComP W a (tComE t n id day idx) (tCom t n id day idx) e w') := fun W v hT hv => by
    obtain ⟨FT, FM, h1, h2, _, _⟩ := hT.1.has
    exact commit_any w.heap.size _ FT t n v id day idx W a (HENV.out W hT.2) h1 HP.out.ok hv (by rw [HL1.out]; omega) HSI.out (by have := HFW.out.1; omega) (by have := HFW.out.2.1; omega)
  have HC2 : Hid (∀ W, TwT w W (w.heap.size + 1) n (.slice qn L1 cn) (.pointer (some ⟨tb, 0, none⟩)) (.pointer (some ⟨mb, 0, none⟩)) t t → Calls Tryz.prog 21 #[(.pointer (some ⟨mb, 0, none⟩)), snV n (.slice qn L1 cn), .int .i64 id, .int .i64 day, .int .i64 idx] W fun e w' => RComP W (tComE t n id day idx) (tCom t n id day idx) e w') := fun W hT => by
    obtain ⟨FT, FM, h1, h2, _, _⟩ := hT.1.has
    exact rcommit_any w.heap.size _ FM t n (.slice qn L1 cn) id day idx W h2 HP.out.ok (HY.out W hT.2) (by rw [HL1.out]; omega) HSI.out (by have := HFW.out.1; omega) (by have := HFW.out.2.1; omega)
  have HCL2 : Hid ((tComE t n id day idx).1 ≤ 12) := tComE_le t n id day idx
  have HCF : Hid ((tCom t n id day idx).2.2.2.2.2.2.length ≤ 20000) := tCom_few t n id day idx
  unfold ComP at HC1
  unfold RComP at HC2
  generalize tComE t n id day idx = CE at HC1 HC2 HCL2
  generalize tCom t n id day idx = CS at HC1 HC2 HCF
  unfold snV at HC1 HC2
  have HERS : Hid (∀ W, TwT w W (w.heap.size + 1) n (.slice qn L1 cn) (.pointer (some ⟨tb, 0, none⟩)) (.pointer (some ⟨mb, 0, none⟩)) t t → Errs W a) := fun W hT => HERR.out W hT.2
  have HOM2 : Hid (∀ W, TwT w W (w.heap.size + 1) n (.slice qn L1 cn) (.pointer (some ⟨tb, 0, none⟩)) (.pointer (some ⟨mb, 0, none⟩)) t t → Calls Tryz.prog 9 #[.agg #[.int .i64 n.1, .int .i64 n.2.1, .int .i64 n.2.2.1, .int .i64 n.2.2.2.1, .int .i64 n.2.2.2.2.1, .string n.2.2.2.2.2.1, .slice qn L1 cn]] W fun e w' => ∃ v', e = .returned (.agg #[.int .i64 n.1, .int .i64 n.2.1, .int .i64 n.2.2.1, .int .i64 n.2.2.2.1, .int .i64 n.2.2.2.2.1, .string n.2.2.2.2.2.1, v']) ∧ FlsAt w' v' n.2.2.2.2.2.2 ∧ Below W.heap.size W w') := fun W hT => HOM.out W hT.2
  clear hlt HP HFW HENV HERR HX HY HCA HBS HSA HSH HSI HOM HL0 HL1 HLL HS
  go_wp2_with fail
  clear hii
  go_loopw [19] (fun k wr => ∃ (j : Nat), j ≤ 2 ∧ k = .int .i64 j ∧ TwT w wr (w.heap.size + 1) n (.slice qn L1 cn) (.pointer (some ⟨tb, 0, none⟩)) (.pointer (some ⟨mb, 0, none⟩)) t t) (fun k _ => 2 - (intOf k).toNat)
  case atStart => exact ⟨0, by omega, rfl, HT.out⟩
  case round =>
  clear HT
  obtain ⟨j, hj, rfl, hT⟩ := hrel
  by_cases hlt : j < 2
  case neg =>
    obtain rfl : j = 2 := by omega
    have HB9 : Hid (Below w.heap.size w wr) := hT.2
    clear hT
    go_wp2
    go_ret
    exact ⟨rfl, HB9.out⟩
  case pos =>
    have hj1 : (j : Int) < (2 : Int) := by omega
    have hj0 : (0 : Int) ≤ (j : Int) := by omega
    obtain ⟨x0, x1, x2, x3, x4, x5, x6⟩ := HN.out wr _ hT.1.sn
    have hom := HOM2.out wr hT
    go_wp2_with fail
    refine hom.mono ?_
    rintro e w8 ⟨v8, rfl, hf8, hb8⟩
    have hT8 := hT.quiet hb8
    clear hom hT hb8 x0 x1 x2 x3 x4 x5 x6
    have hc1 := HC1.out w8 v8 hT8 hf8
    go_wp2_with fail
    refine hc1.mono ?_
    rintro e w9 ⟨v9, ev9, rfl, hf9, ht9, hb9⟩
    have hT9 := hT8.quiet hb9
    clear hc1 hT8 hf8 hb9
    obtain ⟨q9, c9, hv9⟩ := hf9.form
    obtain ⟨L9, hL9⟩ : ∃ k, CS.2.2.2.2.2.2.length = k := ⟨_, rfl⟩
    rw [hL9] at hv9
    clear hL9
    subst hv9
    have hal9 : Below w9.heap.size w9 (w9.alloc (.cells #[.int .i64 CS.1, .int .i64 CS.2.1, .int .i64 CS.2.2.1, .int .i64 CS.2.2.2.1, .int .i64 CS.2.2.2.2.1, .string CS.2.2.2.2.2.1, .slice q9 L9 c9] 24)) := (Below.refl _ _).alloc (Nat.le_refl _) _
    have hxb : SnAt (w9.alloc (.cells #[.int .i64 CS.1, .int .i64 CS.2.1, .int .i64 CS.2.2.1, .int .i64 CS.2.2.2.1, .int .i64 CS.2.2.2.2.1, .string CS.2.2.2.2.2.1, .slice q9 L9 c9] 24)) w9.heap.size CS (.slice q9 L9 c9) := SnAt.new w9 CS _
    have hT10 := hT9.quiet hal9
    have hf10 := hf9.below hal9
    have ht10 := ht9.keep (keepsC_below hal9)
    clear hT9 hf9 ht9 hal9
    go_upto_region 23 with fail
    generalize w9.alloc (.cells #[.int .i64 CS.1, .int .i64 CS.2.1, .int .i64 CS.2.2.1, .int .i64 CS.2.2.2.1, .int .i64 CS.2.2.2.2.1, .string CS.2.2.2.2.2.1, .slice q9 L9 c9] 24) = w10 at *
    generalize w9.heap.size = xb at *
    obtain ⟨x0, x1, x2, x3, x4, x5, x6⟩ := HN.out w10 _ hT10.1.sn
    have hc2 := HC2.out w10 hT10
    go_wp2_with fail
    refine hc2.mono ?_
    rintro e w11 ⟨v11, rfl, hf11, hb11⟩
    have hT11 := hT10.quiet hb11
    have hg11 := hf10.below hb11
    have ht11 := ht10.keep (keepsC_below hb11)
    have hx11 := hxb.below hb11
    clear hc2 hT10 hf10 ht10 hxb hb11 x0 x1 x2 x3 x4 x5 x6
    obtain ⟨q11, c11, hv11⟩ := hf11.form
    obtain ⟨L11, hL11⟩ : ∃ k, CS.2.2.2.2.2.2.length = k := ⟨_, rfl⟩
    rw [hL11] at hv11
    clear hL11
    subst hv11
    have hal11 : Below w11.heap.size w11 (w11.alloc (.cells #[.int .i64 CS.1, .int .i64 CS.2.1, .int .i64 CS.2.2.1, .int .i64 CS.2.2.2.1, .int .i64 CS.2.2.2.2.1, .string CS.2.2.2.2.2.1, .slice q11 L11 c11] 24)) := (Below.refl _ _).alloc (Nat.le_refl _) _
    have hal12 : Below (w11.alloc (.cells #[.int .i64 CS.1, .int .i64 CS.2.1, .int .i64 CS.2.2.1, .int .i64 CS.2.2.2.1, .int .i64 CS.2.2.2.2.1, .string CS.2.2.2.2.2.1, .slice q11 L11 c11] 24)).heap.size (w11.alloc (.cells #[.int .i64 CS.1, .int .i64 CS.2.1, .int .i64 CS.2.2.1, .int .i64 CS.2.2.2.1, .int .i64 CS.2.2.2.2.1, .string CS.2.2.2.2.2.1, .slice q11 L11 c11] 24)) ((w11.alloc (.cells #[.int .i64 CS.1, .int .i64 CS.2.1, .int .i64 CS.2.2.1, .int .i64 CS.2.2.2.1, .int .i64 CS.2.2.2.2.1, .string CS.2.2.2.2.2.1, .slice q11 L11 c11] 24)).alloc (.cells #[.int .i64 CE.1, .int .i64 (atZ CE.2)] 49)) := (Below.refl _ _).alloc (Nat.le_refl _) _
    have hb12 := hal11.trans (hal12.mono hal11.size)
    have hyb : SnAt ((w11.alloc (.cells #[.int .i64 CS.1, .int .i64 CS.2.1, .int .i64 CS.2.2.1, .int .i64 CS.2.2.2.1, .int .i64 CS.2.2.2.2.1, .string CS.2.2.2.2.2.1, .slice q11 L11 c11] 24)).alloc (.cells #[.int .i64 CE.1, .int .i64 (atZ CE.2)] 49)) w11.heap.size CS (.slice q11 L11 c11) := (SnAt.new w11 CS _).below hal12
    have hfb : FC ((w11.alloc (.cells #[.int .i64 CS.1, .int .i64 CS.2.1, .int .i64 CS.2.2.1, .int .i64 CS.2.2.2.1, .int .i64 CS.2.2.2.2.1, .string CS.2.2.2.2.2.1, .slice q11 L11 c11] 24)).alloc (.cells #[.int .i64 CE.1, .int .i64 (atZ CE.2)] 49)) (w11.heap.size + 1) CE.1 (atZ CE.2) := by
      have h : FC ((w11.alloc (.cells #[.int .i64 CS.1, .int .i64 CS.2.1, .int .i64 CS.2.2.1, .int .i64 CS.2.2.2.1, .int .i64 CS.2.2.2.2.1, .string CS.2.2.2.2.2.1, .slice q11 L11 c11] 24)).alloc (.cells #[.int .i64 CE.1, .int .i64 (atZ CE.2)] 49)) (w11.alloc (.cells #[.int .i64 CS.1, .int .i64 CS.2.1, .int .i64 CS.2.2.1, .int .i64 CS.2.2.2.1, .int .i64 CS.2.2.2.2.1, .string CS.2.2.2.2.2.1, .slice q11 L11 c11] 24)).heap.size CE.1 (atZ CE.2) := heap_alloc_new _ _
      have e : (w11.alloc (.cells #[.int .i64 CS.1, .int .i64 CS.2.1, .int .i64 CS.2.2.1, .int .i64 CS.2.2.2.1, .int .i64 CS.2.2.2.2.1, .string CS.2.2.2.2.2.1, .slice q11 L11 c11] 24)).heap.size = w11.heap.size + 1 := by simp
      rw [e] at h
      exact h
    have hT12 := hT11.quiet hb12
    have hg12 := hg11.below hb12
    have hf12 := hf11.below hb12
    have ht12 := ht11.keep (keepsC_below hb12)
    have hx12 := hx11.below hb12
    clear hT11 hg11 hf11 ht11 hx11 hb12 hal11 hal12
    go_upto_region 24 with fail
    generalize (w11.alloc (.cells #[.int .i64 CS.1, .int .i64 CS.2.1, .int .i64 CS.2.2.1, .int .i64 CS.2.2.2.1, .int .i64 CS.2.2.2.2.1, .string CS.2.2.2.2.2.1, .slice q11 L11 c11] 24)).alloc (.cells #[.int .i64 CE.1, .int .i64 (atZ CE.2)] 49) = w12 at *
    generalize w11.heap.size + 1 = fb9 at *
    generalize w11.heap.size = yb at *
    obtain ⟨x0, x1, x2, x3, x4, x5, x6⟩ := hx12.cells
    obtain ⟨z0, z1, z2, z3, z4, z5, z6⟩ := hyb.cells
    have hss := sameSnap_yes CS (.slice q9 L9 c9) (.slice q11 L11 c11) w12 hg12 hf12 HCF.out
    unfold snV at hss
    clear hx12 hyb hg12 hf12
    go_wp2_with fail
    refine hss.mono ?_
    rintro e w13 ⟨rfl, hb13⟩
    have hT13 := hT12.quiet hb13
    have ht13 := ht12.keep (keepsC_below hb13)
    have hf13 := hfb.below hb13
    clear hss hT12 ht12 hfb hb13 x0 x1 x2 x3 x4 x5 x6 z0 z1 z2 z3 z4 z5 z6
    have c0 := hf13.c0
    have c1 := hf13.c1
    have hsm := ht13.same3 HCL2.out (HERS.out w13 hT13)
    clear hf13 ht13
    go_upto_region 25 with fail
    go_wp2_with fail
    refine hsm.mono ?_
    rintro e w14 ⟨rfl, hb14⟩
    have HT14 : Hid (TwT w w14 (w.heap.size + 1) n (.slice qn L1 cn) (.pointer (some ⟨tb, 0, none⟩)) (.pointer (some ⟨mb, 0, none⟩)) t t) := hT13.quiet hb14
    clear hsm hT13 hb14 c0 c1
    go_wp2
    go_roundw
    case rel => exact ⟨j + 1, by omega, by go_num, HT14.out⟩
    case measure => simp [intOf]; omega
end Go.Proofs.YtcpplldfmmpaoaaGreatDoor
