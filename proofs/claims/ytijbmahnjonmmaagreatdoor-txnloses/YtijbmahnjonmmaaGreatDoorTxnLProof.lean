/-
  Proved: TxnLoses returns true for every snap, all changes and all numbers, whatever memory is there, where the listed package-level variables hold what the program's text lays; its arguments read as before.
-/
import Derived.Test.YtijbmahnjonmmaaGreatDoorTxnLWalk
import Derived.Test.YtijbmahnjonmmaaGreatDoorHandedL
import Derived.Test.YtijbmahnjonmmaaGreatDoorTie
import Derived.Test.YtijbmahnjonmmaaGreatDoorCards
import Derived.SevenTiedAt
import Derived.OpenShut
namespace Go.Proofs.YtijbmahnjonmmaaGreatDoor
open Go.ChangeShapes Go.WideShapes Go.ChangeAt Go.RowKit Go.Lib Go.Shelf

theorem txnLoses_plain : (Rows.txnLosesRow.laid.filter fun x => x.2.handleName?.isNone) = plainListL := by kernel_rfl
theorem txnLoses_handle : (Rows.txnLosesRow.laid.filter fun x => x.2.handleName?.isSome) = [("errors.errorType", Rows.laid_errors_errorType)] := by kernel_rfl

set_option maxRecDepth 100000 in
theorem txnLoses_lifted (os : Os) (started : os.Started) (H : Type) (enc : TypeId × Value → H) :
    ReturnsInHanded {} Tryz.checked os 3 .any (fun w args => (Rows.txnLosesSpec.pre enc Tryz.prog Tryz.f3 [] false w args ∧ laidMetH Tryz.prog Rows.txnLosesRow.laid w) ∧ sizedMet enc Tryz.prog Tryz.f3 (OpenSpec.ofChange Rows.txnLosesSpec) false w args)
      (Rows.txnLosesSpec.post enc Tryz.prog Tryz.f3 false true false false) := by
  refine returns_and_shaped (C := Tryz.checked) (X := fun w _ => laidMetH Tryz.prog Rows.txnLosesRow.laid w) (fun _ _ _ hh h => h.of_heap hh) Tryz.own started (by kernel_rfl) Tryz.func3
    (ChangeSpec.witness_shaped (enc := enc) (C := Tryz.checked) (os := os) (X := fun w _ => laidMetH Tryz.prog Rows.txnLosesRow.laid w) false (tellsWorldL os) #[.agg #[.int .i64 0, .int .i64 0, .int .i64 0, .int .i64 0, .int .i64 0, .string ⟨#[]⟩, .slice none 0 0], .slice none 0 0, .slice none 0 0, .int .i64 0, .int .i64 0, .int .i64 0] 8 (tellsWorldL_os os)
      (tellsWorldL_shaped os) (by kernel_rfl) (by kernel_rfl) (by kernel_rfl)
      (tellsWorldL_met os _ txnLoses_plain txnLoses_handle)) ?_
  intro W base args ds gs before hval0 hW hsh hL
  have hval : ∀ (j : Nat) t v, Tryz.f3.params[j]? = some t → args[j]? = some v → Value.okWide Tryz.prog W .any base t v := hval0
  have hW' := hW
  obtain ⟨p, q, hA0, hV, rfl, hfz, _⟩ := hW
  have hA : DataW.TrodAll enc Tryz.prog W 0 (fun _ => true) true Tryz.f3.params.toList args.toList ds p := hA0
  have hpar : Tryz.f3.params = #[24, 25, 25, 3, 3, 3] := by kernel_rfl
  rw [hpar] at hA hval
  obtain ⟨v0, r0, d0, ds0, p0, q0, ea, rfl, rfl, h0, hA⟩ := trodAll_cons hA
  obtain ⟨v1, r1, d1, ds1, p1, q1, rfl, rfl, rfl, h1, hA⟩ := trodAll_cons hA
  obtain ⟨v2, r2, d2, ds2, p2, q2, rfl, rfl, rfl, h2, hA⟩ := trodAll_cons hA
  obtain ⟨v3, r3, d3, ds3, p3, q3, rfl, rfl, rfl, h3, hA⟩ := trodAll_cons hA
  obtain ⟨v4, r4, d4, ds4, p4, q4, rfl, rfl, rfl, h4, hA⟩ := trodAll_cons hA
  obtain ⟨v5, r5, d5, ds5, p5, q5, rfl, rfl, rfl, h5, hA⟩ := trodAll_cons hA
  obtain ⟨rfl, rfl, rfl⟩ := trodAll_nil hA
  obtain rfl : args = #[v0, v1, v2, v3, v4, v5] := by
    obtain ⟨l⟩ := args
    simp only at ea
    rw [ea]
  obtain ⟨rfl, rfl⟩ := trodVars_none hV
  obtain ⟨n3, rfl, rfl, rfl, wn3⟩ := open_int Tryz.underlying3 (hval 3 3 v3 rfl rfl) h3
  have hw3 := wf_i64 wn3
  obtain ⟨n4, rfl, rfl, rfl, wn4⟩ := open_int Tryz.underlying3 (hval 4 3 v4 rfl rfl) h4
  obtain ⟨n5, rfl, rfl, rfl, wn5⟩ := open_int Tryz.underlying3 (hval 5 3 v5 rfl rfl) h5
  obtain ⟨s, sq, sc, rfl, hx, hop, hl, hsz⟩ := open_snap (hval 0 24 v0 rfl rfl) h0
  obtain ⟨f0, hf0⟩ := h0
  obtain ⟨f1, hf1⟩ := h1
  obtain ⟨f2, hf2⟩ := h2
  obtain ⟨q1, l1, c1, rfl⟩ := okWide_slice Tryz.underlying25 (hval 1 25 v1 rfl rfl)
  obtain ⟨q2, l2, c2, rfl⟩ := okWide_slice Tryz.underlying25 (hval 2 25 v2 rfl rfl)
  obtain ⟨la, ha, hal, haz⟩ := open_chs hf1
  obtain ⟨lb, hb, hbl, hbz⟩ := open_chs hf2
  obtain ⟨hL1, hL2⟩ := tells_splitL txnLoses_plain txnLoses_handle hL
  obtain ⟨a, hE⟩ := env_errsL hsh hL1 hL2
  refine (txnLoses_any W a hE s _ _ _ la lb n3 n4 n5 hx hop hl hsz ⟨ha, hal, haz⟩ ⟨hb, hbl, hbz⟩ hw3.1).mono fun e W' ⟨he, hb'⟩ => ?_
  subst he
  have e1 : Rows.txnLosesSpec.fn H ([d0, d1, d2, .lit (.int .i64 n3), .lit (.int .i64 n4), .lit (.int .i64 n5)] ++ []) = { results := [.lit (.bool true)], args := [d0, d1, d2, .lit (.int .i64 n3), .lit (.int .i64 n4), .lit (.int .i64 n5)] } := by simp [Rows.txnLosesSpec]
  refine ⟨_, rfl, _, _, _, [], p0 ++ (p1 ++ (p2 ++ ([] ++ ([] ++ ([] ++ []))))), [], hW', ?_, ?_, ?_, hb'.frame _, fun h => by cases h⟩
  · rw [e1]; exact trodAll_mk1 (shut_bool Tryz.underlying4 true)
  · rw [e1]
    exact trodAll_cons_mk (Below.trod Tryz.laidOut (by kernel_rfl) (of_decide_eq_true (by kernel_rfl)) ⟨f0, hf0⟩ hb' (DataW.trod_lt _ _ _ _ hf0)) (trodAll_cons_mk (Below.trod Tryz.laidOut (by kernel_rfl) (of_decide_eq_true (by kernel_rfl)) ⟨f1, hf1⟩ hb' (DataW.trod_lt _ _ _ _ hf1)) (trodAll_cons_mk (Below.trod Tryz.laidOut (by kernel_rfl) (of_decide_eq_true (by kernel_rfl)) ⟨f2, hf2⟩ hb' (DataW.trod_lt _ _ _ _ hf2)) (trodAll_cons_mk (shut_int Tryz.underlying3 wn3) (trodAll_cons_mk (shut_int Tryz.underlying3 wn4) (trodAll_cons_mk (shut_int Tryz.underlying3 wn5) (trodAll_mk0))))))
  · rw [e1]; rfl

theorem txnLoses_row : Rows.TxnLosesSaid :=
  OpenClaim.holds_of_wide 3 Tryz.f3 rfl rfl rfl rfl rfl rfl rfl ⟨rfl, rfl, rfl, rfl, rfl⟩ rfl rfl rfl rfl rfl (by kernel_rfl) Tryz.func3 txnLoses_facts
    (of_decide_eq_true (by kernel_rfl)) (by unfold Func.isWrapper; rw [if_neg (of_decide_eq_false (by kernel_rfl))]; exact ⟨rfl, rfl⟩)
    (fun os started H enc _ => txnLoses_lifted os started H enc)

theorem txnLoses_holds : Rows.TxnLosesCardSaid :=
  Claim7.holds_tied_plain_at .later [] Rows.txnLosesCard.laidKinds true Rows.txnLosesCard.stood.harness true
    txnLoses_row (fun _ h => by cases h) (by kernel_rfl) (fun _ h => by cases h) txnLoses_row_tie rfl ⟨rfl, rfl⟩ (by kernel_rfl) rfl
    (fun f fn hf hfn => by
      obtain rfl : f = 3 := Option.some.inj ((show Tryz.prog.funcNamed "deedbox/deedboxlaw3.TxnLoses" = some 3 by kernel_rfl).symm.trans hf) |>.symm
      obtain rfl : fn = Tryz.f3 := (Option.some.inj (Tryz.func3.symm.trans hfn)).symm
      exact ⟨by kernel_rfl, fun j t ht => by
        have hp : Tryz.f3.params = #[24, 25, 25, 3, 3, 3] := by kernel_rfl
        rw [hp] at ht
        have hm : t ∈ [24, 25, 25, 3, 3, 3] := by simpa using Array.mem_of_getElem? ht
        simp only [List.mem_cons, List.not_mem_nil, or_false] at hm
        rcases hm with rfl | rfl | rfl | rfl | rfl | rfl
        · exact (show Tryz.prog.wantsStandIn 24 = false by kernel_rfl)
        · exact (show Tryz.prog.wantsStandIn 25 = false by kernel_rfl)
        · exact (show Tryz.prog.wantsStandIn 25 = false by kernel_rfl)
        · exact (show Tryz.prog.wantsStandIn 3 = false by kernel_rfl)
        · exact (show Tryz.prog.wantsStandIn 3 = false by kernel_rfl)
        · exact (show Tryz.prog.wantsStandIn 3 = false by kernel_rfl)⟩)
    (by kernel_rfl)
#print axioms txnLoses_holds
end Go.Proofs.YtijbmahnjonmmaaGreatDoor
