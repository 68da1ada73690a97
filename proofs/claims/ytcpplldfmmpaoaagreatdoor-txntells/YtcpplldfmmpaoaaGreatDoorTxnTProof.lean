/-
  Proved: TxnTells returns true for every two snaps, all changes and all numbers, whatever memory is there, where the listed package-level variables hold what the program's text lays; its arguments read as before.
-/
import Derived.Test.YtcpplldfmmpaoaaGreatDoorTxnTWalk
import Derived.Test.YtcpplldfmmpaoaaGreatDoorHandedT
import Derived.Test.YtcpplldfmmpaoaaGreatDoorTie
import Derived.Test.YtcpplldfmmpaoaaGreatDoorCards
import Derived.SevenTiedAt
import Derived.OpenShut
namespace Go.Proofs.YtcpplldfmmpaoaaGreatDoor
open Go.ChangeShapes Go.WideShapes Go.ChangeAt Go.RowKit Go.Lib Go.Shelf

theorem txnTells_plain : (Rows.txnTellsRow.laid.filter fun x => x.2.handleName?.isNone) = plainListT := by kernel_rfl
theorem txnTells_handle : (Rows.txnTellsRow.laid.filter fun x => x.2.handleName?.isSome) = [("errors.errorType", Rows.laid_errors_errorType)] := by kernel_rfl

set_option maxRecDepth 100000 in
theorem txnTells_lifted (os : Os) (started : os.Started) (H : Type) (enc : TypeId × Value → H) :
    ReturnsInHanded {} Tryz.checked os 4 .any (fun w args => (Rows.txnTellsSpec.pre enc Tryz.prog Tryz.f4 [] false w args ∧ laidMetH Tryz.prog Rows.txnTellsRow.laid w) ∧ sizedMet enc Tryz.prog Tryz.f4 (OpenSpec.ofChange Rows.txnTellsSpec) false w args)
      (Rows.txnTellsSpec.post enc Tryz.prog Tryz.f4 false true false false) := by
  refine returns_and_shaped (C := Tryz.checked) (X := fun w _ => laidMetH Tryz.prog Rows.txnTellsRow.laid w) (fun _ _ _ hh h => h.of_heap hh) Tryz.own started (by kernel_rfl) Tryz.func4
    (ChangeSpec.witness_shaped (enc := enc) (C := Tryz.checked) (os := os) (X := fun w _ => laidMetH Tryz.prog Rows.txnTellsRow.laid w) false (tellsWorldT os) #[.agg #[.int .i64 0, .int .i64 0, .int .i64 0, .int .i64 0, .int .i64 0, .string ⟨#[]⟩, .slice none 0 0], .agg #[.int .i64 0, .int .i64 0, .int .i64 0, .int .i64 0, .int .i64 0, .string ⟨#[]⟩, .slice none 0 0], .slice none 0 0, .int .i64 0, .int .i64 0, .int .i64 0] 8 (tellsWorldT_os os)
      (tellsWorldT_shaped os) (by kernel_rfl) (by kernel_rfl) (by kernel_rfl)
      (tellsWorldT_met os _ txnTells_plain txnTells_handle)) ?_
  intro W base args ds gs before hval0 hW hsh hL
  have hval : ∀ (j : Nat) t v, Tryz.f4.params[j]? = some t → args[j]? = some v → Value.okWide Tryz.prog W .any base t v := hval0
  have hW' := hW
  obtain ⟨p, q, hA0, hV, rfl, hfz, _⟩ := hW
  have hA : DataW.TrodAll enc Tryz.prog W 0 (fun _ => true) true Tryz.f4.params.toList args.toList ds p := hA0
  have hpar : Tryz.f4.params = #[24, 24, 25, 3, 3, 3] := by kernel_rfl
  rw [hpar] at hA hval
  obtain ⟨v0, r0, d0, ds0, p0, q0, ea, rfl, rfl, h0, hA⟩ := trodAll_cons hA
  obtain ⟨v1, r1, d1, ds1, p1, q1, rfl, rfl, rfl, h1, hA⟩ := trodAll_cons hA
  obtain ⟨v2, r2, d2, ds2, p2, q2, rfl, rfl, rfl, h2, hA⟩ := trodAll_cons hA
  obtain ⟨v3, r3, d3, ds3, p3, q3, rfl, rfl, rfl, h3, hA⟩ := trodAll_cons hA
  obtain ⟨v4, r4, d4, ds4, p4, q4, rfl, rfl, rfl, h4, hA⟩ := trodAll_cons hA
  obtain ⟨v5, r5, d5, ds5, p5, q5, rfl, rfl, rfl, h5, hA⟩ := trodAll_cons hA
  obtain ⟨rfl, rfl, rfl⟩ := trodAll_nil hA
  obtain rfl : args = #[v0, v1, v2, v3, v4, v5] := by
    obtain ⟨l⟩ := args
    simp only at ea
    rw [ea]
  obtain ⟨rfl, rfl⟩ := trodVars_none hV
  obtain ⟨n3, rfl, rfl, rfl, wn3⟩ := open_int Tryz.underlying3 (hval 3 3 v3 rfl rfl) h3
  obtain ⟨n4, rfl, rfl, rfl, wn4⟩ := open_int Tryz.underlying3 (hval 4 3 v4 rfl rfl) h4
  obtain ⟨n5, rfl, rfl, rfl, wn5⟩ := open_int Tryz.underlying3 (hval 5 3 v5 rfl rfl) h5
  obtain ⟨s, sq, sc, rfl, hx, hop, hl, hsz⟩ := open_snap (hval 0 24 v0 rfl rfl) h0
  obtain ⟨n, nq, nc, rfl, hy, hnp, hm, hnz⟩ := open_snap (hval 1 24 v1 rfl rfl) h1
  obtain ⟨f0, hf0⟩ := h0
  obtain ⟨f1, hf1⟩ := h1
  obtain ⟨f2, hf2⟩ := h2
  have hold := snap_old (hval 0 24 _ rfl rfl)
  obtain ⟨q2, l2, c2, rfl⟩ := okWide_slice Tryz.underlying25 (hval 2 25 v2 rfl rfl)
  obtain ⟨la, ha, hal, haz⟩ := open_chs hf2
  obtain ⟨hL1, hL2⟩ := tells_splitT txnTells_plain txnTells_handle hL
  obtain ⟨a, hX, hE⟩ := env_errsT hsh hL1 hL2
  refine (txnTells_any W a hX hE s n _ _ _ la n3 n4 n5 hx hop hl hsz hold hy hnp hm hnz ⟨ha, hal, haz⟩).mono fun e W' ⟨he, hb'⟩ => ?_
  subst he
  have e1 : Rows.txnTellsSpec.fn H ([d0, d1, d2, .lit (.int .i64 n3), .lit (.int .i64 n4), .lit (.int .i64 n5)] ++ []) = { results := [.lit (.bool true)], args := [d0, d1, d2, .lit (.int .i64 n3), .lit (.int .i64 n4), .lit (.int .i64 n5)] } := by simp [Rows.txnTellsSpec]
  refine ⟨_, rfl, _, _, _, [], p0 ++ (p1 ++ (p2 ++ ([] ++ ([] ++ ([] ++ []))))), [], hW', ?_, ?_, ?_, hb'.frame _, fun h => by cases h⟩
  · rw [e1]; exact trodAll_mk1 (shut_bool Tryz.underlying4 true)
  · rw [e1]
    exact trodAll_cons_mk (Below.trod Tryz.laidOut (by kernel_rfl) (of_decide_eq_true (by kernel_rfl)) ⟨f0, hf0⟩ hb' (DataW.trod_lt _ _ _ _ hf0)) (trodAll_cons_mk (Below.trod Tryz.laidOut (by kernel_rfl) (of_decide_eq_true (by kernel_rfl)) ⟨f1, hf1⟩ hb' (DataW.trod_lt _ _ _ _ hf1)) (trodAll_cons_mk (Below.trod Tryz.laidOut (by kernel_rfl) (of_decide_eq_true (by kernel_rfl)) ⟨f2, hf2⟩ hb' (DataW.trod_lt _ _ _ _ hf2)) (trodAll_cons_mk (shut_int Tryz.underlying3 wn3) (trodAll_cons_mk (shut_int Tryz.underlying3 wn4) (trodAll_cons_mk (shut_int Tryz.underlying3 wn5) (trodAll_mk0))))))
  · rw [e1]; rfl

theorem txnTells_row : Rows.TxnTellsSaid :=
  OpenClaim.holds_of_wide 4 Tryz.f4 rfl rfl rfl rfl rfl rfl rfl ⟨rfl, rfl, rfl, rfl, rfl⟩ rfl rfl rfl rfl rfl (by kernel_rfl) Tryz.func4 txnTells_facts
    (of_decide_eq_true (by kernel_rfl)) (by unfold Func.isWrapper; rw [if_neg (of_decide_eq_false (by kernel_rfl))]; exact ⟨rfl, rfl⟩)
    (fun os started H enc _ => txnTells_lifted os started H enc)

theorem txnTells_holds : Rows.TxnTellsCardSaid :=
  Claim7.holds_tied_plain_at .later [] Rows.txnTellsCard.laidKinds true Rows.txnTellsCard.stood.harness true
    txnTells_row (fun _ h => by cases h) (by kernel_rfl) (fun _ h => by cases h) txnTells_row_tie rfl ⟨rfl, rfl⟩ (by kernel_rfl) rfl
    (fun f fn hf hfn => by
      obtain rfl : f = 4 := Option.some.inj ((show Tryz.prog.funcNamed "deedbox/deedboxlaw3.TxnTells" = some 4 by kernel_rfl).symm.trans hf) |>.symm
      obtain rfl : fn = Tryz.f4 := (Option.some.inj (Tryz.func4.symm.trans hfn)).symm
      exact ⟨by kernel_rfl, fun j t ht => by
        have hp : Tryz.f4.params = #[24, 24, 25, 3, 3, 3] := by kernel_rfl
        rw [hp] at ht
        have hm : t ∈ [24, 24, 25, 3, 3, 3] := by simpa using Array.mem_of_getElem? ht
        simp only [List.mem_cons, List.not_mem_nil, or_false] at hm
        rcases hm with rfl | rfl | rfl | rfl | rfl | rfl
        · exact (show Tryz.prog.wantsStandIn 24 = false by kernel_rfl)
        · exact (show Tryz.prog.wantsStandIn 24 = false by kernel_rfl)
        · exact (show Tryz.prog.wantsStandIn 25 = false by kernel_rfl)
        · exact (show Tryz.prog.wantsStandIn 3 = false by kernel_rfl)
        · exact (show Tryz.prog.wantsStandIn 3 = false by kernel_rfl)
        · exact (show Tryz.prog.wantsStandIn 3 = false by kernel_rfl)⟩)
    (by kernel_rfl)
#print axioms txnTells_holds
end Go.Proofs.YtcpplldfmmpaoaaGreatDoor
