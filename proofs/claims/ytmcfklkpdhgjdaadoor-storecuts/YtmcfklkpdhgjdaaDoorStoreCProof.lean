/-
  Proved: StoreCuts returns true for all names and texts and every number, whatever memory is there, where the listed package-level variables hold what the program's text lays; its arguments read as before.
-/
import Derived.Test.YtmcfklkpdhgjdaaDoorStoreAll
import Derived.Test.YtmcfklkpdhgjdaaDoorStoreCWalk
import Derived.Test.YtmcfklkpdhgjdaaDoorStoreOpen
import Derived.Test.YtmcfklkpdhgjdaaDoorStoreLaid
import Derived.Test.YtmcfklkpdhgjdaaDoorTie
import Derived.Test.YtmcfklkpdhgjdaaDoorCards
import Derived.SevenTiedAt
import Derived.OpenShut
namespace Go.Proofs.YtmcfklkpdhgjdaaDoor
open Go.ChangeShapes Go.WideShapes Go.ChangeAt Go.RowKit Go.Lib Go.Shelf
open Go.ChangeMaps (open_string shut_string)

theorem list_plain : (Rows.storeCutsRow.laid.filter fun x => x.2.handleName?.isNone) = plainList := by kernel_rfl
theorem list_handle : (Rows.storeCutsRow.laid.filter fun x => x.2.handleName?.isSome) = [("errors.errorType", Rows.laid_errors_errorType)] := by kernel_rfl

set_option maxRecDepth 100000 in
theorem law_lifted (os : Os) (started : os.Started) (H : Type) (enc : TypeId × Value → H) :
    ReturnsInHanded {} Tryd.checked os 4 .any (fun w args => (Rows.storeCutsSpec.pre enc Tryd.prog Tryd.f4 [] false w args ∧ laidMetH Tryd.prog Rows.storeCutsRow.laid w) ∧ sizedMet enc Tryd.prog Tryd.f4 (OpenSpec.ofChange Rows.storeCutsSpec) false w args)
      (Rows.storeCutsSpec.post enc Tryd.prog Tryd.f4 false true false false) := by
  refine returns_and_shaped (C := Tryd.checked) (X := fun w _ => laidMetH Tryd.prog Rows.storeCutsRow.laid w) (fun _ _ _ hh h => h.of_heap hh) Tryd.own started (by kernel_rfl) Tryd.func4
    (ChangeSpec.witness_shaped (enc := enc) (C := Tryd.checked) (os := os) (X := fun w _ => laidMetH Tryd.prog Rows.storeCutsRow.laid w) false (tellsWorld os) #[.slice none 0 0, .slice none 0 0, .int .i64 0] 8 (tellsWorld_os os)
      (tellsWorld_shaped os) (by kernel_rfl) (by kernel_rfl) (by kernel_rfl)
      (tellsWorld_met os _ list_plain list_handle)) ?_
  intro W base args ds gs before hval0 hW _ hL
  have hval : ∀ (j : Nat) t v, Tryd.f4.params[j]? = some t → args[j]? = some v → Value.okWide Tryd.prog W .any base t v := hval0
  have hW' := hW
  obtain ⟨p, q, hA0, hV, rfl, hfz, _⟩ := hW
  have hA : DataW.TrodAll enc Tryd.prog W 0 (fun _ => true) true Tryd.f4.params.toList args.toList ds p := hA0
  have hpar : Tryd.f4.params = #[41, 41, 3] := by kernel_rfl
  rw [hpar] at hA hval
  obtain ⟨v0, r0, d0, ds0, p0, q0, ea, rfl, rfl, h0, hA⟩ := trodAll_cons hA
  obtain ⟨v1, r1, d1, ds1, p1, q1, rfl, rfl, rfl, h1, hA⟩ := trodAll_cons hA
  obtain ⟨v2, r2, d2, ds2, p2, q2, rfl, rfl, rfl, h2, hA⟩ := trodAll_cons hA
  obtain ⟨rfl, rfl, rfl⟩ := trodAll_nil hA
  obtain rfl : args = #[v0, v1, v2] := by
    obtain ⟨l⟩ := args
    simp only at ea
    rw [ea]
  obtain ⟨rfl, rfl⟩ := trodVars_none hV
  obtain ⟨n, rfl, rfl, rfl, wn⟩ := open_int Tryd.underlying3 (hval 2 3 v2 rfl rfl) h2
  obtain ⟨a0, l0, c0, rfl⟩ := okWide_slice Tryd.underlying41 (hval 0 41 v0 rfl rfl)
  obtain ⟨a1, l1, c1, rfl⟩ := okWide_slice Tryd.underlying41 (hval 1 41 v1 rfl rfl)
  obtain ⟨f0, hf0⟩ := h0
  obtain ⟨f1, hf1⟩ := h1
  obtain ⟨ns, hx1, hl1, hz1⟩ := open_texts hf0
  obtain ⟨xs, hx2, hl2, hz2⟩ := open_texts hf1
  obtain ⟨hL1, hL2⟩ := tells_split list_plain list_handle hL
  obtain ⟨a, hE⟩ := store_errs hL1 hL2
  refine (storeCuts_any W (storeK W a hE) (Below.refl _ _) _ _ ns xs n hx1 hx2 hl1 hl2 hz1 hz2 (wfz wn)).mono fun e W' ⟨he, hb⟩ => ?_
  subst he
  have e1 : Rows.storeCutsSpec.fn H ([d0, d1, .lit (.int .i64 n)] ++ []) = { results := [.lit (.bool true)], args := [d0, d1, .lit (.int .i64 n)] } := by simp [Rows.storeCutsSpec]
  refine ⟨_, rfl, _, _, _, [], p0 ++ (p1 ++ ([] ++ [])), [], hW', ?_, ?_, ?_, hb.frame _, fun h => by cases h⟩
  · rw [e1]; exact trodAll_mk1 (shut_bool Tryd.underlying4 true)
  · rw [e1]
    exact trodAll_cons_mk (Below.trod Tryd.laidOut (by kernel_rfl) (of_decide_eq_true (by kernel_rfl)) ⟨f0, hf0⟩ hb (DataW.trod_lt _ _ _ _ hf0)) (trodAll_cons_mk (Below.trod Tryd.laidOut (by kernel_rfl) (of_decide_eq_true (by kernel_rfl)) ⟨f1, hf1⟩ hb (DataW.trod_lt _ _ _ _ hf1)) (trodAll_cons_mk (shut_int Tryd.underlying3 wn) trodAll_mk0))
  · rw [e1]; rfl

theorem law_row : Rows.StoreCutsSaid :=
  OpenClaim.holds_of_wide 4 Tryd.f4 rfl rfl rfl rfl rfl rfl rfl ⟨rfl, rfl, rfl, rfl, rfl⟩ rfl rfl rfl rfl rfl (by kernel_rfl) Tryd.func4 (by kernel_rfl)
    (of_decide_eq_true (by kernel_rfl)) (by unfold Func.isWrapper; rw [if_neg (of_decide_eq_false (by kernel_rfl))]; exact ⟨rfl, rfl⟩)
    (fun os started H enc _ => law_lifted os started H enc)

theorem storeCuts_holds : Rows.StoreCutsCardSaid :=
  Claim7.holds_tied_plain_at .later [] Rows.storeCutsCard.laidKinds true Rows.storeCutsCard.stood.harness true
    law_row (fun _ h => by cases h) (by kernel_rfl) (fun _ h => by cases h) storeCuts_row_tie rfl ⟨rfl, rfl⟩ (by kernel_rfl) rfl
    (fun f fn hf hfn => by
      obtain rfl : f = 4 := Option.some.inj ((show Tryd.prog.funcNamed "deedbox/deedboxlaw2.StoreCuts" = some 4 by kernel_rfl).symm.trans hf) |>.symm
      obtain rfl : fn = Tryd.f4 := (Option.some.inj (Tryd.func4.symm.trans hfn)).symm
      exact ⟨by kernel_rfl, fun j t ht => by
        have hp : Tryd.f4.params = #[41, 41, 3] := by kernel_rfl
        rw [hp] at ht
        have hm : t ∈ [41, 41, 3] := by simpa using Array.mem_of_getElem? ht
        simp only [List.mem_cons, List.not_mem_nil, or_false] at hm
        rcases hm with rfl | rfl | rfl
        · exact (show Tryd.prog.wantsStandIn 41 = false by kernel_rfl)
        · exact (show Tryd.prog.wantsStandIn 41 = false by kernel_rfl)
        · exact (show Tryd.prog.wantsStandIn 3 = false by kernel_rfl)⟩)
    (by kernel_rfl)
#print axioms storeCuts_holds
end Go.Proofs.YtmcfklkpdhgjdaaDoor
