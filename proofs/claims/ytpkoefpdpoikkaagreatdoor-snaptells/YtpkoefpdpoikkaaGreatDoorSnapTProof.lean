/-
  Proved: SnapTells returns true for every snap and every text, whatever memory is there, where the listed package-level variables hold what the program's text lays; its arguments read as before.
-/
import Derived.Test.YtpkoefpdpoikkaaGreatDoorSnapAll
import Derived.Test.YtpkoefpdpoikkaaGreatDoorSnapTWalk
import Derived.Test.YtpkoefpdpoikkaaGreatDoorHanded
import Derived.Test.YtpkoefpdpoikkaaGreatDoorTie
import Derived.Test.YtpkoefpdpoikkaaGreatDoorCards
import Derived.SevenTiedAt
import Derived.OpenShut
namespace Go.Proofs.YtpkoefpdpoikkaaGreatDoor
open Go.ChangeShapes Go.WideShapes Go.ChangeAt Go.RowKit Go.Lib Go.Shelf
open Go.ChangeMaps (open_string shut_string)

theorem snapt_plain : (Rows.snapTellsRow.laid.filter fun x => x.2.handleName?.isNone) = plainList := by kernel_rfl
theorem snapt_handle : (Rows.snapTellsRow.laid.filter fun x => x.2.handleName?.isSome) = [("errors.errorType", Rows.laid_errors_errorType)] := by kernel_rfl

set_option maxRecDepth 100000 in
theorem snapt_lifted (os : Os) (started : os.Started) (H : Type) (enc : TypeId × Value → H) :
    ReturnsInHanded {} Tryz.checked os 8 .any (fun w args => (Rows.snapTellsSpec.pre enc Tryz.prog Tryz.f8 [] false w args ∧ laidMetH Tryz.prog Rows.snapTellsRow.laid w) ∧ sizedMet enc Tryz.prog Tryz.f8 (OpenSpec.ofChange Rows.snapTellsSpec) false w args)
      (Rows.snapTellsSpec.post enc Tryz.prog Tryz.f8 false true false false) := by
  refine returns_and_shaped (C := Tryz.checked) (X := fun w _ => laidMetH Tryz.prog Rows.snapTellsRow.laid w) (fun _ _ _ hh h => h.of_heap hh) Tryz.own started (by kernel_rfl) Tryz.func8
    (ChangeSpec.witness_shaped (enc := enc) (C := Tryz.checked) (os := os) (X := fun w _ => laidMetH Tryz.prog Rows.snapTellsRow.laid w) false (tellsWorld os) #[.agg #[.int .i64 0, .int .i64 0, .int .i64 0, .int .i64 0, .int .i64 0, .string ⟨#[]⟩, .slice none 0 0], .string ⟨#[]⟩] 8 (tellsWorld_os os)
      (tellsWorld_shaped os) (by kernel_rfl) (by kernel_rfl) (by kernel_rfl)
      (tellsWorld_met os _ snapt_plain snapt_handle)) ?_
  intro W base args ds gs before hval0 hW hsh hL
  have hval : ∀ (j : Nat) t v, Tryz.f8.params[j]? = some t → args[j]? = some v → Value.okWide Tryz.prog W .any base t v := hval0
  have hW' := hW
  obtain ⟨p, q, hA0, hV, rfl, hfz, _⟩ := hW
  have hA : DataW.TrodAll enc Tryz.prog W 0 (fun _ => true) true Tryz.f8.params.toList args.toList ds p := hA0
  have hpar : Tryz.f8.params = #[74, 9] := by kernel_rfl
  rw [hpar] at hA hval
  obtain ⟨v0, r0, d0, ds0, p0, q0, ea, rfl, rfl, h0, hA⟩ := trodAll_cons hA
  obtain ⟨v1, r1, d1, ds1, p1, q1, rfl, rfl, rfl, h1, hA⟩ := trodAll_cons hA
  obtain ⟨rfl, rfl, rfl⟩ := trodAll_nil hA
  obtain rfl : args = #[v0, v1] := by
    obtain ⟨l⟩ := args
    simp only at ea
    rw [ea]
  obtain ⟨rfl, rfl⟩ := trodVars_none hV
  obtain ⟨t, rfl, rfl, rfl, wt⟩ := open_string Tryz.underlying9 (hval 1 9 v1 rfl rfl) h1
  obtain ⟨s, sq, sc, rfl, hx, hop, hl, hsz⟩ := open_snap (hval 0 74 v0 rfl rfl) h0
  obtain ⟨f0, hf0⟩ := h0
  obtain ⟨hL1, hL2⟩ := tells_split snapt_plain snapt_handle hL
  obtain ⟨a, hEnv, hEr⟩ := env_errs hsh hL1 hL2
  have hEL : EnvL W a := ⟨⟨hEnv.n, hEr.cell 3 (by decide)⟩, hEr.cell 5 (by decide), hEr.cell 6 (by decide), hEr.cell 7 (by decide), hEr.cell 8 (by decide)⟩
  have hEP : EnvP W a := ⟨⟨hEL, hEr.cell 0 (by decide)⟩, hEr.cell 9 (by decide)⟩
  refine (snapTells_any s sq sc t W a (fun W => EnvP W a) (snapR a) hEP hEr hx hop hl hsz wt).mono fun e W' ⟨he, hb⟩ => ?_
  subst he
  have e1 : Rows.snapTellsSpec.fn H ([d0, .lit (.string t.data.toList)] ++ []) = { results := [.lit (.bool true)], args := [d0, .lit (.string t.data.toList)] } := by simp [Rows.snapTellsSpec]
  have hlt0 : ∀ x ∈ p0, x.block < W.heap.size := DataW.trod_lt _ _ _ _ hf0
  refine ⟨_, rfl, _, _, _, [], p0 ++ ([] ++ []), [], hW', ?_, ?_, ?_, hb.frame _, fun h => by cases h⟩
  · rw [e1]; exact trodAll_mk1 (shut_bool Tryz.underlying4 true)
  · rw [e1]
    exact trodAll_cons_mk (Below.trod Tryz.laidOut (by kernel_rfl) (of_decide_eq_true (by kernel_rfl)) ⟨f0, hf0⟩ hb hlt0)
      (trodAll_cons_mk (shut_string Tryz.underlying9 wt) trodAll_mk0)
  · rw [e1]; rfl

theorem snapt_row : Rows.SnapTellsSaid :=
  OpenClaim.holds_of_wide 8 Tryz.f8 rfl rfl rfl rfl rfl rfl rfl ⟨rfl, rfl, rfl, rfl, rfl⟩ rfl rfl rfl rfl rfl (by kernel_rfl) Tryz.func8 (by kernel_rfl)
    (of_decide_eq_true (by kernel_rfl)) (by unfold Func.isWrapper; rw [if_neg (of_decide_eq_false (by kernel_rfl))]; exact ⟨rfl, rfl⟩)
    (fun os started H enc _ => snapt_lifted os started H enc)

theorem snapTells_holds : Rows.SnapTellsCardSaid :=
  Claim7.holds_tied_plain_at .later [] Rows.snapTellsCard.laidKinds true Rows.snapTellsCard.stood.harness true
    snapt_row (fun _ h => by cases h) (by kernel_rfl) (fun _ h => by cases h) snapTells_row_tie rfl ⟨rfl, rfl⟩ (by kernel_rfl) rfl
    (fun f fn hf hfn => by
      obtain rfl : f = 8 := Option.some.inj ((show Tryz.prog.funcNamed "deedbox/deedboxlaw2.SnapTells" = some 8 by kernel_rfl).symm.trans hf) |>.symm
      obtain rfl : fn = Tryz.f8 := (Option.some.inj (Tryz.func8.symm.trans hfn)).symm
      exact ⟨by kernel_rfl, fun j t ht => by
        have hp : Tryz.f8.params = #[74, 9] := by kernel_rfl
        rw [hp] at ht
        have hm : t ∈ [74, 9] := by simpa using Array.mem_of_getElem? ht
        simp only [List.mem_cons, List.not_mem_nil, or_false] at hm
        rcases hm with rfl | rfl
        · exact (show Tryz.prog.wantsStandIn 74 = false by kernel_rfl)
        · exact (show Tryz.prog.wantsStandIn 9 = false by kernel_rfl)⟩)
    (by kernel_rfl)
#print axioms snapTells_holds
end Go.Proofs.YtpkoefpdpoikkaaGreatDoor
