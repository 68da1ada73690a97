/-
  Proved: PartTells returns true for every spec and every list of rows, whatever memory is there, where the listed package-level variables hold what the program's text lays; its arguments read as before.
-/
import Derived.Test.YtgffkkijfmoooaaGreatDoorPartWalk
import Derived.Test.YtgffkkijfmoooaaGreatDoorRowOpen
import Derived.Test.YtgffkkijfmoooaaGreatDoorHanded
import Derived.Test.YtgffkkijfmoooaaGreatDoorTie
import Derived.Test.YtgffkkijfmoooaaGreatDoorCards
import Derived.Lay
import Derived.LaidLaws
import Derived.Lib.LaidTab
import Derived.MakeChecks
import Derived.SevenTiedAt
import Derived.OpenShut
import Derived.Shelf.Vars
import Derived.Stop.LaidErr
import Derived.Stop.Joined
import Derived.LaidHandle
import Derived.RowKitTokens
import Derived.RowKit
import Derived.JoinedOf
import Derived.ChangeVars
import Derived.ChangeSame
import Derived.Test.YtgffkkijfmoooaaGreatDoorCoded
import Derived.Test.YtgffkkijfmoooaaGreatDoorRows
namespace Go.Proofs.YtgffkkijfmoooaaGreatDoor
open Go.ChangeShapes Go.WideShapes Go.ChangeAt Go.RowKit Go.Lib Go.Shelf
open Go.ChangeMaps (open_string shut_string)

/-- The variables that PartTells lists, without the handle. -/
def partList : List (String × DataW Unit) :=
  [("math/bits.deBruijn32tab", Rows.laid_math_bits_deBruijn32tab), ("math/bits.deBruijn64tab", Rows.laid_math_bits_deBruijn64tab), ("internal/strconv.uint64pow10", Rows.laid_internal_strconv_uint64pow10)] ++ (errList ++ [("strconv.ErrRange", Rows.laid_strconv_ErrRange), ("strconv.ErrSyntax", Rows.laid_strconv_ErrSyntax)])

/-- What they give a walk. -/
theorem env_part {W : World} (hsh : W.ShapedOpen Tryz.prog) (hL : laidMet Tryz.prog partList W) (hH : handlesMet Tryz.prog [("errors.errorType", Rows.laid_errors_errorType)] W) : ∃ a, Env W a ∧ Errs W a := by
  have h3 : laidMet Tryz.prog (("internal/strconv.uint64pow10", Lib.tabData .u64 Lib.pow10Tab) :: partList.drop 3) W := by rw [← pow10_laid]; exact hL.tail.tail
  have ht := tabIs_of_head (P := Tryz.prog) (name := "internal/strconv.uint64pow10") (g := 14) (t := 227) (e := 153) (n := 20) (by kernel_rfl) (by kernel_rfl) (by kernel_rfl) (by kernel_rfl) (by kernel_rfl) (by kernel_rfl) h3
  have h4 : laidMet Tryz.prog (errList ++ [("strconv.ErrRange", Rows.laid_strconv_ErrRange), ("strconv.ErrSyntax", Rows.laid_strconv_ErrSyntax)]) W := hL.tail.tail.tail
  obtain ⟨a, hE⟩ := errs_of_list h4 (handle_of hH)
  have h17 : laidMet Tryz.prog [("strconv.ErrSyntax", Rows.laid_strconv_ErrSyntax)] W := h4.tail.tail.tail.tail.tail.tail.tail.tail.tail.tail.tail.tail.tail
  obtain ⟨aS, _, _, _, eS, _⟩ := sentinel_full h17 (g := 17) (ti := 34) (by kernel_rfl) (by kernel_rfl) Tryz.underlying34 Tryz.rowES Tryz.underlying250 Tryz.underlying252 rfl rfl Tryz.underlying9 Tryz.cellsES Tryz.cellsString
  exact ⟨a, ⟨hE.cell 0 (by decide), hE.cell 1 (by decide), hE.cell 4 (by decide), Tryz.maxLenInt W hsh, ⟨_, _, eS⟩, ht⟩, hE⟩

/-- .. and all the others too. -/
noncomputable def partWorld (os : Os) : World := (handed os).layVars Tryz.prog partList
theorem partWorld_os (os : Os) : (partWorld os).os = os := by
  unfold partWorld
  rw [World.layVars_os]
  rfl
theorem partWorld_shaped (os : Os) : (partWorld os).Shaped Tryz.prog := World.shaped_of_ZipB (by kernel_rfl) (by kernel_rfl)
theorem partWorld_met (os : Os) (args : Array Value) {l : List (String × DataW Unit)} (h1 : (l.filter fun x => x.2.handleName?.isNone) = partList) (h2 : (l.filter fun x => x.2.handleName?.isSome) = [("errors.errorType", Rows.laid_errors_errorType)]) :
    laidMetH Tryz.prog l ((partWorld os).forCall (fun _ _ => 0) ⟨#[], args, []⟩).memory := by
  refine laidMetH_of_parts ?_ ?_
  · rw [h1]
    have e1 : (partList.filter fun x => (partList.map (·.1)).contains x.1) = partList := List.filter_eq_self.2 fun x hx => List.contains_iff_mem.2 (List.mem_map.2 ⟨x, hx, rfl⟩)
    have e2 : (partList.filter fun x => !(partList.map (·.1)).contains x.1) = [] := List.filter_eq_nil_iff.2 fun x hx => by rw [List.contains_iff_mem.2 (List.mem_map.2 ⟨x, hx, rfl⟩)]; simp
    have h : laidMet Tryz.prog partList (partWorld os) := laidMet_layVars (w0 := handed os) (partList.map (·.1)) [] (by rw [e1]; rfl) (by rw [e1]; kernel_rfl) (by rw [e1]; kernel_rfl) (by rw [e2]; exact LaidIn.none)
    exact h.of_heap (by simp [World.memory, World.forCall, Input.heap])
  · rw [h2]
    kernel_rfl
theorem partW_split {l : List (String × DataW Unit)} {W : World} (h1 : (l.filter fun x => x.2.handleName?.isNone) = partList) (h2 : (l.filter fun x => x.2.handleName?.isSome) = [("errors.errorType", Rows.laid_errors_errorType)]) (h : laidMetH Tryz.prog l W) :
    laidMet Tryz.prog partList W ∧ handlesMet Tryz.prog [("errors.errorType", Rows.laid_errors_errorType)] W := by
  unfold laidMetH at h
  rw [h2, h1] at h
  exact h
theorem part_plain : (Rows.partTellsRow.laid.filter fun x => x.2.handleName?.isNone) = partList := by kernel_rfl
theorem part_handle : (Rows.partTellsRow.laid.filter fun x => x.2.handleName?.isSome) = [("errors.errorType", Rows.laid_errors_errorType)] := by kernel_rfl

set_option maxRecDepth 100000 in
theorem part_lifted (os : Os) (started : os.Started) (H : Type) (enc : TypeId × Value → H) :
    ReturnsInHanded {} Tryz.checked os 6 .any (fun w args => (Rows.partTellsSpec.pre enc Tryz.prog Tryz.f6 [] false w args ∧ laidMetH Tryz.prog Rows.partTellsRow.laid w) ∧ sizedMet enc Tryz.prog Tryz.f6 (OpenSpec.ofChange Rows.partTellsSpec) false w args)
      (Rows.partTellsSpec.post enc Tryz.prog Tryz.f6 false true false false) := by
  refine returns_and_shaped (C := Tryz.checked) (X := fun w _ => laidMetH Tryz.prog Rows.partTellsRow.laid w) (fun _ _ _ hh h => h.of_heap hh) Tryz.own started (by kernel_rfl) Tryz.func6
    (ChangeSpec.witness_shaped (enc := enc) (C := Tryz.checked) (os := os) (X := fun w _ => laidMetH Tryz.prog Rows.partTellsRow.laid w) false (partWorld os) #[.string ⟨#[]⟩, .slice none 0 0] 8 (partWorld_os os)
      (partWorld_shaped os) (by kernel_rfl) (by kernel_rfl) (by kernel_rfl)
      (partWorld_met os _ part_plain part_handle)) ?_
  intro W base args ds gs before hval0 hW hsh hL
  have hval : ∀ (j : Nat) t v, Tryz.f6.params[j]? = some t → args[j]? = some v → Value.okWide Tryz.prog W .any base t v := hval0
  have hW' := hW
  obtain ⟨p, q, hA0, hV, rfl, hfz, _⟩ := hW
  have hA : DataW.TrodAll enc Tryz.prog W 0 (fun _ => true) true Tryz.f6.params.toList args.toList ds p := hA0
  have hpar : Tryz.f6.params = #[9, 22] := by kernel_rfl
  rw [hpar] at hA hval
  obtain ⟨v0, r0, d0, ds0, p0, q0, ea, rfl, rfl, h0, hA⟩ := trodAll_cons hA
  obtain ⟨v1, r1, d1, ds1, p1, q1, rfl, rfl, rfl, h1, hA⟩ := trodAll_cons hA
  obtain ⟨rfl, rfl, rfl⟩ := trodAll_nil hA
  obtain rfl : args = #[v0, v1] := by
    obtain ⟨l⟩ := args
    simp only at ea
    rw [ea]
  obtain ⟨rfl, rfl⟩ := trodVars_none hV
  obtain ⟨s, rfl, rfl, rfl, ws⟩ := open_string Tryz.underlying9 (hval 0 9 v0 rfl rfl) h0
  obtain ⟨a1, l1, c1, rfl⟩ := okWide_slice Tryz.underlying22 (hval 1 22 v1 rfl rfl)
  obtain ⟨f1, hf1⟩ := h1
  obtain ⟨xs, hx, hlx, _⟩ := open_rows hf1
  have ex : l1 = xs.length := by
    obtain ⟨_, _, e⟩ := hx.form
    injection e
  subst ex
  obtain ⟨hL1, hL2⟩ := partW_split part_plain part_handle hL
  obtain ⟨a, hE, hEr⟩ := env_part hsh hL1 hL2
  refine (partTells_any a1 c1 s xs W a hE hEr hx hlx ws).mono fun e W' ⟨he, hb⟩ => ?_
  subst he
  have e1 : Rows.partTellsSpec.fn H ([.lit (.string s.data.toList), d1] ++ []) = { results := [.lit (.bool true)], args := [.lit (.string s.data.toList), d1] } := by simp [Rows.partTellsSpec]
  have hlt1 : ∀ x ∈ p1, x.block < W.heap.size := DataW.trod_lt _ _ _ _ hf1
  refine ⟨_, rfl, _, _, _, [], [] ++ (p1 ++ []), [], hW', ?_, ?_, ?_, hb.frame _, fun h => by cases h⟩
  · rw [e1]; exact trodAll_mk1 (shut_bool Tryz.underlying4 true)
  · rw [e1]
    exact trodAll_cons_mk (shut_string Tryz.underlying9 ws)
      (trodAll_cons_mk (Below.trod Tryz.laidOut (by kernel_rfl) (of_decide_eq_true (by kernel_rfl)) ⟨f1, hf1⟩ hb hlt1) trodAll_mk0)
  · rw [e1]; rfl

theorem part_row : Rows.PartTellsSaid :=
  OpenClaim.holds_of_wide 6 Tryz.f6 rfl rfl rfl rfl rfl rfl rfl ⟨rfl, rfl, rfl, rfl, rfl⟩ rfl rfl rfl rfl rfl (by kernel_rfl) Tryz.func6 (by kernel_rfl)
    (of_decide_eq_true (by kernel_rfl)) (by unfold Func.isWrapper; rw [if_neg (of_decide_eq_false (by kernel_rfl))]; exact ⟨rfl, rfl⟩)
    (fun os started H enc _ => part_lifted os started H enc)

theorem partTells_holds : Rows.PartTellsCardSaid :=
  Claim7.holds_tied_plain_at .later [] Rows.partTellsCard.laidKinds true Rows.partTellsCard.stood.harness true
    part_row (fun _ h => by cases h) (by kernel_rfl) (fun _ h => by cases h) partTells_row_tie rfl ⟨rfl, rfl⟩ (by kernel_rfl) rfl
    (fun f fn hf hfn => by
      obtain rfl : f = 6 := Option.some.inj ((show Tryz.prog.funcNamed "deedbox/deedboxlaw1.PartTells" = some 6 by kernel_rfl).symm.trans hf) |>.symm
      obtain rfl : fn = Tryz.f6 := (Option.some.inj (Tryz.func6.symm.trans hfn)).symm
      exact ⟨by kernel_rfl, fun j t ht => by
        have hp : Tryz.f6.params = #[9, 22] := by kernel_rfl
        rw [hp] at ht
        have hm : t ∈ [9, 22] := by simpa using Array.mem_of_getElem? ht
        simp only [List.mem_cons, List.not_mem_nil, or_false] at hm
        rcases hm with rfl | rfl
        · exact (show Tryz.prog.wantsStandIn 9 = false by kernel_rfl)
        · exact (show Tryz.prog.wantsStandIn 22 = false by kernel_rfl)⟩)
    (by kernel_rfl)
#print axioms partTells_holds
end Go.Proofs.YtgffkkijfmoooaaGreatDoor
