/-
  Proved: Names returns true, whatever memory is there, where the variables of package api and errors.errorType hold what the program's text lays.
-/
import Derived.Test.YtgffkkijfmoooaaDoorNamesWalk
import Derived.Test.YtgffkkijfmoooaaDoorLaid
import Derived.Test.YtgffkkijfmoooaaDoorTie
import Derived.Test.YtgffkkijfmoooaaDoorCards
import Derived.SevenTiedAt
namespace Go.Proofs.YtgffkkijfmoooaaDoor
open Go.ChangeShapes Go.WideShapes Go.RowKit

noncomputable def low : Nat := (World.holding Tryd.prog default ⟨#[], #[], []⟩).heap.size

/-- One cell of a variable, laid. -/
def layCell (v : Value) : Obj → Obj
  | .cells _ t frozen => .cells #[v] t frozen
  | o => o

/-- A world that meets the condition. -/
noncomputable def laidWorld (os : Os) : World :=
  let w0 := World.holding Tryd.prog os ⟨#[.cells #[.string ⟨#[100, 101, 101, 100, 98, 111, 120, 58, 32, 116, 101, 120, 116]⟩] 40, .cells #[.string ⟨#[100, 101, 101, 100, 98, 111, 120, 58, 32, 98, 111, 117, 110, 100]⟩] 40, .cells #[.string ⟨#[100, 101, 101, 100, 98, 111, 120, 58, 32, 115, 104, 97, 112, 101]⟩] 40, .cells #[.string ⟨#[100, 101, 101, 100, 98, 111, 120, 58, 32, 107, 105, 110, 100]⟩] 40, .cells #[.string ⟨#[100, 101, 101, 100, 98, 111, 120, 58, 32, 110, 97, 109, 101]⟩] 40, .cells #[.string ⟨#[100, 101, 101, 100, 98, 111, 120, 58, 32, 110, 111, 110, 101]⟩] 40, .cells #[.string ⟨#[100, 101, 101, 100, 98, 111, 120, 58, 32, 101, 120, 105, 115, 116]⟩] 40, .cells #[.string ⟨#[100, 101, 101, 100, 98, 111, 120, 58, 32, 102, 117, 108, 108]⟩] 40, .cells #[.string ⟨#[100, 101, 101, 100, 98, 111, 120, 58, 32, 111, 114, 100, 101, 114]⟩] 40, .cells #[.string ⟨#[100, 101, 101, 100, 98, 111, 120, 58, 32, 115, 117, 109]⟩] 40, .cells #[.string ⟨#[100, 101, 101, 100, 98, 111, 120, 58, 32, 115, 116, 97, 108, 101]⟩] 40, .cells #[.string ⟨#[100, 101, 101, 100, 98, 111, 120, 58, 32, 111, 102, 102]⟩] 40], #[], []⟩
  { w0 with heap := ((((((((((((w0.heap.modify 0 (layCell (.iface 38 (.pointer (some ⟨low + 0, 0, none⟩))))).modify 1 (layCell (.iface 38 (.pointer (some ⟨low + 1, 0, none⟩))))).modify 2 (layCell (.iface 38 (.pointer (some ⟨low + 2, 0, none⟩))))).modify 3 (layCell (.iface 38 (.pointer (some ⟨low + 3, 0, none⟩))))).modify 4 (layCell (.iface 38 (.pointer (some ⟨low + 4, 0, none⟩))))).modify 5 (layCell (.iface 38 (.pointer (some ⟨low + 5, 0, none⟩))))).modify 6 (layCell (.iface 38 (.pointer (some ⟨low + 6, 0, none⟩))))).modify 7 (layCell (.iface 38 (.pointer (some ⟨low + 7, 0, none⟩))))).modify 8 (layCell (.iface 38 (.pointer (some ⟨low + 8, 0, none⟩))))).modify 9 (layCell (.iface 38 (.pointer (some ⟨low + 9, 0, none⟩))))).modify 10 (layCell (.iface 38 (.pointer (some ⟨low + 10, 0, none⟩))))).modify 11 (layCell (.iface 38 (.pointer (some ⟨low + 11, 0, none⟩))))).modify 12 (layCell (.iface 56 (.agg #[.pointer (some ⟨13, 25, none⟩)]))) }

theorem laidWorld_met (os : Os) (args : Array Value) : laidMetH Tryd.prog Rows.namesRow.laid ((laidWorld os).forCall (fun _ _ => 0) ⟨#[], args, []⟩).memory :=
  laidMetH_of_parts (laidMet_of_run (l := errList) (ps := [.cell 0 0, .cell (low + 0) 0, .cell 1 0, .cell (low + 1) 0, .cell 2 0, .cell (low + 2) 0, .cell 3 0, .cell (low + 3) 0, .cell 4 0, .cell (low + 4) 0, .cell 5 0, .cell (low + 5) 0, .cell 6 0, .cell (low + 6) 0, .cell 7 0, .cell (low + 7) 0, .cell 8 0, .cell (low + 8) 0, .cell 9 0, .cell (low + 9) 0, .cell 10 0, .cell (low + 10) 0, .cell 11 0, .cell (low + 11) 0]) 8 (by kernel_rfl) (by kernel_rfl) (by kernel_rfl)) (by kernel_rfl)

set_option maxRecDepth 100000 in
theorem law_lifted (os : Os) (started : os.Started) (H : Type) (enc : TypeId × Value → H) :
    ReturnsInHanded {} Tryd.checked os 3 .any (fun w args => (Rows.namesSpec.pre enc Tryd.prog Tryd.f3 [] false w args ∧ laidMetH Tryd.prog Rows.namesRow.laid w) ∧ sizedMet enc Tryd.prog Tryd.f3 (OpenSpec.ofChange Rows.namesSpec) false w args)
      (Rows.namesSpec.post enc Tryd.prog Tryd.f3 false true false false) := by
  refine returnsInHanded_of_change_and (C := Tryd.checked) (X := fun w _ => laidMetH Tryd.prog Rows.namesRow.laid w) (fun _ _ _ hh h => h.of_heap hh) Tryd.own started (by kernel_rfl) Tryd.func3
    (ChangeSpec.witness_at (enc := enc) (C := Tryd.checked) (os := os) (X := fun w _ => laidMetH Tryd.prog Rows.namesRow.laid w) false (laidWorld os) #[] 8 rfl (by kernel_rfl) (by kernel_rfl) (by kernel_rfl) (by kernel_rfl) (by kernel_rfl) (laidWorld_met os _)) ?_
  intro W base args ds gs before hval0 hW _ _ hL _
  have hW' := hW
  obtain ⟨p, q, hA0, hV0, rfl, hfz, hnd⟩ := hW
  have hA : DataW.TrodAll enc Tryd.prog W 0 (fun _ => true) true Tryd.f3.params.toList args.toList ds p := hA0
  have hV : DataW.TrodVars enc Tryd.prog W (fun _ => true) [] gs q := hV0
  have hpar : Tryd.f3.params.toList = [] := by kernel_rfl
  rw [hpar] at hA
  obtain ⟨rfl, rfl, rfl⟩ := trodAll_none hA
  have hL' : laidMet Tryd.prog errList W ∧ handlesMet Tryd.prog [("errors.errorType", Rows.laid_errors_errorType)] W := hL
  obtain ⟨a, hE⟩ := errs_of_list hL'.1 (handle_of hL'.2)
  obtain ⟨rfl, rfl⟩ : gs = [] ∧ q = [] := by
    cases gs with
    | nil => exact ⟨rfl, hV⟩
    | cons g r => exact absurd hV (by intro h; cases h)
  have e1 : Rows.namesSpec.fn H ([] ++ []) = { results := [.lit (.bool true)], args := [] } := by simp [Rows.namesSpec]
  refine (names_any W a hE).mono fun e W' ⟨he, hw⟩ => ?_
  subst he
  refine ⟨_, rfl, _, _, _, [], [], [], hW', ?_, ?_, ?_, hw.frame _, fun h => by cases h⟩
  · rw [e1]; exact trodAll_mk1 (shut_bool Tryd.underlying4 true)
  · rw [e1]; rfl
  · rw [e1]; rfl

theorem names_row : Rows.NamesSaid :=
  OpenClaim.holds_of_wide 3 Tryd.f3 rfl rfl rfl rfl rfl rfl rfl ⟨rfl, rfl, rfl, rfl, rfl⟩ rfl rfl rfl rfl rfl (by kernel_rfl) Tryd.func3 (by kernel_rfl)
    (of_decide_eq_true (by kernel_rfl)) (by unfold Func.isWrapper; rw [if_neg (of_decide_eq_false (by kernel_rfl))]; exact ⟨rfl, rfl⟩)
    (fun os started H enc _ => law_lifted os started H enc)

theorem names_holds : Rows.NamesCardSaid :=
  Claim7.holds_tied_plain_at .later [] [.handle, .sentinel, .sentinel, .sentinel, .sentinel, .sentinel, .sentinel, .sentinel, .sentinel, .sentinel, .sentinel, .sentinel, .sentinel] true Rows.namesCard.stood.harness true
    names_row (fun _ h => by cases h) (by kernel_rfl) (fun _ h => by cases h) names_row_tie rfl ⟨rfl, rfl⟩ (by kernel_rfl) rfl
    (fun f fn hf hfn => by
      obtain rfl : f = 3 := Option.some.inj ((show Tryd.prog.funcNamed "deedbox/deedboxlaw1.Names" = some 3 by kernel_rfl).symm.trans hf) |>.symm
      obtain rfl : fn = Tryd.f3 := (Option.some.inj (Tryd.func3.symm.trans hfn)).symm
      exact ⟨by kernel_rfl, fun j t ht => by
        have hp : Tryd.f3.params = #[] := by kernel_rfl
        rw [hp] at ht
        simp at ht⟩)
    (by kernel_rfl)
#print axioms names_holds
end Go.Proofs.YtgffkkijfmoooaaDoor
