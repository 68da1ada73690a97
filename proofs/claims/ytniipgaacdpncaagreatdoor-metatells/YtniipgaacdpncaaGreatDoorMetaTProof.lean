/-
  Proved: MetaTells returns true for all lists of whole numbers, every number and every text, whatever memory is there, where the listed package-level variables hold what the program's text lays; its arguments read as before.
-/
import Derived.Test.YtniipgaacdpncaaGreatDoorMetaAll
import Derived.Test.YtniipgaacdpncaaGreatDoorMetaTWalk
import Derived.Test.YtniipgaacdpncaaGreatDoorRowOpen
import Derived.Test.YtniipgaacdpncaaGreatDoorHanded
import Derived.Test.YtniipgaacdpncaaGreatDoorTie
import Derived.Test.YtniipgaacdpncaaGreatDoorCards
import Derived.Lay
import Derived.LaidLaws
import Derived.Stop.LaidErr
import Derived.Lib.LaidTab
import Derived.MakeChecks
import Derived.Shelf.Vars
import Derived.SevenTiedAt
import Derived.OpenShut
namespace Go.Proofs.YtniipgaacdpncaaGreatDoor
open Go.ChangeShapes Go.WideShapes Go.ChangeAt Go.RowKit Go.Lib Go.Shelf
open Go.ChangeMaps (open_string shut_string)

theorem metat_plain : (Rows.metaTellsRow.laid.filter fun x => x.2.handleName?.isNone) = plainList := by kernel_rfl
theorem metat_handle : (Rows.metaTellsRow.laid.filter fun x => x.2.handleName?.isSome) = [("errors.errorType", Rows.laid_errors_errorType)] := by kernel_rfl

/-- A list of whole numbers that came in; what points nowhere has no room. -/
theorem open_ints {H : Type} {enc : TypeId × Value → H} {W : World} {base : Nat} {spare : Nat → Bool} {held : Bool} {fuel : Nat} {q : Option Addr} {l c : Nat} {x : DataW H × List MemPlace} (h : DataW.trod enc Tryz.prog W base spare held fuel 22 [.slice q l c] = some x) :
    ∃ zs : List Int, KeysAt W (.slice q zs.length c) zs ∧ (q = none → c = 0) ∧ l = zs.length ∧ zs.length ≤ maxLen := by
  obtain ⟨zs, hk, hl⟩ := open_keys h
  have ex : l = zs.length := by
    rcases hk with ⟨p, c', e, e2⟩ | ⟨b, o, cap, e, _⟩
    · injection e with _ e1
      rw [e2]; exact e1
    · injection e
  subst ex
  refine ⟨zs, hk, fun e => ?_, rfl, hl⟩
  subst e
  rcases Go.Deep.open_slice1 Tryz.underlying22 Tryz.cellsInt h with ⟨e, _⟩ | ⟨a, len, cap, m, n, V, D, Pl, e, _⟩
  · simp only [List.cons.injEq, and_true, Value.slice.injEq, true_and] at e
    exact e.2
  · simp at e

set_option maxRecDepth 100000 in
theorem metat_lifted (os : Os) (started : os.Started) (H : Type) (enc : TypeId × Value → H) :
    ReturnsInHanded {} Tryz.checked os 3 .any (fun w args => (Rows.metaTellsSpec.pre enc Tryz.prog Tryz.f3 [] false w args ∧ laidMetH Tryz.prog Rows.metaTellsRow.laid w) ∧ sizedMet enc Tryz.prog Tryz.f3 (OpenSpec.ofChange Rows.metaTellsSpec) false w args)
      (Rows.metaTellsSpec.post enc Tryz.prog Tryz.f3 false true false false) := by
  refine returns_and_shaped (C := Tryz.checked) (X := fun w _ => laidMetH Tryz.prog Rows.metaTellsRow.laid w) (fun _ _ _ hh h => h.of_heap hh) Tryz.own started (by kernel_rfl) Tryz.func3
    (ChangeSpec.witness_shaped (enc := enc) (C := Tryz.checked) (os := os) (X := fun w _ => laidMetH Tryz.prog Rows.metaTellsRow.laid w) false (tellsWorld os) #[.slice none 0 0, .slice none 0 0, .int .i64 0, .string ⟨#[]⟩] 8 (tellsWorld_os os)
      (tellsWorld_shaped os) (by kernel_rfl) (by kernel_rfl) (by kernel_rfl)
      (tellsWorld_met os _ metat_plain metat_handle)) ?_
  intro W base args ds gs before hval0 hW hsh hL
  have hval : ∀ (j : Nat) t v, Tryz.f3.params[j]? = some t → args[j]? = some v → Value.okWide Tryz.prog W .any base t v := hval0
  have hW' := hW
  obtain ⟨p, q, hA0, hV, rfl, hfz, _⟩ := hW
  have hA : DataW.TrodAll enc Tryz.prog W 0 (fun _ => true) true Tryz.f3.params.toList args.toList ds p := hA0
  have hpar : Tryz.f3.params = #[22, 22, 3, 9] := by kernel_rfl
  rw [hpar] at hA hval
  obtain ⟨v0, r0, d0, ds0, p0, q0, ea, rfl, rfl, h0, hA⟩ := trodAll_cons hA
  obtain ⟨v1, r1, d1, ds1, p1, q1, rfl, rfl, rfl, h1, hA⟩ := trodAll_cons hA
  obtain ⟨v2, r2, d2, ds2, p2, q2, rfl, rfl, rfl, h2, hA⟩ := trodAll_cons hA
  obtain ⟨v3, r3, d3, ds3, p3, q3, rfl, rfl, rfl, h3, hA⟩ := trodAll_cons hA
  obtain ⟨rfl, rfl, rfl⟩ := trodAll_nil hA
  obtain rfl : args = #[v0, v1, v2, v3] := by
    obtain ⟨l⟩ := args
    simp only at ea
    rw [ea]
  obtain ⟨rfl, rfl⟩ := trodVars_none hV
  obtain ⟨n, rfl, rfl, rfl, wn⟩ := open_int Tryz.underlying3 (hval 2 3 v2 rfl rfl) h2
  obtain ⟨s, rfl, rfl, rfl, ws⟩ := open_string Tryz.underlying9 (hval 3 9 v3 rfl rfl) h3
  obtain ⟨a0, l0, c0, rfl⟩ := okWide_slice Tryz.underlying22 (hval 0 22 v0 rfl rfl)
  obtain ⟨a1, l1, c1, rfl⟩ := okWide_slice Tryz.underlying22 (hval 1 22 v1 rfl rfl)
  obtain ⟨f0, hf0⟩ := h0
  obtain ⟨f1, hf1⟩ := h1
  obtain ⟨zs, hz, hq0, rfl, hlz⟩ := open_ints hf0
  obtain ⟨ys, hy, hq1, rfl, hly⟩ := open_ints hf1
  obtain ⟨hL1, hL2⟩ := tells_split metat_plain metat_handle hL
  obtain ⟨a, hEnv, hEr⟩ := env_errs hsh hL1 hL2
  have hEM : EnvM W a := ⟨hEnv.s, hEr.cell 0 (by decide), hEr.cell 1 (by decide), hEr.cell 5 (by decide), hEr.cell 7 (by decide), hEr.cell 8 (by decide)⟩
  refine (metaTells_any a0 c0 zs a1 c1 ys n s W a (fun W => EnvM W a) (metaK a) hEM hEr hz hq0 hy hq1 hlz hly ws).mono fun e W' ⟨he, hb⟩ => ?_
  subst he
  have e1 : Rows.metaTellsSpec.fn H ([d0, d1, .lit (.int .i64 n), .lit (.string s.data.toList)] ++ []) = { results := [.lit (.bool true)], args := [d0, d1, .lit (.int .i64 n), .lit (.string s.data.toList)] } := by simp [Rows.metaTellsSpec]
  have hlt0 : ∀ x ∈ p0, x.block < W.heap.size := DataW.trod_lt _ _ _ _ hf0
  have hlt1 : ∀ x ∈ p1, x.block < W.heap.size := DataW.trod_lt _ _ _ _ hf1
  refine ⟨_, rfl, _, _, _, [], p0 ++ (p1 ++ ([] ++ ([] ++ []))), [], hW', ?_, ?_, ?_, hb.frame _, fun h => by cases h⟩
  · rw [e1]; exact trodAll_mk1 (shut_bool Tryz.underlying4 true)
  · rw [e1]
    exact trodAll_cons_mk (Below.trod Tryz.laidOut (by kernel_rfl) (of_decide_eq_true (by kernel_rfl)) ⟨f0, hf0⟩ hb hlt0)
      (trodAll_cons_mk (Below.trod Tryz.laidOut (by kernel_rfl) (of_decide_eq_true (by kernel_rfl)) ⟨f1, hf1⟩ hb hlt1)
        (trodAll_cons_mk (shut_int Tryz.underlying3 wn) (trodAll_cons_mk (shut_string Tryz.underlying9 ws) trodAll_mk0)))
  · rw [e1]; rfl

theorem metat_row : Rows.MetaTellsSaid :=
  OpenClaim.holds_of_wide 3 Tryz.f3 rfl rfl rfl rfl rfl rfl rfl ⟨rfl, rfl, rfl, rfl, rfl⟩ rfl rfl rfl rfl rfl (by kernel_rfl) Tryz.func3 (by kernel_rfl)
    (of_decide_eq_true (by kernel_rfl)) (by unfold Func.isWrapper; rw [if_neg (of_decide_eq_false (by kernel_rfl))]; exact ⟨rfl, rfl⟩)
    (fun os started H enc _ => metat_lifted os started H enc)

theorem metaTells_holds : Rows.MetaTellsCardSaid :=
  Claim7.holds_tied_plain_at .later [] Rows.metaTellsCard.laidKinds true Rows.metaTellsCard.stood.harness true
    metat_row (fun _ h => by cases h) (by kernel_rfl) (fun _ h => by cases h) metaTells_row_tie rfl ⟨rfl, rfl⟩ (by kernel_rfl) rfl
    (fun f fn hf hfn => by
      obtain rfl : f = 3 := Option.some.inj ((show Tryz.prog.funcNamed "deedbox/deedboxlaw2.MetaTells" = some 3 by kernel_rfl).symm.trans hf) |>.symm
      obtain rfl : fn = Tryz.f3 := (Option.some.inj (Tryz.func3.symm.trans hfn)).symm
      exact ⟨by kernel_rfl, fun j t ht => by
        have hp : Tryz.f3.params = #[22, 22, 3, 9] := by kernel_rfl
        rw [hp] at ht
        have hm : t ∈ [22, 22, 3, 9] := by simpa using Array.mem_of_getElem? ht
        simp only [List.mem_cons, List.not_mem_nil, or_false] at hm
        rcases hm with rfl | rfl | rfl | rfl
        · exact (show Tryz.prog.wantsStandIn 22 = false by kernel_rfl)
        · exact (show Tryz.prog.wantsStandIn 22 = false by kernel_rfl)
        · exact (show Tryz.prog.wantsStandIn 3 = false by kernel_rfl)
        · exact (show Tryz.prog.wantsStandIn 9 = false by kernel_rfl)⟩)
    (by kernel_rfl)
#print axioms metaTells_holds
end Go.Proofs.YtniipgaacdpncaaGreatDoor
