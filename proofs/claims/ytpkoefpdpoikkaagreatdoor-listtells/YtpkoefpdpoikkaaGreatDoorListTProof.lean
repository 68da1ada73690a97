/-
  Proved: ListTells returns true for every list of files, every file, text and two keys, whatever memory is there, where the listed package-level variables hold what the program's text lays; its arguments read as before.
-/
import Derived.Test.YtpkoefpdpoikkaaGreatDoorListAll
import Derived.Test.YtpkoefpdpoikkaaGreatDoorListTWalk
import Derived.Test.YtpkoefpdpoikkaaGreatDoorHanded
import Derived.Test.YtpkoefpdpoikkaaGreatDoorTie
import Derived.Test.YtpkoefpdpoikkaaGreatDoorCards
import Derived.SevenTiedAt
import Derived.OpenShut
namespace Go.Proofs.YtpkoefpdpoikkaaGreatDoor
open Go.ChangeShapes Go.WideShapes Go.ChangeAt Go.RowKit Go.Lib Go.Shelf
open Go.ChangeMaps (open_string shut_string)

theorem listt_plain : (Rows.listTellsRow.laid.filter fun x => x.2.handleName?.isNone) = plainList := by kernel_rfl
theorem listt_handle : (Rows.listTellsRow.laid.filter fun x => x.2.handleName?.isSome) = [("errors.errorType", Rows.laid_errors_errorType)] := by kernel_rfl

set_option maxRecDepth 100000 in
theorem listt_lifted (os : Os) (started : os.Started) (H : Type) (enc : TypeId × Value → H) :
    ReturnsInHanded {} Tryz.checked os 6 .any (fun w args => (Rows.listTellsSpec.pre enc Tryz.prog Tryz.f6 [] false w args ∧ laidMetH Tryz.prog Rows.listTellsRow.laid w) ∧ sizedMet enc Tryz.prog Tryz.f6 (OpenSpec.ofChange Rows.listTellsSpec) false w args)
      (Rows.listTellsSpec.post enc Tryz.prog Tryz.f6 false true false false) := by
  refine returns_and_shaped (C := Tryz.checked) (X := fun w _ => laidMetH Tryz.prog Rows.listTellsRow.laid w) (fun _ _ _ hh h => h.of_heap hh) Tryz.own started (by kernel_rfl) Tryz.func6
    (ChangeSpec.witness_shaped (enc := enc) (C := Tryz.checked) (os := os) (X := fun w _ => laidMetH Tryz.prog Rows.listTellsRow.laid w) false (tellsWorld os) #[.slice none 0 0, .agg #[.string ⟨#[]⟩, .string ⟨#[]⟩, .int .i64 0, .int .i64 0, .int .i64 0, .int .i64 0], .string ⟨#[]⟩, .int .i64 0, .int .i64 0] 8 (tellsWorld_os os)
      (tellsWorld_shaped os) (by kernel_rfl) (by kernel_rfl) (by kernel_rfl)
      (tellsWorld_met os _ listt_plain listt_handle)) ?_
  intro W base args ds gs before hval0 hW hsh hL
  have hval : ∀ (j : Nat) t v, Tryz.f6.params[j]? = some t → args[j]? = some v → Value.okWide Tryz.prog W .any base t v := hval0
  have hW' := hW
  obtain ⟨p, q, hA0, hV, rfl, hfz, _⟩ := hW
  have hA : DataW.TrodAll enc Tryz.prog W 0 (fun _ => true) true Tryz.f6.params.toList args.toList ds p := hA0
  have hpar : Tryz.f6.params = #[50, 23, 9, 3, 3] := by kernel_rfl
  rw [hpar] at hA hval
  obtain ⟨v0, r0, d0, ds0, p0, q0, ea, rfl, rfl, h0, hA⟩ := trodAll_cons hA
  obtain ⟨v1, r1, d1, ds1, p1, q1, rfl, rfl, rfl, h1, hA⟩ := trodAll_cons hA
  obtain ⟨v2, r2, d2, ds2, p2, q2, rfl, rfl, rfl, h2, hA⟩ := trodAll_cons hA
  obtain ⟨v3, r3, d3, ds3, p3, q3, rfl, rfl, rfl, h3, hA⟩ := trodAll_cons hA
  obtain ⟨v4, r4, d4, ds4, p4, q4, rfl, rfl, rfl, h4, hA⟩ := trodAll_cons hA
  obtain ⟨rfl, rfl, rfl⟩ := trodAll_nil hA
  obtain rfl : args = #[v0, v1, v2, v3, v4] := by
    obtain ⟨l⟩ := args
    simp only at ea
    rw [ea]
  obtain ⟨rfl, rfl⟩ := trodVars_none hV
  obtain ⟨s, rfl, rfl, rfl, ws⟩ := open_string Tryz.underlying9 (hval 2 9 v2 rfl rfl) h2
  obtain ⟨lo, rfl, rfl, rfl, wlo⟩ := open_int Tryz.underlying3 (hval 3 3 v3 rfl rfl) h3
  obtain ⟨hi, rfl, rfl, rfl, whi⟩ := open_int Tryz.underlying3 (hval 4 3 v4 rfl rfl) h4
  obtain ⟨f, rfl, hf1, hf2⟩ := open_file (hval 1 23 v1 rfl rfl) h1
  obtain ⟨g0, hg0⟩ := h1
  obtain ⟨vq, l0, c0, rfl⟩ := okWide_slice Tryz.underlying50 (hval 0 50 v0 rfl rfl)
  obtain ⟨f0, hf0⟩ := h0
  obtain ⟨fs, hx, hl, hsz⟩ := open_files hf0
  have ex : l0 = fs.length := by
    obtain ⟨_, _, e⟩ := hx.form
    injection e
  subst ex
  obtain ⟨hL1, hL2⟩ := tells_split listt_plain listt_handle hL
  obtain ⟨a, hEnv, hEr⟩ := env_errs hsh hL1 hL2
  have hEL : EnvL W a := ⟨⟨hEnv.n, hEr.cell 3 (by decide)⟩, hEr.cell 5 (by decide), hEr.cell 6 (by decide), hEr.cell 7 (by decide), hEr.cell 8 (by decide)⟩
  refine (listTells_any vq c0 fs f s lo hi W a (fun W => EnvT W a) (listR a) ⟨hEL, hEr.cell 0 (by decide)⟩ hEr hx hl hsz ⟨hf1, hf2⟩ ws).mono fun e W' ⟨he, hb⟩ => ?_
  subst he
  have e1 : Rows.listTellsSpec.fn H ([d0, d1, .lit (.string s.data.toList), .lit (.int .i64 lo), .lit (.int .i64 hi)] ++ []) = { results := [.lit (.bool true)], args := [d0, d1, .lit (.string s.data.toList), .lit (.int .i64 lo), .lit (.int .i64 hi)] } := by simp [Rows.listTellsSpec]
  have hlt0 : ∀ x ∈ p0, x.block < W.heap.size := DataW.trod_lt _ _ _ _ hf0
  have hlt1 : ∀ x ∈ p1, x.block < W.heap.size := DataW.trod_lt _ _ _ _ hg0
  refine ⟨_, rfl, _, _, _, [], p0 ++ (p1 ++ ([] ++ ([] ++ ([] ++ [])))), [], hW', ?_, ?_, ?_, hb.frame _, fun h => by cases h⟩
  · rw [e1]; exact trodAll_mk1 (shut_bool Tryz.underlying4 true)
  · rw [e1]
    exact trodAll_cons_mk (Below.trod Tryz.laidOut (by kernel_rfl) (of_decide_eq_true (by kernel_rfl)) ⟨f0, hf0⟩ hb hlt0)
      (trodAll_cons_mk (Below.trod Tryz.laidOut (by kernel_rfl) (of_decide_eq_true (by kernel_rfl)) ⟨g0, hg0⟩ hb hlt1)
        (trodAll_cons_mk (shut_string Tryz.underlying9 ws) (trodAll_cons_mk (shut_int Tryz.underlying3 wlo) (trodAll_cons_mk (shut_int Tryz.underlying3 whi) trodAll_mk0))))
  · rw [e1]; rfl

theorem listt_row : Rows.ListTellsSaid :=
  OpenClaim.holds_of_wide 6 Tryz.f6 rfl rfl rfl rfl rfl rfl rfl ⟨rfl, rfl, rfl, rfl, rfl⟩ rfl rfl rfl rfl rfl (by kernel_rfl) Tryz.func6 (by kernel_rfl)
    (of_decide_eq_true (by kernel_rfl)) (by unfold Func.isWrapper; rw [if_neg (of_decide_eq_false (by kernel_rfl))]; exact ⟨rfl, rfl⟩)
    (fun os started H enc _ => listt_lifted os started H enc)

theorem listTells_holds : Rows.ListTellsCardSaid :=
  Claim7.holds_tied_plain_at .later [] Rows.listTellsCard.laidKinds true Rows.listTellsCard.stood.harness true
    listt_row (fun _ h => by cases h) (by kernel_rfl) (fun _ h => by cases h) listTells_row_tie rfl ⟨rfl, rfl⟩ (by kernel_rfl) rfl
    (fun f fn hf hfn => by
      obtain rfl : f = 6 := Option.some.inj ((show Tryz.prog.funcNamed "deedbox/deedboxlaw2.ListTells" = some 6 by kernel_rfl).symm.trans hf) |>.symm
      obtain rfl : fn = Tryz.f6 := (Option.some.inj (Tryz.func6.symm.trans hfn)).symm
      exact ⟨by kernel_rfl, fun j t ht => by
        have hp : Tryz.f6.params = #[50, 23, 9, 3, 3] := by kernel_rfl
        rw [hp] at ht
        have hm : t ∈ [50, 23, 9, 3, 3] := by simpa using Array.mem_of_getElem? ht
        simp only [List.mem_cons, List.not_mem_nil, or_false, or_self] at hm
        rcases hm with rfl | rfl | rfl | rfl
        · exact (show Tryz.prog.wantsStandIn 50 = false by kernel_rfl)
        · exact (show Tryz.prog.wantsStandIn 23 = false by kernel_rfl)
        · exact (show Tryz.prog.wantsStandIn 9 = false by kernel_rfl)
        · exact (show Tryz.prog.wantsStandIn 3 = false by kernel_rfl)⟩)
    (by kernel_rfl)
#print axioms listTells_holds
end Go.Proofs.YtpkoefpdpoikkaaGreatDoor
