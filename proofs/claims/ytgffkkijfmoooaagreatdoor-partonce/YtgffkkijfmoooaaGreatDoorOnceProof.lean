/-
  Proved: PartOnce returns true for every spec and every list of rows, whatever memory is there, where the listed package-level variables hold what the program's text lays; its arguments read as before.
-/
import Derived.Test.YtgffkkijfmoooaaGreatDoorOnceWalk
import Derived.Test.YtgffkkijfmoooaaGreatDoorRowOpen
import Derived.Test.YtgffkkijfmoooaaGreatDoorHanded
import Derived.Test.YtgffkkijfmoooaaGreatDoorTie
import Derived.Test.YtgffkkijfmoooaaGreatDoorCards
import Derived.Lay
import Derived.LaidLaws
import Derived.Lib.LaidTab
import Derived.MakeChecks
import Derived.SevenTiedAt
import Derived.OpenShut
namespace Go.Proofs.YtgffkkijfmoooaaGreatDoor
open Go.ChangeShapes Go.WideShapes Go.ChangeAt Go.RowKit Go.Lib Go.Shelf
open Go.ChangeMaps (open_string shut_string)

/-- What the listed variables of PartOnce give a walk. -/
theorem env_of_once {W : World} (hsh : W.ShapedOpen Tryz.prog) (hL : laidMet Tryz.prog Rows.partOnceRow.laid W) : ∃ a, Env W a := by
  have h3 : laidMet Tryz.prog (("internal/strconv.uint64pow10", Lib.tabData .u64 Lib.pow10Tab) :: Rows.partOnceRow.laid.drop 3) W := by rw [← pow10_laid]; exact hL.tail.tail
  have ht := tabIs_of_head (P := Tryz.prog) (name := "internal/strconv.uint64pow10") (g := 14) (t := 227) (e := 153) (n := 20) (by kernel_rfl) (by kernel_rfl) (by kernel_rfl) (by kernel_rfl) (by kernel_rfl) (by kernel_rfl) h3
  have h5 := hL.tail.tail.tail
  obtain ⟨a0, _, _, _, e0, _⟩ := sentinel_full h5 (g := 2) (ti := 34) (by kernel_rfl) (by kernel_rfl) Tryz.underlying34 Tryz.rowES Tryz.underlying250 Tryz.underlying252 rfl rfl Tryz.underlying9 Tryz.cellsES Tryz.cellsString
  obtain ⟨a1, _, _, _, e1, _⟩ := sentinel_full h5.tail (g := 1) (ti := 34) (by kernel_rfl) (by kernel_rfl) Tryz.underlying34 Tryz.rowES Tryz.underlying250 Tryz.underlying252 rfl rfl Tryz.underlying9 Tryz.cellsES Tryz.cellsString
  obtain ⟨a4, _, _, _, e4, _⟩ := sentinel_full h5.tail.tail (g := 0) (ti := 34) (by kernel_rfl) (by kernel_rfl) Tryz.underlying34 Tryz.rowES Tryz.underlying250 Tryz.underlying252 rfl rfl Tryz.underlying9 Tryz.cellsES Tryz.cellsString
  obtain ⟨aS, _, _, _, eS, _⟩ := sentinel_full h5.tail.tail.tail.tail (g := 17) (ti := 34) (by kernel_rfl) (by kernel_rfl) Tryz.underlying34 Tryz.rowES Tryz.underlying250 Tryz.underlying252 rfl rfl Tryz.underlying9 Tryz.cellsES Tryz.cellsString
  exact ⟨fun i => if i = 0 then a0 else if i = 1 then a1 else a4, e0, e1, e4, Tryz.maxLenInt W hsh, ⟨_, _, eS⟩, ht⟩

set_option maxRecDepth 100000 in
theorem once_lifted (os : Os) (started : os.Started) (H : Type) (enc : TypeId × Value → H) :
    ReturnsInHanded {} Tryz.checked os 5 .any (fun w args => (Rows.partOnceSpec.pre enc Tryz.prog Tryz.f5 [] false w args ∧ laidMetH Tryz.prog Rows.partOnceRow.laid w) ∧ sizedMet enc Tryz.prog Tryz.f5 (OpenSpec.ofChange Rows.partOnceSpec) false w args)
      (Rows.partOnceSpec.post enc Tryz.prog Tryz.f5 false true false false) := by
  refine returns_and_shaped (C := Tryz.checked) (X := fun w _ => laidMetH Tryz.prog Rows.partOnceRow.laid w) (fun _ _ _ hh h => h.of_heap hh) Tryz.own started (by kernel_rfl) Tryz.func5
    (ChangeSpec.witness_shaped (enc := enc) (C := Tryz.checked) (os := os) (X := fun w _ => laidMetH Tryz.prog Rows.partOnceRow.laid w) false (World.laidAll Tryz.prog os Rows.partOnceRow.laid) #[.string ⟨#[]⟩, .slice none 0 0] 8 (World.laidAll_os _ _ _)
      (World.shaped_of_ZipB (by kernel_rfl) (by kernel_rfl)) (by kernel_rfl) (by kernel_rfl) (by kernel_rfl)
      (by rw [MakeChecks.laidMetH_plain _ _ _ (by kernel_rfl)]; exact laidMet_laidAll _ (by kernel_rfl) (by kernel_rfl))) ?_
  intro W base args ds gs before hval0 hW hsh hL
  have hval : ∀ (j : Nat) t v, Tryz.f5.params[j]? = some t → args[j]? = some v → Value.okWide Tryz.prog W .any base t v := hval0
  have hW' := hW
  obtain ⟨p, q, hA0, hV, rfl, hfz, _⟩ := hW
  have hA : DataW.TrodAll enc Tryz.prog W 0 (fun _ => true) true Tryz.f5.params.toList args.toList ds p := hA0
  have hpar : Tryz.f5.params = #[9, 22] := by kernel_rfl
  rw [hpar] at hA hval
  obtain ⟨v0, r0, d0, ds0, p0, q0, ea, rfl, rfl, h0, hA⟩ := trodAll_cons hA
  obtain ⟨v1, r1, d1, ds1, p1, q1, rfl, rfl, rfl, h1, hA⟩ := trodAll_cons hA
  obtain ⟨rfl, rfl, rfl⟩ := trodAll_nil hA
  obtain rfl : args = #[v0, v1] := by
    obtain ⟨l⟩ := args
    simp only at ea
    rw [ea]
  obtain ⟨rfl, rfl⟩ := trodVars_none hV
  obtain ⟨s, rfl, rfl, rfl, ws⟩ := open_string Tryz.underlying9 (hval 0 9 v0 rfl rfl) h0
  obtain ⟨a1, l1, c1, rfl⟩ := okWide_slice Tryz.underlying22 (hval 1 22 v1 rfl rfl)
  obtain ⟨f1, hf1⟩ := h1
  obtain ⟨xs, hx, hlx, _⟩ := open_rows hf1
  have ex : l1 = xs.length := by
    obtain ⟨_, _, e⟩ := hx.form
    injection e
  subst ex
  rw [MakeChecks.laidMetH_plain _ _ _ (by kernel_rfl)] at hL
  obtain ⟨a, hE⟩ := env_of_once hsh hL
  refine (partOnce_any a1 c1 s xs W a hE hx hlx ws).mono fun e W' ⟨he, hb⟩ => ?_
  subst he
  have e1 : Rows.partOnceSpec.fn H ([.lit (.string s.data.toList), d1] ++ []) = { results := [.lit (.bool true)], args := [.lit (.string s.data.toList), d1] } := by simp [Rows.partOnceSpec]
  have hlt1 : ∀ x ∈ p1, x.block < W.heap.size := DataW.trod_lt _ _ _ _ hf1
  refine ⟨_, rfl, _, _, _, [], [] ++ (p1 ++ []), [], hW', ?_, ?_, ?_, hb.frame _, fun h => by cases h⟩
  · rw [e1]; exact trodAll_mk1 (shut_bool Tryz.underlying4 true)
  · rw [e1]
    exact trodAll_cons_mk (shut_string Tryz.underlying9 ws)
      (trodAll_cons_mk (Below.trod Tryz.laidOut (by kernel_rfl) (of_decide_eq_true (by kernel_rfl)) ⟨f1, hf1⟩ hb hlt1) trodAll_mk0)
  · rw [e1]; rfl

theorem once_row : Rows.PartOnceSaid :=
  OpenClaim.holds_of_wide 5 Tryz.f5 rfl rfl rfl rfl rfl rfl rfl ⟨rfl, rfl, rfl, rfl, rfl⟩ rfl rfl rfl rfl rfl (by kernel_rfl) Tryz.func5 (by kernel_rfl)
    (of_decide_eq_true (by kernel_rfl)) (by unfold Func.isWrapper; rw [if_neg (of_decide_eq_false (by kernel_rfl))]; exact ⟨rfl, rfl⟩)
    (fun os started H enc _ => once_lifted os started H enc)

theorem partOnce_holds : Rows.PartOnceCardSaid :=
  Claim7.holds_tied_plain_at .later [] Rows.partOnceCard.laidKinds true Rows.partOnceCard.stood.harness true
    once_row (fun _ h => by cases h) (by kernel_rfl) (fun _ h => by cases h) partOnce_row_tie rfl ⟨rfl, rfl⟩ (by kernel_rfl) rfl
    (fun f fn hf hfn => by
      obtain rfl : f = 5 := Option.some.inj ((show Tryz.prog.funcNamed "deedbox/deedboxlaw1.PartOnce" = some 5 by kernel_rfl).symm.trans hf) |>.symm
      obtain rfl : fn = Tryz.f5 := (Option.some.inj (Tryz.func5.symm.trans hfn)).symm
      exact ⟨by kernel_rfl, fun j t ht => by
        have hp : Tryz.f5.params = #[9, 22] := by kernel_rfl
        rw [hp] at ht
        have hm : t ∈ [9, 22] := by simpa using Array.mem_of_getElem? ht
        simp only [List.mem_cons, List.not_mem_nil, or_false] at hm
        rcases hm with rfl | rfl
        · exact (show Tryz.prog.wantsStandIn 9 = false by kernel_rfl)
        · exact (show Tryz.prog.wantsStandIn 22 = false by kernel_rfl)⟩)
    (by kernel_rfl)
#print axioms partOnce_holds
end Go.Proofs.YtgffkkijfmoooaaGreatDoor
