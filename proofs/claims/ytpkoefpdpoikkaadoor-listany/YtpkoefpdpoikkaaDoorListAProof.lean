/-
  Proved: ListAny returns true for every list of files and every place, whatever memory is there, where the listed package-level variables hold what the program's text lays; its arguments read as before.
-/
import Derived.Test.YtpkoefpdpoikkaaDoorListOpen
import Derived.Test.YtpkoefpdpoikkaaDoorRows
import Derived.Test.YtpkoefpdpoikkaaDoorTie
import Derived.Test.YtpkoefpdpoikkaaDoorCards
import Derived.Lay
import Derived.LaidLaws
import Derived.Stop.LaidErr
import Derived.MakeChecks
import Derived.Shelf.Vars
import Derived.SevenTiedAt
import Derived.OpenShut
namespace Go.Proofs.YtpkoefpdpoikkaaDoor
open Go.ChangeShapes Go.WideShapes Go.ChangeAt Go.RowKit Go.Lib Go.Shelf

theorem Tryd.own : ownKnob Tryd.prog.godebug = none := by kernel_rfl
theorem Tryd.laidOut : laidOutB Tryd.prog = true := by kernel_rfl
theorem Tryd.cellsES : Tryd.prog.cellsOf 119 = 1 := by kernel_rfl
theorem Tryd.star : "*" ++ "errors.errorString" = "*errors.errorString" := by decide
theorem Tryd.rowES (u : TypeId) (h : Tryd.prog.typeName? 3 u = some "*errors.errorString") : u = 117 :=
  typeName_ptr_named (nm := "errors.errorString") (by rw [Tryd.star]; kernel_rfl) (by kernel_rfl) (by decide) u (by rw [Tryd.star]; exact h)
theorem Tryd.maxLenInt (W : World) (h : W.ShapedOpen Tryd.prog) : ∃ m, W.cell? ⟨7, 0, none⟩ = some (.int .i64 m) :=
  cell_of_shapedOpen_int (zero := #[.int .i64 0]) (t := 3) h (of_decide_eq_true (by kernel_rfl)) (by kernel_rfl) rfl (by kernel_rfl) (by kernel_rfl) Tryd.underlying3

theorem sentinel_cell {n : String} {text : List UInt8} {r : List (String × DataW Unit)} {W : World} {g : Nat}
    (h : laidMet Tryd.prog ((n, .iface "*errors.errorString" (.ptr (.agg [.lit (.string text)]))) :: r) W)
    (hg : Tryd.prog.globalNamed n = some g) (ht : (Tryd.prog.globals[g]?).map (·.type) = some 27) :
    ∃ a : Addr, W.cell? ⟨g, 0, none⟩ = some (.iface 117 (.pointer (some a))) := by
  obtain ⟨a, s, hv, _⟩ := laid_sentinel h hg ht Tryd.underlying27 Tryd.rowES Tryd.underlying117 Tryd.underlying119 rfl rfl Tryd.underlying9 Tryd.cellsES Tryd.cellsString
  exact ⟨a, by simpa using World.var?_cell hg hv 0⟩

theorem pow10_laid : (Rows.laid_internal_strconv_uint64pow10 : DataW Unit) = Lib.tabData .u64 Lib.pow10Tab := by kernel_rfl

theorem env_of_list {W : World} (hsh : W.ShapedOpen Tryd.prog) (hL : laidMet Tryd.prog Rows.listAnyRow.laid W) : ∃ a, EnvL W a := by
  have h3 : laidMet Tryd.prog (("internal/strconv.uint64pow10", Lib.tabData .u64 Lib.pow10Tab) :: Rows.listAnyRow.laid.drop 3) W := by rw [← pow10_laid]; exact hL.tail.tail
  have ht := tabIs_of_head (P := Tryd.prog) (name := "internal/strconv.uint64pow10") (g := 8) (t := 102) (e := 87) (n := 20) (by kernel_rfl) (by kernel_rfl) (by kernel_rfl) (by kernel_rfl) (by kernel_rfl) (by kernel_rfl) h3
  have h5 := hL.tail.tail.tail
  obtain ⟨a1, e1⟩ := sentinel_cell h5 (g := 4) (by kernel_rfl) (by kernel_rfl)
  obtain ⟨a3, e3⟩ := sentinel_cell h5.tail (g := 3) (by kernel_rfl) (by kernel_rfl)
  obtain ⟨a4, e4⟩ := sentinel_cell h5.tail.tail (g := 6) (by kernel_rfl) (by kernel_rfl)
  obtain ⟨a5, e5⟩ := sentinel_cell h5.tail.tail.tail (g := 2) (by kernel_rfl) (by kernel_rfl)
  obtain ⟨a6, e6⟩ := sentinel_cell h5.tail.tail.tail.tail (g := 1) (by kernel_rfl) (by kernel_rfl)
  obtain ⟨a7, e7⟩ := sentinel_cell h5.tail.tail.tail.tail.tail (g := 0) (by kernel_rfl) (by kernel_rfl)
  obtain ⟨a8, e8⟩ := sentinel_cell h5.tail.tail.tail.tail.tail.tail (g := 5) (by kernel_rfl) (by kernel_rfl)
  obtain ⟨aS, eS⟩ := sentinel_cell h5.tail.tail.tail.tail.tail.tail.tail.tail (g := 9) (by kernel_rfl) (by kernel_rfl)
  exact ⟨fun i => if i = 1 then a1 else if i = 3 then a3 else if i = 4 then a4 else if i = 5 then a5 else if i = 6 then a6 else if i = 7 then a7 else a8, ⟨⟨⟨⟨Tryd.maxLenInt W hsh, ⟨_, _, eS⟩, ht⟩, e1, e4⟩, e3⟩, e5, e6, e7, e8⟩⟩

set_option maxRecDepth 100000 in
theorem law_lifted (os : Os) (started : os.Started) (H : Type) (enc : TypeId × Value → H) :
    ReturnsInHanded {} Tryd.checked os 3 .any (fun w args => (Rows.listAnySpec.pre enc Tryd.prog Tryd.f3 [] false w args ∧ laidMetH Tryd.prog Rows.listAnyRow.laid w) ∧ sizedMet enc Tryd.prog Tryd.f3 (OpenSpec.ofChange Rows.listAnySpec) false w args)
      (Rows.listAnySpec.post enc Tryd.prog Tryd.f3 false true false false) := by
  refine returns_and_shaped (C := Tryd.checked) (X := fun w _ => laidMetH Tryd.prog Rows.listAnyRow.laid w) (fun _ _ _ hh h => h.of_heap hh) Tryd.own started (by kernel_rfl) Tryd.func3
    (ChangeSpec.witness_shaped (enc := enc) (C := Tryd.checked) (os := os) (X := fun w _ => laidMetH Tryd.prog Rows.listAnyRow.laid w) false (World.laidAll Tryd.prog os Rows.listAnyRow.laid) #[.slice none 0 0, .int .i64 0] 8 (World.laidAll_os _ _ _)
      (World.shaped_of_ZipB (by kernel_rfl) (by kernel_rfl)) (by kernel_rfl) (by kernel_rfl) (by kernel_rfl)
      (by rw [MakeChecks.laidMetH_plain _ _ _ (by kernel_rfl)]; exact laidMet_laidAll _ (by kernel_rfl) (by kernel_rfl))) ?_
  intro W base args ds gs before hval0 hW hsh hL
  have hval : ∀ (j : Nat) t v, Tryd.f3.params[j]? = some t → args[j]? = some v → Value.okWide Tryd.prog W .any base t v := hval0
  have hW' := hW
  obtain ⟨p, q, hA0, hV, rfl, hfz, _⟩ := hW
  have hA : DataW.TrodAll enc Tryd.prog W 0 (fun _ => true) true Tryd.f3.params.toList args.toList ds p := hA0
  have hpar : Tryd.f3.params = #[22, 3] := by kernel_rfl
  rw [hpar] at hA hval
  obtain ⟨v0, v1, d0, d1, p0, p1, rfl, rfl, rfl, h0, h1⟩ := trodAll_two hA
  obtain ⟨rfl, rfl⟩ := trodVars_none hV
  obtain ⟨n, rfl, rfl, rfl, wn⟩ := open_int Tryd.underlying3 (hval 1 3 v1 rfl rfl) h1
  obtain ⟨q0, l0, c0, rfl⟩ := okWide_slice Tryd.underlying22 (hval 0 22 v0 rfl rfl)
  obtain ⟨f0, hf0⟩ := h0
  obtain ⟨fs, hx, hl, hsz⟩ := open_files hf0
  have ex : l0 = fs.length := by
    obtain ⟨_, _, e⟩ := hx.form
    injection e
  subst ex
  rw [MakeChecks.laidMetH_plain _ _ _ (by kernel_rfl)] at hL
  obtain ⟨a, hE⟩ := env_of_list hsh hL
  refine (listAny_any q0 c0 fs n W a (fun W => EnvL W a) (listK a) hE hx hl hsz).mono fun e W' ⟨he, hb⟩ => ?_
  subst he
  have e1 : Rows.listAnySpec.fn H ([d0, .lit (.int .i64 n)] ++ []) = { results := [.lit (.bool true)], args := [d0, .lit (.int .i64 n)] } := by simp [Rows.listAnySpec]
  have hlt0 : ∀ x ∈ p0, x.block < W.heap.size := DataW.trod_lt _ _ _ _ hf0
  refine ⟨_, rfl, _, _, _, [], p0 ++ [], [], hW', ?_, ?_, ?_, hb.frame _, fun h => by cases h⟩
  · rw [e1]; exact trodAll_mk1 (shut_bool Tryd.underlying4 true)
  · rw [e1]
    exact trodAll_mk2 (Below.trod Tryd.laidOut (by kernel_rfl) (of_decide_eq_true (by kernel_rfl)) ⟨f0, hf0⟩ hb hlt0) (shut_int Tryd.underlying3 wn)
  · rw [e1]; rfl

theorem law_row : Rows.ListAnySaid :=
  OpenClaim.holds_of_wide 3 Tryd.f3 rfl rfl rfl rfl rfl rfl rfl ⟨rfl, rfl, rfl, rfl, rfl⟩ rfl rfl rfl rfl rfl (by kernel_rfl) Tryd.func3 (by kernel_rfl)
    (of_decide_eq_true (by kernel_rfl)) (by unfold Func.isWrapper; rw [if_neg (of_decide_eq_false (by kernel_rfl))]; exact ⟨rfl, rfl⟩)
    (fun os started H enc _ => law_lifted os started H enc)

theorem listAny_holds : Rows.ListAnyCardSaid :=
  Claim7.holds_tied_plain_at .later [] Rows.listAnyCard.laidKinds true Rows.listAnyCard.stood.harness true
    law_row (fun _ h => by cases h) (by kernel_rfl) (fun _ h => by cases h) listAny_row_tie rfl ⟨rfl, rfl⟩ (by kernel_rfl) rfl
    (fun f fn hf hfn => by
      obtain rfl : f = 3 := Option.some.inj ((show Tryd.prog.funcNamed "deedbox/deedboxlaw2.ListAny" = some 3 by kernel_rfl).symm.trans hf) |>.symm
      obtain rfl : fn = Tryd.f3 := (Option.some.inj (Tryd.func3.symm.trans hfn)).symm
      exact ⟨by kernel_rfl, fun j t ht => by
        have hp : Tryd.f3.params = #[22, 3] := by kernel_rfl
        rw [hp] at ht
        have hm : t ∈ [22, 3] := by simpa using Array.mem_of_getElem? ht
        simp only [List.mem_cons, List.not_mem_nil, or_false] at hm
        rcases hm with rfl | rfl
        · exact (show Tryd.prog.wantsStandIn 22 = false by kernel_rfl)
        · exact (show Tryd.prog.wantsStandIn 3 = false by kernel_rfl)⟩)
    (by kernel_rfl)
#print axioms listAny_holds
end Go.Proofs.YtpkoefpdpoikkaaDoor
