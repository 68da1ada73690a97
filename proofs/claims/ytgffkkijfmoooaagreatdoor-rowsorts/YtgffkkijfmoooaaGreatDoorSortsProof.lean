/-
  Proved: RowSorts returns true for every list of rows, every list of keys and every number, whatever memory is there, where the listed package-level variables hold what the program's text lays; its arguments read as before.
-/
import Derived.Test.YtgffkkijfmoooaaGreatDoorRowOpen
import Derived.Test.YtgffkkijfmoooaaGreatDoorRows
import Derived.Test.YtgffkkijfmoooaaGreatDoorTie
import Derived.Test.YtgffkkijfmoooaaGreatDoorCards
import Derived.Lay
import Derived.LaidLaws
import Derived.Stop.LaidErr
import Derived.Lib.LaidTab
import Derived.MakeChecks
import Derived.Shelf.Vars
import Derived.SevenTiedAt
namespace Go.Proofs.YtgffkkijfmoooaaGreatDoor
open Go.ChangeShapes Go.WideShapes Go.ChangeAt Go.RowKit Go.Lib Go.Shelf

theorem Tryz.own : ownKnob Tryz.prog.godebug = none := by kernel_rfl
theorem Tryz.laidOut : laidOutB Tryz.prog = true := by kernel_rfl
theorem Tryz.cellsES : Tryz.prog.cellsOf 252 = 1 := by kernel_rfl
theorem Tryz.star : "*" ++ "errors.errorString" = "*errors.errorString" := by decide
theorem Tryz.rowES (u : TypeId) (h : Tryz.prog.typeName? 3 u = some "*errors.errorString") : u = 250 :=
  typeName_ptr_named (nm := "errors.errorString") (by rw [Tryz.star]; kernel_rfl) (by kernel_rfl) (by decide) u (by rw [Tryz.star]; exact h)
theorem Tryz.maxLenInt (W : World) (h : W.ShapedOpen Tryz.prog) : ∃ m, W.cell? ⟨13, 0, none⟩ = some (.int .i64 m) :=
  cell_of_shapedOpen_int (zero := #[.int .i64 0]) (t := 3) h (of_decide_eq_true (by kernel_rfl)) (by kernel_rfl) rfl (by kernel_rfl) (by kernel_rfl) Tryz.underlying3

/-- The head of a list of laid sentinels: the variable's one cell. -/
theorem sentinel_cell {n : String} {text : List UInt8} {r : List (String × DataW Unit)} {W : World} {g : Nat}
    (h : laidMet Tryz.prog ((n, .iface "*errors.errorString" (.ptr (.agg [.lit (.string text)]))) :: r) W)
    (hg : Tryz.prog.globalNamed n = some g) (ht : (Tryz.prog.globals[g]?).map (·.type) = some 34) :
    ∃ a : Addr, W.cell? ⟨g, 0, none⟩ = some (.iface 250 (.pointer (some a))) := by
  obtain ⟨a, s, hv, _⟩ := laid_sentinel h hg ht Tryz.underlying34 Tryz.rowES Tryz.underlying250 Tryz.underlying252 rfl rfl Tryz.underlying9 Tryz.cellsES Tryz.cellsString
  exact ⟨a, by simpa using World.var?_cell hg hv 0⟩

theorem pow10_laid : (Rows.laid_internal_strconv_uint64pow10 : DataW Unit) = Lib.tabData .u64 Lib.pow10Tab := by kernel_rfl

/-- What the listed variables of RowSorts give a walk. -/
theorem env_of_sorts {W : World} (hsh : W.ShapedOpen Tryz.prog) (hL : laidMet Tryz.prog Rows.rowSortsRow.laid W) : ∃ a, Env W a := by
  have h3 : laidMet Tryz.prog (("internal/strconv.uint64pow10", Lib.tabData .u64 Lib.pow10Tab) :: Rows.rowSortsRow.laid.drop 3) W := by rw [← pow10_laid]; exact hL.tail.tail
  have ht := tabIs_of_head (P := Tryz.prog) (name := "internal/strconv.uint64pow10") (g := 14) (t := 227) (e := 153) (n := 20) (by kernel_rfl) (by kernel_rfl) (by kernel_rfl) (by kernel_rfl) (by kernel_rfl) (by kernel_rfl) h3
  have h5 := hL.tail.tail.tail.tail
  obtain ⟨a0, e0⟩ := sentinel_cell h5 (g := 2) (by kernel_rfl) (by kernel_rfl)
  obtain ⟨a1, e1⟩ := sentinel_cell h5.tail (g := 1) (by kernel_rfl) (by kernel_rfl)
  obtain ⟨a4, e4⟩ := sentinel_cell h5.tail.tail (g := 0) (by kernel_rfl) (by kernel_rfl)
  obtain ⟨aS, eS⟩ := sentinel_cell h5.tail.tail.tail.tail (g := 17) (by kernel_rfl) (by kernel_rfl)
  exact ⟨fun i => if i = 0 then a0 else if i = 1 then a1 else a4, e0, e1, e4, Tryz.maxLenInt W hsh, ⟨_, _, eS⟩, ht⟩

set_option maxRecDepth 100000 in
theorem sorts_lifted (os : Os) (started : os.Started) (H : Type) (enc : TypeId × Value → H) :
    ReturnsInHanded {} Tryz.checked os 3 .any (fun w args => (Rows.rowSortsSpec.pre enc Tryz.prog Tryz.f3 [] false w args ∧ laidMetH Tryz.prog Rows.rowSortsRow.laid w) ∧ sizedMet enc Tryz.prog Tryz.f3 (OpenSpec.ofChange Rows.rowSortsSpec) false w args)
      (Rows.rowSortsSpec.post enc Tryz.prog Tryz.f3 false true false false) := by
  refine returns_and_shaped (C := Tryz.checked) (X := fun w _ => laidMetH Tryz.prog Rows.rowSortsRow.laid w) (fun _ _ _ hh h => h.of_heap hh) Tryz.own started (by kernel_rfl) Tryz.func3
    (ChangeSpec.witness_shaped (enc := enc) (C := Tryz.checked) (os := os) (X := fun w _ => laidMetH Tryz.prog Rows.rowSortsRow.laid w) false (World.laidAll Tryz.prog os Rows.rowSortsRow.laid) #[.slice none 0 0, .slice none 0 0, .int .i64 0] 8 (World.laidAll_os _ _ _)
      (World.shaped_of_ZipB (by kernel_rfl) (by kernel_rfl)) (by kernel_rfl) (by kernel_rfl) (by kernel_rfl)
      (by rw [MakeChecks.laidMetH_plain _ _ _ (by kernel_rfl)]; exact laidMet_laidAll _ (by kernel_rfl) (by kernel_rfl))) ?_
  intro W base args ds gs before hval0 hW hsh hL
  have hval : ∀ (j : Nat) t v, Tryz.f3.params[j]? = some t → args[j]? = some v → Value.okWide Tryz.prog W .any base t v := hval0
  have hW' := hW
  obtain ⟨p, q, hA0, hV, rfl, hfz, _⟩ := hW
  have hA : DataW.TrodAll enc Tryz.prog W 0 (fun _ => true) true Tryz.f3.params.toList args.toList ds p := hA0
  have hpar : Tryz.f3.params = #[22, 23, 3] := by kernel_rfl
  rw [hpar] at hA hval
  obtain ⟨v0, v1, v2, d0, d1, d2, p0, p1, p2, rfl, rfl, rfl, h0, h1, h2⟩ := trodAll_three hA
  obtain ⟨rfl, rfl⟩ := trodVars_none hV
  obtain ⟨n, rfl, rfl, rfl, wn⟩ := open_int Tryz.underlying3 (hval 2 3 v2 rfl rfl) h2
  obtain ⟨q0, l0, c0, rfl⟩ := okWide_slice Tryz.underlying22 (hval 0 22 v0 rfl rfl)
  obtain ⟨q1, l1, c1, rfl⟩ := okWide_slice Tryz.underlying23 (hval 1 23 v1 rfl rfl)
  obtain ⟨f0, hf0⟩ := h0
  obtain ⟨f1, hf1⟩ := h1
  obtain ⟨xs, hx, hlx, hok⟩ := open_rows hf0
  obtain ⟨zs, hz, hlz⟩ := open_keys hf1
  have ex : l0 = xs.length := by
    obtain ⟨_, _, e⟩ := hx.form
    injection e
  have ez : l1 = zs.length := by
    obtain ⟨_, _, e⟩ := hz.form
    injection e
  subst ex ez
  rw [MakeChecks.laidMetH_plain _ _ _ (by kernel_rfl)] at hL
  obtain ⟨a, hE⟩ := env_of_sorts hsh hL
  have hwn := wf_i64 wn
  refine (rowSorts_any q0 q1 c0 c1 xs zs n W a hE hx hz hlx hlz hok hwn.1 hwn.2).mono fun e W' ⟨he, hb⟩ => ?_
  subst he
  have e1 : Rows.rowSortsSpec.fn H ([d0, d1, .lit (.int .i64 n)] ++ []) = { results := [.lit (.bool true)], args := [d0, d1, .lit (.int .i64 n)] } := by simp [Rows.rowSortsSpec]
  have hlt0 : ∀ x ∈ p0, x.block < W.heap.size := DataW.trod_lt _ _ _ _ hf0
  have hlt1 : ∀ x ∈ p1, x.block < W.heap.size := DataW.trod_lt _ _ _ _ hf1
  refine ⟨_, rfl, _, _, _, [], p0 ++ (p1 ++ []), [], hW', ?_, ?_, ?_, hb.frame _, fun h => by cases h⟩
  · rw [e1]; exact trodAll_mk1 (shut_bool Tryz.underlying4 true)
  · rw [e1]
    exact trodAll_mk3 (Below.trod Tryz.laidOut (by kernel_rfl) (of_decide_eq_true (by kernel_rfl)) ⟨f0, hf0⟩ hb hlt0) (Below.trod Tryz.laidOut (by kernel_rfl) (of_decide_eq_true (by kernel_rfl)) ⟨f1, hf1⟩ hb hlt1) (shut_int Tryz.underlying3 wn)
  · rw [e1]; rfl

theorem sorts_row : Rows.RowSortsSaid :=
  OpenClaim.holds_of_wide 3 Tryz.f3 rfl rfl rfl rfl rfl rfl rfl ⟨rfl, rfl, rfl, rfl, rfl⟩ rfl rfl rfl rfl rfl (by kernel_rfl) Tryz.func3 (by kernel_rfl)
    (of_decide_eq_true (by kernel_rfl)) (by unfold Func.isWrapper; rw [if_neg (of_decide_eq_false (by kernel_rfl))]; exact ⟨rfl, rfl⟩)
    (fun os started H enc _ => sorts_lifted os started H enc)

theorem rowSorts_holds : Rows.RowSortsCardSaid :=
  Claim7.holds_tied_plain_at .later [] Rows.rowSortsCard.laidKinds true Rows.rowSortsCard.stood.harness true
    sorts_row (fun _ h => by cases h) (by kernel_rfl) (fun _ h => by cases h) rowSorts_row_tie rfl ⟨rfl, rfl⟩ (by kernel_rfl) rfl
    (fun f fn hf hfn => by
      obtain rfl : f = 3 := Option.some.inj ((show Tryz.prog.funcNamed "deedbox/deedboxlaw1.RowSorts" = some 3 by kernel_rfl).symm.trans hf) |>.symm
      obtain rfl : fn = Tryz.f3 := (Option.some.inj (Tryz.func3.symm.trans hfn)).symm
      exact ⟨by kernel_rfl, fun j t ht => by
        have hp : Tryz.f3.params = #[22, 23, 3] := by kernel_rfl
        rw [hp] at ht
        have hm : t ∈ [22, 23, 3] := by simpa using Array.mem_of_getElem? ht
        simp only [List.mem_cons, List.not_mem_nil, or_false] at hm
        rcases hm with rfl | rfl | rfl
        · exact (show Tryz.prog.wantsStandIn 22 = false by kernel_rfl)
        · exact (show Tryz.prog.wantsStandIn 23 = false by kernel_rfl)
        · exact (show Tryz.prog.wantsStandIn 3 = false by kernel_rfl)⟩)
    (by kernel_rfl)
#print axioms rowSorts_holds
end Go.Proofs.YtgffkkijfmoooaaGreatDoor
