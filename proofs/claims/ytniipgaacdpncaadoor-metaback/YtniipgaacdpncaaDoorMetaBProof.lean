/-
  Proved: MetaBack returns true for all lists of whole numbers and every number, whatever memory is there, where the listed package-level variables hold what the program's text lays; its arguments read as before.
-/
import Derived.Test.YtniipgaacdpncaaDoorMetaAll
import Derived.Test.YtniipgaacdpncaaDoorMetaBWalk
import Derived.Test.YtniipgaacdpncaaDoorRowOpen
import Derived.Test.YtniipgaacdpncaaDoorRows
import Derived.Test.YtniipgaacdpncaaDoorTie
import Derived.Test.YtniipgaacdpncaaDoorCards
import Derived.Lay
import Derived.LaidLaws
import Derived.Stop.LaidErr
import Derived.Lib.LaidTab
import Derived.MakeChecks
import Derived.Shelf.Vars
import Derived.SevenTiedAt
import Derived.OpenShut
namespace Go.Proofs.YtniipgaacdpncaaDoor
open Go.ChangeShapes Go.WideShapes Go.ChangeAt Go.RowKit Go.Lib Go.Shelf
open Go.ChangeMaps (open_string shut_string)

theorem Tryd.own : ownKnob Tryd.prog.godebug = none := by kernel_rfl
theorem Tryd.laidOut : laidOutB Tryd.prog = true := by kernel_rfl
theorem Tryd.cellsES : Tryd.prog.cellsOf 116 = 1 := by kernel_rfl
theorem Tryd.star : "*" ++ "errors.errorString" = "*errors.errorString" := by decide
theorem Tryd.rowES (u : TypeId) (h : Tryd.prog.typeName? 3 u = some "*errors.errorString") : u = 114 :=
  typeName_ptr_named (nm := "errors.errorString") (by rw [Tryd.star]; kernel_rfl) (by kernel_rfl) (by decide) u (by rw [Tryd.star]; exact h)
theorem Tryd.maxLenInt (W : World) (h : W.ShapedOpen Tryd.prog) : ∃ m, W.cell? ⟨6, 0, none⟩ = some (.int .i64 m) :=
  cell_of_shapedOpen_int (zero := #[.int .i64 0]) (t := 3) h (of_decide_eq_true (by kernel_rfl)) (by kernel_rfl) rfl (by kernel_rfl) (by kernel_rfl) Tryd.underlying3

/-- The head of a list of laid sentinels: the variable's one cell. -/
theorem sentinel_cell {n : String} {text : List UInt8} {r : List (String × DataW Unit)} {W : World} {g : Nat}
    (h : laidMet Tryd.prog ((n, .iface "*errors.errorString" (.ptr (.agg [.lit (.string text)]))) :: r) W)
    (hg : Tryd.prog.globalNamed n = some g) (ht : (Tryd.prog.globals[g]?).map (·.type) = some 25) :
    ∃ a : Addr, W.cell? ⟨g, 0, none⟩ = some (.iface 114 (.pointer (some a))) := by
  obtain ⟨a, s, hv, _⟩ := laid_sentinel h hg ht Tryd.underlying25 Tryd.rowES Tryd.underlying114 Tryd.underlying116 rfl rfl Tryd.underlying9 Tryd.cellsES Tryd.cellsString
  exact ⟨a, by simpa using World.var?_cell hg hv 0⟩

theorem pow10_laid : (Rows.laid_internal_strconv_uint64pow10 : DataW Unit) = Lib.tabData .u64 Lib.pow10Tab := by kernel_rfl

/-- What the listed variables give a walk. -/
theorem env_of_meta {W : World} (hsh : W.ShapedOpen Tryd.prog) (hL : laidMet Tryd.prog Rows.metaBackRow.laid W) : ∃ a, EnvM W a := by
  have h3 : laidMet Tryd.prog (("internal/strconv.uint64pow10", Lib.tabData .u64 Lib.pow10Tab) :: Rows.metaBackRow.laid.drop 3) W := by rw [← pow10_laid]; exact hL.tail.tail
  have ht := tabIs_of_head (P := Tryd.prog) (name := "internal/strconv.uint64pow10") (g := 5) (t := 86) (e := 74) (n := 20) (by kernel_rfl) (by kernel_rfl) (by kernel_rfl) (by kernel_rfl) (by kernel_rfl) (by kernel_rfl) h3
  have h5 := hL.tail.tail.tail.tail
  obtain ⟨b0, e0⟩ := sentinel_cell h5 (g := 0) (by kernel_rfl) (by kernel_rfl)
  obtain ⟨b1, e1⟩ := sentinel_cell h5.tail (g := 3) (by kernel_rfl) (by kernel_rfl)
  obtain ⟨b5, e5⟩ := sentinel_cell h5.tail.tail (g := 1) (by kernel_rfl) (by kernel_rfl)
  obtain ⟨b7, e7⟩ := sentinel_cell h5.tail.tail.tail (g := 2) (by kernel_rfl) (by kernel_rfl)
  obtain ⟨b8, e8⟩ := sentinel_cell h5.tail.tail.tail.tail (g := 4) (by kernel_rfl) (by kernel_rfl)
  obtain ⟨aS, eS⟩ := sentinel_cell h5.tail.tail.tail.tail.tail.tail (g := 9) (by kernel_rfl) (by kernel_rfl)
  exact ⟨fun i => if i = 0 then b0 else if i = 1 then b1 else if i = 5 then b5 else if i = 7 then b7 else b8, ⟨⟨Tryd.maxLenInt W hsh, ⟨_, _, eS⟩, ht⟩, e0, e1, e5, e7, e8⟩⟩

/-- A list of whole numbers that came in; what points nowhere has no room. -/
theorem open_ints {H : Type} {enc : TypeId × Value → H} {W : World} {base : Nat} {spare : Nat → Bool} {held : Bool} {fuel : Nat} {q : Option Addr} {l c : Nat} {x : DataW H × List MemPlace} (h : DataW.trod enc Tryd.prog W base spare held fuel 22 [.slice q l c] = some x) :
    ∃ zs : List Int, KeysAt W (.slice q zs.length c) zs ∧ (q = none → c = 0) ∧ l = zs.length ∧ zs.length ≤ maxLen := by
  obtain ⟨zs, hk, hl⟩ := open_keys h
  have ex : l = zs.length := by
    rcases hk with ⟨p, c', e, e2⟩ | ⟨b, o, cap, e, _⟩
    · injection e with _ e1
      rw [e2]; exact e1
    · injection e
  subst ex
  refine ⟨zs, hk, fun e => ?_, rfl, hl⟩
  subst e
  rcases Go.Deep.open_slice1 Tryd.underlying22 Tryd.cellsInt h with ⟨e, _⟩ | ⟨a, len, cap, m, n, V, D, Pl, e, _⟩
  · simp only [List.cons.injEq, and_true, Value.slice.injEq, true_and] at e
    exact e.2
  · simp at e

set_option maxRecDepth 100000 in
theorem metab_lifted (os : Os) (started : os.Started) (H : Type) (enc : TypeId × Value → H) :
    ReturnsInHanded {} Tryd.checked os 3 .any (fun w args => (Rows.metaBackSpec.pre enc Tryd.prog Tryd.f3 [] false w args ∧ laidMetH Tryd.prog Rows.metaBackRow.laid w) ∧ sizedMet enc Tryd.prog Tryd.f3 (OpenSpec.ofChange Rows.metaBackSpec) false w args)
      (Rows.metaBackSpec.post enc Tryd.prog Tryd.f3 false true false false) := by
  refine returns_and_shaped (C := Tryd.checked) (X := fun w _ => laidMetH Tryd.prog Rows.metaBackRow.laid w) (fun _ _ _ hh h => h.of_heap hh) Tryd.own started (by kernel_rfl) Tryd.func3
    (ChangeSpec.witness_shaped (enc := enc) (C := Tryd.checked) (os := os) (X := fun w _ => laidMetH Tryd.prog Rows.metaBackRow.laid w) false (World.laidAll Tryd.prog os Rows.metaBackRow.laid) #[.slice none 0 0, .slice none 0 0, .int .i64 0] 8 (World.laidAll_os _ _ _)
      (World.shaped_of_ZipB (by kernel_rfl) (by kernel_rfl)) (by kernel_rfl) (by kernel_rfl) (by kernel_rfl)
      (by rw [MakeChecks.laidMetH_plain _ _ _ (by kernel_rfl)]; exact laidMet_laidAll _ (by kernel_rfl) (by kernel_rfl))) ?_
  intro W base args ds gs before hval0 hW hsh hL
  have hval : ∀ (j : Nat) t v, Tryd.f3.params[j]? = some t → args[j]? = some v → Value.okWide Tryd.prog W .any base t v := hval0
  have hW' := hW
  obtain ⟨p, q, hA0, hV, rfl, hfz, _⟩ := hW
  have hA : DataW.TrodAll enc Tryd.prog W 0 (fun _ => true) true Tryd.f3.params.toList args.toList ds p := hA0
  have hpar : Tryd.f3.params = #[22, 22, 3] := by kernel_rfl
  rw [hpar] at hA hval
  obtain ⟨v0, r0, d0, ds0, p0, q0, ea, rfl, rfl, h0, hA⟩ := trodAll_cons hA
  obtain ⟨v1, r1, d1, ds1, p1, q1, rfl, rfl, rfl, h1, hA⟩ := trodAll_cons hA
  obtain ⟨v2, r2, d2, ds2, p2, q2, rfl, rfl, rfl, h2, hA⟩ := trodAll_cons hA
  obtain ⟨rfl, rfl, rfl⟩ := trodAll_nil hA
  obtain rfl : args = #[v0, v1, v2] := by
    obtain ⟨l⟩ := args
    simp only at ea
    rw [ea]
  obtain ⟨rfl, rfl⟩ := trodVars_none hV
  obtain ⟨n, rfl, rfl, rfl, wn⟩ := open_int Tryd.underlying3 (hval 2 3 v2 rfl rfl) h2
  obtain ⟨a0, l0, c0, rfl⟩ := okWide_slice Tryd.underlying22 (hval 0 22 v0 rfl rfl)
  obtain ⟨a1, l1, c1, rfl⟩ := okWide_slice Tryd.underlying22 (hval 1 22 v1 rfl rfl)
  obtain ⟨f0, hf0⟩ := h0
  obtain ⟨f1, hf1⟩ := h1
  obtain ⟨zs, hz, hq0, rfl, hlz⟩ := open_ints hf0
  obtain ⟨ys, hy, hq1, rfl, hly⟩ := open_ints hf1
  rw [MakeChecks.laidMetH_plain _ _ _ (by kernel_rfl)] at hL
  obtain ⟨a, hEM⟩ := env_of_meta hsh hL
  refine (metaBack_any a0 c0 zs a1 c1 ys n W a (fun W => EnvM W a) (metaK a) hEM hz hq0 hy hq1 hlz hly).mono fun e W' ⟨he, hb⟩ => ?_
  subst he
  have e1 : Rows.metaBackSpec.fn H ([d0, d1, .lit (.int .i64 n)] ++ []) = { results := [.lit (.bool true)], args := [d0, d1, .lit (.int .i64 n)] } := by simp [Rows.metaBackSpec]
  have hlt0 : ∀ x ∈ p0, x.block < W.heap.size := DataW.trod_lt _ _ _ _ hf0
  have hlt1 : ∀ x ∈ p1, x.block < W.heap.size := DataW.trod_lt _ _ _ _ hf1
  refine ⟨_, rfl, _, _, _, [], p0 ++ (p1 ++ ([] ++ [])), [], hW', ?_, ?_, ?_, hb.frame _, fun h => by cases h⟩
  · rw [e1]; exact trodAll_mk1 (shut_bool Tryd.underlying4 true)
  · rw [e1]
    exact trodAll_cons_mk (Below.trod Tryd.laidOut (by kernel_rfl) (of_decide_eq_true (by kernel_rfl)) ⟨f0, hf0⟩ hb hlt0)
      (trodAll_cons_mk (Below.trod Tryd.laidOut (by kernel_rfl) (of_decide_eq_true (by kernel_rfl)) ⟨f1, hf1⟩ hb hlt1)
        (trodAll_cons_mk (shut_int Tryd.underlying3 wn) trodAll_mk0))
  · rw [e1]; rfl

theorem metab_row : Rows.MetaBackSaid :=
  OpenClaim.holds_of_wide 3 Tryd.f3 rfl rfl rfl rfl rfl rfl rfl ⟨rfl, rfl, rfl, rfl, rfl⟩ rfl rfl rfl rfl rfl (by kernel_rfl) Tryd.func3 (by kernel_rfl)
    (of_decide_eq_true (by kernel_rfl)) (by unfold Func.isWrapper; rw [if_neg (of_decide_eq_false (by kernel_rfl))]; exact ⟨rfl, rfl⟩)
    (fun os started H enc _ => metab_lifted os started H enc)

theorem metaBack_holds : Rows.MetaBackCardSaid :=
  Claim7.holds_tied_plain_at .later [] Rows.metaBackCard.laidKinds true Rows.metaBackCard.stood.harness true
    metab_row (fun _ h => by cases h) (by kernel_rfl) (fun _ h => by cases h) metaBack_row_tie rfl ⟨rfl, rfl⟩ (by kernel_rfl) rfl
    (fun f fn hf hfn => by
      obtain rfl : f = 3 := Option.some.inj ((show Tryd.prog.funcNamed "deedbox/deedboxlaw2.MetaBack" = some 3 by kernel_rfl).symm.trans hf) |>.symm
      obtain rfl : fn = Tryd.f3 := (Option.some.inj (Tryd.func3.symm.trans hfn)).symm
      exact ⟨by kernel_rfl, fun j t ht => by
        have hp : Tryd.f3.params = #[22, 22, 3] := by kernel_rfl
        rw [hp] at ht
        have hm : t ∈ [22, 22, 3] := by simpa using Array.mem_of_getElem? ht
        simp only [List.mem_cons, List.not_mem_nil, or_false] at hm
        rcases hm with rfl | rfl | rfl
        · exact (show Tryd.prog.wantsStandIn 22 = false by kernel_rfl)
        · exact (show Tryd.prog.wantsStandIn 22 = false by kernel_rfl)
        · exact (show Tryd.prog.wantsStandIn 3 = false by kernel_rfl)⟩)
    (by kernel_rfl)
#print axioms metaBack_holds
end Go.Proofs.YtniipgaacdpncaaDoor
