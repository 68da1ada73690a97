/-
  Proved: ListBack returns true for every list of files, every file and every key, whatever memory is there, where the listed package-level variables hold what the program's text lays; its arguments read as before.
-/
import Derived.Test.YtpkoefpdpoikkaaGreatDoorListAll
import Derived.Test.YtpkoefpdpoikkaaGreatDoorListOpen
import Derived.Test.YtpkoefpdpoikkaaGreatDoorRows
import Derived.Test.YtpkoefpdpoikkaaGreatDoorTie
import Derived.Test.YtpkoefpdpoikkaaGreatDoorCards
import Derived.Lay
import Derived.LaidLaws
import Derived.Stop.LaidErr
import Derived.MakeChecks
import Derived.Shelf.Vars
import Derived.SevenTiedAt
import Derived.OpenShut
namespace Go.Proofs.YtpkoefpdpoikkaaGreatDoor
open Go.ChangeShapes Go.WideShapes Go.ChangeAt Go.RowKit Go.Lib Go.Shelf

theorem Tryz.own : ownKnob Tryz.prog.godebug = none := by kernel_rfl
theorem Tryz.laidOut : laidOutB Tryz.prog = true := by kernel_rfl
theorem Tryz.cellsES : Tryz.prog.cellsOf 291 = 1 := by kernel_rfl
theorem Tryz.star : "*" ++ "errors.errorString" = "*errors.errorString" := by decide
theorem Tryz.rowES (u : TypeId) (h : Tryz.prog.typeName? 3 u = some "*errors.errorString") : u = 289 :=
  typeName_ptr_named (nm := "errors.errorString") (by rw [Tryz.star]; kernel_rfl) (by kernel_rfl) (by decide) u (by rw [Tryz.star]; exact h)
theorem Tryz.maxLenInt (W : World) (h : W.ShapedOpen Tryz.prog) : ∃ m, W.cell? ⟨13, 0, none⟩ = some (.int .i64 m) :=
  cell_of_shapedOpen_int (zero := #[.int .i64 0]) (t := 3) h (of_decide_eq_true (by kernel_rfl)) (by kernel_rfl) rfl (by kernel_rfl) (by kernel_rfl) Tryz.underlying3

theorem sentinel_cell {n : String} {text : List UInt8} {r : List (String × DataW Unit)} {W : World} {g : Nat}
    (h : laidMet Tryz.prog ((n, .iface "*errors.errorString" (.ptr (.agg [.lit (.string text)]))) :: r) W)
    (hg : Tryz.prog.globalNamed n = some g) (ht : (Tryz.prog.globals[g]?).map (·.type) = some 29) :
    ∃ a : Addr, W.cell? ⟨g, 0, none⟩ = some (.iface 289 (.pointer (some a))) := by
  obtain ⟨a, s, hv, _⟩ := laid_sentinel h hg ht Tryz.underlying29 Tryz.rowES Tryz.underlying289 Tryz.underlying291 rfl rfl Tryz.underlying9 Tryz.cellsES Tryz.cellsString
  exact ⟨a, by simpa using World.var?_cell hg hv 0⟩

theorem pow10_laid : (Rows.laid_internal_strconv_uint64pow10 : DataW Unit) = Lib.tabData .u64 Lib.pow10Tab := by kernel_rfl

theorem env_of_list {W : World} (hsh : W.ShapedOpen Tryz.prog) (hL : laidMet Tryz.prog Rows.listBackRow.laid W) : ∃ a, EnvT W a := by
  have h3 : laidMet Tryz.prog (("internal/strconv.uint64pow10", Lib.tabData .u64 Lib.pow10Tab) :: Rows.listBackRow.laid.drop 3) W := by rw [← pow10_laid]; exact hL.tail.tail
  have ht := tabIs_of_head (P := Tryz.prog) (name := "internal/strconv.uint64pow10") (g := 14) (t := 267) (e := 185) (n := 20) (by kernel_rfl) (by kernel_rfl) (by kernel_rfl) (by kernel_rfl) (by kernel_rfl) (by kernel_rfl) h3
  have h5 := hL.tail.tail.tail.tail
  obtain ⟨a0, e0⟩ := sentinel_cell h5 (g := 2) (by kernel_rfl) (by kernel_rfl)
  obtain ⟨a1, e1⟩ := sentinel_cell h5.tail (g := 1) (by kernel_rfl) (by kernel_rfl)
  obtain ⟨a3, e3⟩ := sentinel_cell h5.tail.tail (g := 0) (by kernel_rfl) (by kernel_rfl)
  obtain ⟨a4, e4⟩ := sentinel_cell h5.tail.tail.tail (g := 3) (by kernel_rfl) (by kernel_rfl)
  obtain ⟨a5, e5⟩ := sentinel_cell h5.tail.tail.tail.tail (g := 6) (by kernel_rfl) (by kernel_rfl)
  obtain ⟨a6, e6⟩ := sentinel_cell h5.tail.tail.tail.tail.tail (g := 5) (by kernel_rfl) (by kernel_rfl)
  obtain ⟨a7, e7⟩ := sentinel_cell h5.tail.tail.tail.tail.tail.tail (g := 4) (by kernel_rfl) (by kernel_rfl)
  obtain ⟨a8, e8⟩ := sentinel_cell h5.tail.tail.tail.tail.tail.tail.tail (g := 8) (by kernel_rfl) (by kernel_rfl)
  obtain ⟨aS, eS⟩ := sentinel_cell h5.tail.tail.tail.tail.tail.tail.tail.tail.tail (g := 15) (by kernel_rfl) (by kernel_rfl)
  exact ⟨fun i => if i = 0 then a0 else if i = 1 then a1 else if i = 3 then a3 else if i = 4 then a4 else if i = 5 then a5 else if i = 6 then a6 else if i = 7 then a7 else a8, ⟨⟨⟨⟨⟨Tryz.maxLenInt W hsh, ⟨_, _, eS⟩, ht⟩, e1, e4⟩, e3⟩, e5, e6, e7, e8⟩, e0⟩⟩

set_option maxRecDepth 100000 in
theorem law_lifted (os : Os) (started : os.Started) (H : Type) (enc : TypeId × Value → H) :
    ReturnsInHanded {} Tryz.checked os 5 .any (fun w args => (Rows.listBackSpec.pre enc Tryz.prog Tryz.f5 [] false w args ∧ laidMetH Tryz.prog Rows.listBackRow.laid w) ∧ sizedMet enc Tryz.prog Tryz.f5 (OpenSpec.ofChange Rows.listBackSpec) false w args)
      (Rows.listBackSpec.post enc Tryz.prog Tryz.f5 false true false false) := by
  refine returns_and_shaped (C := Tryz.checked) (X := fun w _ => laidMetH Tryz.prog Rows.listBackRow.laid w) (fun _ _ _ hh h => h.of_heap hh) Tryz.own started (by kernel_rfl) Tryz.func5
    (ChangeSpec.witness_shaped (enc := enc) (C := Tryz.checked) (os := os) (X := fun w _ => laidMetH Tryz.prog Rows.listBackRow.laid w) false (World.laidAll Tryz.prog os Rows.listBackRow.laid) #[.slice none 0 0, .agg #[.string ⟨#[]⟩, .string ⟨#[]⟩, .int .i64 0, .int .i64 0, .int .i64 0, .int .i64 0], .int .i64 0] 8 (World.laidAll_os _ _ _)
      (World.shaped_of_ZipB (by kernel_rfl) (by kernel_rfl)) (by kernel_rfl) (by kernel_rfl) (by kernel_rfl)
      (by rw [MakeChecks.laidMetH_plain _ _ _ (by kernel_rfl)]; exact laidMet_laidAll _ (by kernel_rfl) (by kernel_rfl))) ?_
  intro W base args ds gs before hval0 hW hsh hL
  have hval : ∀ (j : Nat) t v, Tryz.f5.params[j]? = some t → args[j]? = some v → Value.okWide Tryz.prog W .any base t v := hval0
  have hW' := hW
  obtain ⟨p, q, hA0, hV, rfl, hfz, _⟩ := hW
  have hA : DataW.TrodAll enc Tryz.prog W 0 (fun _ => true) true Tryz.f5.params.toList args.toList ds p := hA0
  have hpar : Tryz.f5.params = #[50, 23, 3] := by kernel_rfl
  rw [hpar] at hA hval
  obtain ⟨v0, v1, v2, d0, d1, d2, p0, p1, p2, rfl, rfl, rfl, h0, h1, h2⟩ := trodAll_three hA
  obtain ⟨rfl, rfl⟩ := trodVars_none hV
  obtain ⟨n, rfl, rfl, rfl, wn⟩ := open_int Tryz.underlying3 (hval 2 3 v2 rfl rfl) h2
  obtain ⟨f, rfl, hf1, hf2⟩ := open_file (hval 1 23 v1 rfl rfl) h1
  obtain ⟨g0, hg0⟩ := h1
  obtain ⟨q0, l0, c0, rfl⟩ := okWide_slice Tryz.underlying50 (hval 0 50 v0 rfl rfl)
  obtain ⟨f0, hf0⟩ := h0
  obtain ⟨fs, hx, hl, hsz⟩ := open_files hf0
  have ex : l0 = fs.length := by
    obtain ⟨_, _, e⟩ := hx.form
    injection e
  subst ex
  rw [MakeChecks.laidMetH_plain _ _ _ (by kernel_rfl)] at hL
  obtain ⟨a, hE⟩ := env_of_list hsh hL
  refine (listBack_any q0 c0 fs f n W a (fun W => EnvT W a) (listR a) hE hx hl hsz ⟨hf1, hf2⟩).mono fun e W' ⟨he, hb⟩ => ?_
  subst he
  have e1 : Rows.listBackSpec.fn H ([d0, d1, .lit (.int .i64 n)] ++ []) = { results := [.lit (.bool true)], args := [d0, d1, .lit (.int .i64 n)] } := by simp [Rows.listBackSpec]
  have hlt0 : ∀ x ∈ p0, x.block < W.heap.size := DataW.trod_lt _ _ _ _ hf0
  have hlt1 : ∀ x ∈ p1, x.block < W.heap.size := DataW.trod_lt _ _ _ _ hg0
  refine ⟨_, rfl, _, _, _, [], p0 ++ (p1 ++ []), [], hW', ?_, ?_, ?_, hb.frame _, fun h => by cases h⟩
  · rw [e1]; exact trodAll_mk1 (shut_bool Tryz.underlying4 true)
  · rw [e1]
    exact trodAll_mk3 (Below.trod Tryz.laidOut (by kernel_rfl) (of_decide_eq_true (by kernel_rfl)) ⟨f0, hf0⟩ hb hlt0) (Below.trod Tryz.laidOut (by kernel_rfl) (of_decide_eq_true (by kernel_rfl)) ⟨g0, hg0⟩ hb hlt1) (shut_int Tryz.underlying3 wn)
  · rw [e1]; rfl

theorem law_row : Rows.ListBackSaid :=
  OpenClaim.holds_of_wide 5 Tryz.f5 rfl rfl rfl rfl rfl rfl rfl ⟨rfl, rfl, rfl, rfl, rfl⟩ rfl rfl rfl rfl rfl (by kernel_rfl) Tryz.func5 (by kernel_rfl)
    (of_decide_eq_true (by kernel_rfl)) (by unfold Func.isWrapper; rw [if_neg (of_decide_eq_false (by kernel_rfl))]; exact ⟨rfl, rfl⟩)
    (fun os started H enc _ => law_lifted os started H enc)

theorem listBack_holds : Rows.ListBackCardSaid :=
  Claim7.holds_tied_plain_at .later [] Rows.listBackCard.laidKinds true Rows.listBackCard.stood.harness true
    law_row (fun _ h => by cases h) (by kernel_rfl) (fun _ h => by cases h) listBack_row_tie rfl ⟨rfl, rfl⟩ (by kernel_rfl) rfl
    (fun f fn hf hfn => by
      obtain rfl : f = 5 := Option.some.inj ((show Tryz.prog.funcNamed "deedbox/deedboxlaw2.ListBack" = some 5 by kernel_rfl).symm.trans hf) |>.symm
      obtain rfl : fn = Tryz.f5 := (Option.some.inj (Tryz.func5.symm.trans hfn)).symm
      exact ⟨by kernel_rfl, fun j t ht => by
        have hp : Tryz.f5.params = #[50, 23, 3] := by kernel_rfl
        rw [hp] at ht
        have hm : t ∈ [50, 23, 3] := by simpa using Array.mem_of_getElem? ht
        simp only [List.mem_cons, List.not_mem_nil, or_false] at hm
        rcases hm with rfl | rfl | rfl
        · exact (show Tryz.prog.wantsStandIn 50 = false by kernel_rfl)
        · exact (show Tryz.prog.wantsStandIn 23 = false by kernel_rfl)
        · exact (show Tryz.prog.wantsStandIn 3 = false by kernel_rfl)⟩)
    (by kernel_rfl)
#print axioms listBack_holds
end Go.Proofs.YtpkoefpdpoikkaaGreatDoor
