/-
  Proved: FileBack returns true for everything known and every list of rows, whatever memory is there, where the listed package-level variables hold what the program's text lays; its arguments read as before.
-/
import Derived.Test.YtpkoefpdpoikkaaGreatDoorFileBWalk
import Derived.Test.YtpkoefpdpoikkaaGreatDoorHanded
import Derived.Test.YtpkoefpdpoikkaaGreatDoorTie
import Derived.Test.YtpkoefpdpoikkaaGreatDoorCards
import Derived.SevenTiedAt
import Derived.OpenShut
namespace Go.Proofs.YtpkoefpdpoikkaaGreatDoor
open Go.ChangeShapes Go.WideShapes Go.ChangeAt Go.RowKit Go.Lib Go.Shelf
open Go.ChangeMaps (open_string shut_string)

def backList : List (String × DataW Unit) := [("math/bits.deBruijn32tab", Rows.laid_math_bits_deBruijn32tab), ("math/bits.deBruijn64tab", Rows.laid_math_bits_deBruijn64tab), ("internal/strconv.uint64pow10", Rows.laid_internal_strconv_uint64pow10), ("unicode/utf8.acceptRanges", Rows.laid_unicode_utf8_acceptRanges), ("deedbox/api.ErrText", Rows.laid_deedbox_api_ErrText), ("deedbox/api.ErrBound", Rows.laid_deedbox_api_ErrBound), ("deedbox/api.ErrShape", Rows.laid_deedbox_api_ErrShape), ("deedbox/api.ErrKind", Rows.laid_deedbox_api_ErrKind), ("deedbox/api.ErrName", Rows.laid_deedbox_api_ErrName), ("deedbox/api.ErrFull", Rows.laid_deedbox_api_ErrFull), ("deedbox/api.ErrOrder", Rows.laid_deedbox_api_ErrOrder), ("deedbox/api.ErrSum", Rows.laid_deedbox_api_ErrSum), ("strconv.ErrRange", Rows.laid_strconv_ErrRange), ("strconv.ErrSyntax", Rows.laid_strconv_ErrSyntax), ("unicode/utf8.first", Rows.laid_unicode_utf8_first)]

theorem fileb_plain : (Rows.fileBackRow.laid.filter fun x => x.2.handleName?.isNone) = backList := by kernel_rfl
theorem fileb_handle : (Rows.fileBackRow.laid.filter fun x => x.2.handleName?.isSome) = [("errors.errorType", Rows.laid_errors_errorType)] := by kernel_rfl

theorem sentinel_cell {n : String} {text : List UInt8} {r : List (String × DataW Unit)} {W : World} {g : Nat}
    (h : laidMet Tryz.prog ((n, .iface "*errors.errorString" (.ptr (.agg [.lit (.string text)]))) :: r) W)
    (hg : Tryz.prog.globalNamed n = some g) (ht : (Tryz.prog.globals[g]?).map (·.type) = some 29) :
    ∃ a : Addr, W.cell? ⟨g, 0, none⟩ = some (.iface 289 (.pointer (some a))) := by
  obtain ⟨a, s, hv, _⟩ := laid_sentinel h hg ht Tryz.underlying29 Tryz.rowES Tryz.underlying289 Tryz.underlying291 rfl rfl Tryz.underlying9 Tryz.cellsES Tryz.cellsString
  exact ⟨a, by simpa using World.var?_cell hg hv 0⟩

theorem env_back {W : World} (hsh : W.ShapedOpen Tryz.prog) (hL : laidMet Tryz.prog backList W) : ∃ a, EnvF W a := by
  have h3 : laidMet Tryz.prog (("internal/strconv.uint64pow10", Lib.tabData .u64 Lib.pow10Tab) :: backList.drop 3) W := by rw [← pow10_laid]; exact hL.tail.tail
  have ht := tabIs_of_head (P := Tryz.prog) (name := "internal/strconv.uint64pow10") (g := 14) (t := 267) (e := 185) (n := 20) (by kernel_rfl) (by kernel_rfl) (by kernel_rfl) (by kernel_rfl) (by kernel_rfl) (by kernel_rfl) h3
  have h5 := hL.tail.tail.tail.tail
  obtain ⟨a0, e0⟩ := sentinel_cell h5 (g := 2) (by kernel_rfl) (by kernel_rfl)
  obtain ⟨a1, e1⟩ := sentinel_cell h5.tail (g := 1) (by kernel_rfl) (by kernel_rfl)
  obtain ⟨a2, e2⟩ := sentinel_cell h5.tail.tail (g := 9) (by kernel_rfl) (by kernel_rfl)
  obtain ⟨a3, e3⟩ := sentinel_cell h5.tail.tail.tail (g := 0) (by kernel_rfl) (by kernel_rfl)
  obtain ⟨a4, e4⟩ := sentinel_cell h5.tail.tail.tail.tail (g := 3) (by kernel_rfl) (by kernel_rfl)
  obtain ⟨a7, e7⟩ := sentinel_cell h5.tail.tail.tail.tail.tail (g := 4) (by kernel_rfl) (by kernel_rfl)
  obtain ⟨a8, e8⟩ := sentinel_cell h5.tail.tail.tail.tail.tail.tail (g := 8) (by kernel_rfl) (by kernel_rfl)
  obtain ⟨a9, e9⟩ := sentinel_cell h5.tail.tail.tail.tail.tail.tail.tail (g := 7) (by kernel_rfl) (by kernel_rfl)
  obtain ⟨aS, eS⟩ := sentinel_cell h5.tail.tail.tail.tail.tail.tail.tail.tail.tail (g := 15) (by kernel_rfl) (by kernel_rfl)
  exact ⟨fun i => if i = 0 then a0 else if i = 1 then a1 else if i = 2 then a2 else if i = 3 then a3 else if i = 4 then a4 else if i = 7 then a7 else if i = 8 then a8 else a9, ⟨⟨e0, e1, e4, Tryz.maxLenInt W hsh, ⟨_, _, eS⟩, ht⟩, e2, e7, e8, e9⟩, e3⟩

noncomputable def backWorld (os : Os) : World := (handed os).layVars Tryz.prog backList
theorem backWorld_os (os : Os) : (backWorld os).os = os := by
  unfold backWorld
  rw [World.layVars_os]
  rfl
theorem backWorld_shaped (os : Os) : (backWorld os).Shaped Tryz.prog := World.shaped_of_ZipB (by kernel_rfl) (by kernel_rfl)
theorem backWorld_met (os : Os) (args : Array Value) : laidMetH Tryz.prog Rows.fileBackRow.laid ((backWorld os).forCall (fun _ _ => 0) ⟨#[], args, []⟩).memory := by
  refine laidMetH_of_parts ?_ ?_
  · rw [fileb_plain]
    have e1 : (backList.filter fun x => (backList.map (·.1)).contains x.1) = backList := List.filter_eq_self.2 fun x hx => List.contains_iff_mem.2 (List.mem_map.2 ⟨x, hx, rfl⟩)
    have e2 : (backList.filter fun x => !(backList.map (·.1)).contains x.1) = [] := List.filter_eq_nil_iff.2 fun x hx => by rw [List.contains_iff_mem.2 (List.mem_map.2 ⟨x, hx, rfl⟩)]; simp
    have h : laidMet Tryz.prog backList (backWorld os) := laidMet_layVars (w0 := handed os) (backList.map (·.1)) [] (by rw [e1]; rfl) (by rw [e1]; kernel_rfl) (by rw [e1]; kernel_rfl) (by rw [e2]; exact LaidIn.none)
    exact h.of_heap (by simp [World.memory, World.forCall, Input.heap])
  · rw [fileb_handle]
    kernel_rfl

set_option maxRecDepth 100000 in
theorem fileb_lifted (os : Os) (started : os.Started) (H : Type) (enc : TypeId × Value → H) :
    ReturnsInHanded {} Tryz.checked os 3 .any (fun w args => (Rows.fileBackSpec.pre enc Tryz.prog Tryz.f3 [] false w args ∧ laidMetH Tryz.prog Rows.fileBackRow.laid w) ∧ sizedMet enc Tryz.prog Tryz.f3 (OpenSpec.ofChange Rows.fileBackSpec) false w args)
      (Rows.fileBackSpec.post enc Tryz.prog Tryz.f3 false true false false) := by
  refine returns_and_shaped (C := Tryz.checked) (X := fun w _ => laidMetH Tryz.prog Rows.fileBackRow.laid w) (fun _ _ _ hh h => h.of_heap hh) Tryz.own started (by kernel_rfl) Tryz.func3
    (ChangeSpec.witness_shaped (enc := enc) (C := Tryz.checked) (os := os) (X := fun w _ => laidMetH Tryz.prog Rows.fileBackRow.laid w) false (backWorld os) #[.agg #[.string ⟨#[]⟩, .string ⟨#[]⟩, .int .i64 0, .int .i64 0, .int .i64 0, .int .i64 0], .slice none 0 0] 8 (backWorld_os os)
      (backWorld_shaped os) (by kernel_rfl) (by kernel_rfl) (by kernel_rfl)
      (backWorld_met os _)) ?_
  intro W base args ds gs before hval0 hW hsh hL
  have hval : ∀ (j : Nat) t v, Tryz.f3.params[j]? = some t → args[j]? = some v → Value.okWide Tryz.prog W .any base t v := hval0
  have hW' := hW
  obtain ⟨p, q, hA0, hV, rfl, hfz, _⟩ := hW
  have hA : DataW.TrodAll enc Tryz.prog W 0 (fun _ => true) true Tryz.f3.params.toList args.toList ds p := hA0
  have hpar : Tryz.f3.params = #[23, 24] := by kernel_rfl
  rw [hpar] at hA hval
  obtain ⟨v0, r0, d0, ds0, p0, q0, ea, rfl, rfl, h0, hA⟩ := trodAll_cons hA
  obtain ⟨v1, r1, d1, ds1, p1, q1, rfl, rfl, rfl, h1, hA⟩ := trodAll_cons hA
  obtain ⟨rfl, rfl, rfl⟩ := trodAll_nil hA
  obtain rfl : args = #[v0, v1] := by
    obtain ⟨l⟩ := args
    simp only at ea
    rw [ea]
  obtain ⟨rfl, rfl⟩ := trodVars_none hV
  obtain ⟨f, rfl, hf1, hf2⟩ := open_file (hval 0 23 v0 rfl rfl) h0
  obtain ⟨f0, hf0⟩ := h0
  obtain ⟨vq, l1, c1, rfl⟩ := okWide_slice Tryz.underlying24 (hval 1 24 v1 rfl rfl)
  obtain ⟨g0, hg0⟩ := h1
  obtain ⟨xs, hx, hlx, _⟩ := open_rows hg0
  have ex : l1 = xs.length := by
    obtain ⟨_, _, e⟩ := hx.form
    injection e
  subst ex
  have hL1 : laidMet Tryz.prog backList W := by
    unfold laidMetH at hL
    rw [fileb_handle, fileb_plain] at hL
    exact hL.1
  obtain ⟨a, hEF⟩ := env_back hsh hL1
  refine (fileBack_any f vq c1 xs W a hEF hf1 hf2 hx hlx).mono fun e W' ⟨he, hb⟩ => ?_
  subst he
  have e1 : Rows.fileBackSpec.fn H ([d0, d1] ++ []) = { results := [.lit (.bool true)], args := [d0, d1] } := by simp [Rows.fileBackSpec]
  have hlt0 : ∀ x ∈ p0, x.block < W.heap.size := DataW.trod_lt _ _ _ _ hf0
  have hlt1 : ∀ x ∈ p1, x.block < W.heap.size := DataW.trod_lt _ _ _ _ hg0
  refine ⟨_, rfl, _, _, _, [], p0 ++ (p1 ++ []), [], hW', ?_, ?_, ?_, hb.frame _, fun h => by cases h⟩
  · rw [e1]; exact trodAll_mk1 (shut_bool Tryz.underlying4 true)
  · rw [e1]
    exact trodAll_cons_mk (Below.trod Tryz.laidOut (by kernel_rfl) (of_decide_eq_true (by kernel_rfl)) ⟨f0, hf0⟩ hb hlt0)
      (trodAll_cons_mk (Below.trod Tryz.laidOut (by kernel_rfl) (of_decide_eq_true (by kernel_rfl)) ⟨g0, hg0⟩ hb hlt1) trodAll_mk0)
  · rw [e1]; rfl

theorem fileb_row : Rows.FileBackSaid :=
  OpenClaim.holds_of_wide 3 Tryz.f3 rfl rfl rfl rfl rfl rfl rfl ⟨rfl, rfl, rfl, rfl, rfl⟩ rfl rfl rfl rfl rfl (by kernel_rfl) Tryz.func3 (by kernel_rfl)
    (of_decide_eq_true (by kernel_rfl)) (by unfold Func.isWrapper; rw [if_neg (of_decide_eq_false (by kernel_rfl))]; exact ⟨rfl, rfl⟩)
    (fun os started H enc _ => fileb_lifted os started H enc)

theorem fileBack_holds : Rows.FileBackCardSaid :=
  Claim7.holds_tied_plain_at .later [] Rows.fileBackCard.laidKinds true Rows.fileBackCard.stood.harness true
    fileb_row (fun _ h => by cases h) (by kernel_rfl) (fun _ h => by cases h) fileBack_row_tie rfl ⟨rfl, rfl⟩ (by kernel_rfl) rfl
    (fun f fn hf hfn => by
      obtain rfl : f = 3 := Option.some.inj ((show Tryz.prog.funcNamed "deedbox/deedboxlaw1.FileBack" = some 3 by kernel_rfl).symm.trans hf) |>.symm
      obtain rfl : fn = Tryz.f3 := (Option.some.inj (Tryz.func3.symm.trans hfn)).symm
      exact ⟨by kernel_rfl, fun j t ht => by
        have hp : Tryz.f3.params = #[23, 24] := by kernel_rfl
        rw [hp] at ht
        have hm : t ∈ [23, 24] := by simpa using Array.mem_of_getElem? ht
        simp only [List.mem_cons, List.not_mem_nil, or_false] at hm
        rcases hm with rfl | rfl
        · exact (show Tryz.prog.wantsStandIn 23 = false by kernel_rfl)
        · exact (show Tryz.prog.wantsStandIn 24 = false by kernel_rfl)⟩)
    (by kernel_rfl)
#print axioms fileBack_holds
end Go.Proofs.YtpkoefpdpoikkaaGreatDoor
