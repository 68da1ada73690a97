/-
  Proved: DataBack returns true for every list of rows, every place and every byte, whatever memory is there, where the listed package-level variables hold what the program's text lays; its arguments read as before.
-/
import Derived.Test.YtgffkkijfmoooaaGreatDoorBackWalk
import Derived.Test.YtgffkkijfmoooaaGreatDoorRowOpen
import Derived.Test.YtgffkkijfmoooaaGreatDoorRows
import Derived.Test.YtgffkkijfmoooaaGreatDoorTie
import Derived.Test.YtgffkkijfmoooaaGreatDoorCards
import Derived.Lay
import Derived.LaidLaws
import Derived.Stop.LaidErr
import Derived.Lib.LaidTab
import Derived.MakeChecks
import Derived.Shelf.Vars
import Derived.SevenTiedAt
namespace Go.Proofs.YtgffkkijfmoooaaGreatDoor
open Go.ChangeShapes Go.WideShapes Go.ChangeAt Go.RowKit Go.Lib Go.Shelf

theorem Tryz.own : ownKnob Tryz.prog.godebug = none := by kernel_rfl
theorem Tryz.laidOut : laidOutB Tryz.prog = true := by kernel_rfl
theorem Tryz.cellsES : Tryz.prog.cellsOf 252 = 1 := by kernel_rfl
theorem Tryz.star : "*" ++ "errors.errorString" = "*errors.errorString" := by decide
theorem Tryz.rowES (u : TypeId) (h : Tryz.prog.typeName? 3 u = some "*errors.errorString") : u = 250 :=
  typeName_ptr_named (nm := "errors.errorString") (by rw [Tryz.star]; kernel_rfl) (by kernel_rfl) (by decide) u (by rw [Tryz.star]; exact h)
theorem Tryz.maxLenInt (W : World) (h : W.ShapedOpen Tryz.prog) : ∃ m, W.cell? ⟨13, 0, none⟩ = some (.int .i64 m) :=
  cell_of_shapedOpen_int (zero := #[.int .i64 0]) (t := 3) h (of_decide_eq_true (by kernel_rfl)) (by kernel_rfl) rfl (by kernel_rfl) (by kernel_rfl) Tryz.underlying3

/-- The head of a list of laid sentinels: the variable's one cell. -/
theorem sentinel_cell {n : String} {text : List UInt8} {r : List (String × DataW Unit)} {W : World} {g : Nat}
    (h : laidMet Tryz.prog ((n, .iface "*errors.errorString" (.ptr (.agg [.lit (.string text)]))) :: r) W)
    (hg : Tryz.prog.globalNamed n = some g) (ht : (Tryz.prog.globals[g]?).map (·.type) = some 34) :
    ∃ a : Addr, W.cell? ⟨g, 0, none⟩ = some (.iface 250 (.pointer (some a))) := by
  obtain ⟨a, s, hv, _⟩ := laid_sentinel h hg ht Tryz.underlying34 Tryz.rowES Tryz.underlying250 Tryz.underlying252 rfl rfl Tryz.underlying9 Tryz.cellsES Tryz.cellsString
  exact ⟨a, by simpa using World.var?_cell hg hv 0⟩

theorem pow10_laid : (Rows.laid_internal_strconv_uint64pow10 : DataW Unit) = Lib.tabData .u64 Lib.pow10Tab := by kernel_rfl

/-- What the listed variables of DataBack give a walk. -/
theorem env_of_back {W : World} (hsh : W.ShapedOpen Tryz.prog) (hL : laidMet Tryz.prog Rows.dataBackRow.laid W) : ∃ a, EnvD W a := by
  have h3 : laidMet Tryz.prog (("internal/strconv.uint64pow10", Lib.tabData .u64 Lib.pow10Tab) :: Rows.dataBackRow.laid.drop 3) W := by rw [← pow10_laid]; exact hL.tail.tail
  have ht := tabIs_of_head (P := Tryz.prog) (name := "internal/strconv.uint64pow10") (g := 14) (t := 227) (e := 153) (n := 20) (by kernel_rfl) (by kernel_rfl) (by kernel_rfl) (by kernel_rfl) (by kernel_rfl) (by kernel_rfl) h3
  have h5 := hL.tail.tail.tail.tail
  obtain ⟨a0, e0⟩ := sentinel_cell h5 (g := 2) (by kernel_rfl) (by kernel_rfl)
  obtain ⟨a1, e1⟩ := sentinel_cell h5.tail (g := 1) (by kernel_rfl) (by kernel_rfl)
  obtain ⟨a2, e2⟩ := sentinel_cell h5.tail.tail (g := 5) (by kernel_rfl) (by kernel_rfl)
  obtain ⟨a4, e4⟩ := sentinel_cell h5.tail.tail.tail (g := 0) (by kernel_rfl) (by kernel_rfl)
  obtain ⟨a7, e7⟩ := sentinel_cell h5.tail.tail.tail.tail (g := 3) (by kernel_rfl) (by kernel_rfl)
  obtain ⟨a8, e8⟩ := sentinel_cell h5.tail.tail.tail.tail.tail (g := 4) (by kernel_rfl) (by kernel_rfl)
  obtain ⟨a9, e9⟩ := sentinel_cell h5.tail.tail.tail.tail.tail.tail (g := 9) (by kernel_rfl) (by kernel_rfl)
  obtain ⟨aS, eS⟩ := sentinel_cell h5.tail.tail.tail.tail.tail.tail.tail.tail (g := 17) (by kernel_rfl) (by kernel_rfl)
  exact ⟨fun i => if i = 0 then a0 else if i = 1 then a1 else if i = 2 then a2 else if i = 4 then a4 else if i = 7 then a7 else if i = 8 then a8 else a9, ⟨e0, e1, e4, Tryz.maxLenInt W hsh, ⟨_, _, eS⟩, ht⟩, e2, e7, e8, e9⟩

theorem wf_u8 {n : Int} (h : (Lit.int .u8 n).wf = true) : 0 ≤ n ∧ n ≤ 255 := by
  simp [Lit.wf, IntKind.min, IntKind.max, IntKind.signed, IntKind.bits] at h
  omega

theorem byte_of {k : Int} (h : 0 ≤ k ∧ k ≤ 255) : ∃ b : UInt8, k = (b.toNat : Int) :=
  ⟨UInt8.ofNat k.toNat, by
    have h' : k.toNat < 256 := by omega
    have : (UInt8.ofNat k.toNat).toNat = k.toNat := by simp [UInt8.toNat_ofNat']; omega
    omega⟩

set_option maxRecDepth 100000 in
theorem back_lifted (os : Os) (started : os.Started) (H : Type) (enc : TypeId × Value → H) :
    ReturnsInHanded {} Tryz.checked os 7 .any (fun w args => (Rows.dataBackSpec.pre enc Tryz.prog Tryz.f7 [] false w args ∧ laidMetH Tryz.prog Rows.dataBackRow.laid w) ∧ sizedMet enc Tryz.prog Tryz.f7 (OpenSpec.ofChange Rows.dataBackSpec) false w args)
      (Rows.dataBackSpec.post enc Tryz.prog Tryz.f7 false true false false) := by
  refine returns_and_shaped (C := Tryz.checked) (X := fun w _ => laidMetH Tryz.prog Rows.dataBackRow.laid w) (fun _ _ _ hh h => h.of_heap hh) Tryz.own started (by kernel_rfl) Tryz.func7
    (ChangeSpec.witness_shaped (enc := enc) (C := Tryz.checked) (os := os) (X := fun w _ => laidMetH Tryz.prog Rows.dataBackRow.laid w) false (World.laidAll Tryz.prog os Rows.dataBackRow.laid) #[.slice none 0 0, .int .i64 0, .int .u8 0] 8 (World.laidAll_os _ _ _)
      (World.shaped_of_ZipB (by kernel_rfl) (by kernel_rfl)) (by kernel_rfl) (by kernel_rfl) (by kernel_rfl)
      (by rw [MakeChecks.laidMetH_plain _ _ _ (by kernel_rfl)]; exact laidMet_laidAll _ (by kernel_rfl) (by kernel_rfl))) ?_
  intro W base args ds gs before hval0 hW hsh hL
  have hval : ∀ (j : Nat) t v, Tryz.f7.params[j]? = some t → args[j]? = some v → Value.okWide Tryz.prog W .any base t v := hval0
  have hW' := hW
  obtain ⟨p, q, hA0, hV, rfl, hfz, _⟩ := hW
  have hA : DataW.TrodAll enc Tryz.prog W 0 (fun _ => true) true Tryz.f7.params.toList args.toList ds p := hA0
  have hpar : Tryz.f7.params = #[22, 3, 5] := by kernel_rfl
  rw [hpar] at hA hval
  obtain ⟨v0, v1, v2, d0, d1, d2, p0, p1, p2, rfl, rfl, rfl, h0, h1, h2⟩ := trodAll_three hA
  obtain ⟨rfl, rfl⟩ := trodVars_none hV
  obtain ⟨n, rfl, rfl, rfl, wn⟩ := open_int Tryz.underlying3 (hval 1 3 v1 rfl rfl) h1
  obtain ⟨k, rfl, rfl, rfl, wk⟩ := open_int Tryz.underlying5 (hval 2 5 v2 rfl rfl) h2
  obtain ⟨q0, l0, c0, rfl⟩ := okWide_slice Tryz.underlying22 (hval 0 22 v0 rfl rfl)
  obtain ⟨f0, hf0⟩ := h0
  obtain ⟨xs, hx, hlx, _⟩ := open_rows hf0
  have ex : l0 = xs.length := by
    obtain ⟨_, _, e⟩ := hx.form
    injection e
  subst ex
  rw [MakeChecks.laidMetH_plain _ _ _ (by kernel_rfl)] at hL
  obtain ⟨a, hE⟩ := env_of_back hsh hL
  have hwn := wf_i64 wn
  have hwk := wf_u8 wk
  obtain ⟨b, hb8⟩ : ∃ b : UInt8, k = (b.toNat : Int) := byte_of hwk
  have hwd := dataBack_any q0 c0 xs n b W a hE hx hlx hwn.1 hwn.2
  rw [← hb8] at hwd
  refine hwd.mono fun e W' ⟨he, hb⟩ => ?_
  subst he
  have e1 : Rows.dataBackSpec.fn H ([d0, .lit (.int .i64 n), .lit (.int .u8 k)] ++ []) = { results := [.lit (.bool true)], args := [d0, .lit (.int .i64 n), .lit (.int .u8 k)] } := by simp [Rows.dataBackSpec]
  have hlt0 : ∀ x ∈ p0, x.block < W.heap.size := DataW.trod_lt _ _ _ _ hf0
  refine ⟨_, rfl, _, _, _, [], p0 ++ ([] ++ []), [], hW', ?_, ?_, ?_, hb.frame _, fun h => by cases h⟩
  · rw [e1]; exact trodAll_mk1 (shut_bool Tryz.underlying4 true)
  · rw [e1]
    exact trodAll_mk3 (Below.trod Tryz.laidOut (by kernel_rfl) (of_decide_eq_true (by kernel_rfl)) ⟨f0, hf0⟩ hb hlt0) (shut_int Tryz.underlying3 wn) (shut_int Tryz.underlying5 wk)
  · rw [e1]; rfl

theorem back_row : Rows.DataBackSaid :=
  OpenClaim.holds_of_wide 7 Tryz.f7 rfl rfl rfl rfl rfl rfl rfl ⟨rfl, rfl, rfl, rfl, rfl⟩ rfl rfl rfl rfl rfl (by kernel_rfl) Tryz.func7 (by kernel_rfl)
    (of_decide_eq_true (by kernel_rfl)) (by unfold Func.isWrapper; rw [if_neg (of_decide_eq_false (by kernel_rfl))]; exact ⟨rfl, rfl⟩)
    (fun os started H enc _ => back_lifted os started H enc)

theorem dataBack_holds : Rows.DataBackCardSaid :=
  Claim7.holds_tied_plain_at .later [] Rows.dataBackCard.laidKinds true Rows.dataBackCard.stood.harness true
    back_row (fun _ h => by cases h) (by kernel_rfl) (fun _ h => by cases h) dataBack_row_tie rfl ⟨rfl, rfl⟩ (by kernel_rfl) rfl
    (fun f fn hf hfn => by
      obtain rfl : f = 7 := Option.some.inj ((show Tryz.prog.funcNamed "deedbox/deedboxlaw1.DataBack" = some 7 by kernel_rfl).symm.trans hf) |>.symm
      obtain rfl : fn = Tryz.f7 := (Option.some.inj (Tryz.func7.symm.trans hfn)).symm
      exact ⟨by kernel_rfl, fun j t ht => by
        have hp : Tryz.f7.params = #[22, 3, 5] := by kernel_rfl
        rw [hp] at ht
        have hm : t ∈ [22, 3, 5] := by simpa using Array.mem_of_getElem? ht
        simp only [List.mem_cons, List.not_mem_nil, or_false] at hm
        rcases hm with rfl | rfl | rfl
        · exact (show Tryz.prog.wantsStandIn 22 = false by kernel_rfl)
        · exact (show Tryz.prog.wantsStandIn 3 = false by kernel_rfl)
        · exact (show Tryz.prog.wantsStandIn 5 = false by kernel_rfl)⟩)
    (by kernel_rfl)
#print axioms dataBack_holds
end Go.Proofs.YtgffkkijfmoooaaGreatDoor
