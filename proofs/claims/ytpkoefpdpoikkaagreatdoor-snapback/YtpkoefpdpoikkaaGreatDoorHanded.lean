/-
  What the laid variables give a walk where the errors' handle is among them: the twelve errors lie apart, the type's handle is laid, the tables; and a world that meets such a condition.
-/
import Derived.Test.YtpkoefpdpoikkaaGreatDoorRows
import Derived.Test.YtpkoefpdpoikkaaGreatDoorSnapOpen
import Derived.ChangeSame
import Derived.ChangeVars
import Derived.JoinedOf
import Derived.RowKit
import Derived.LaidLaws
import Derived.LaidHandle
import Derived.Stop.Joined
import Derived.Stop.LaidErr
import Derived.Lay
import Derived.MakeChecks
import Derived.Shelf.Vars
namespace Go.Proofs.YtpkoefpdpoikkaaGreatDoor
open Go.ChangeShapes Go.WideShapes Go.ChangeAt Go.RowKit Go.Lib Go.Shelf

theorem Tryz.own : ownKnob Tryz.prog.godebug = none := by kernel_rfl
theorem Tryz.rt : (Tryz.prog.cutTypes.find? (·.1 == "internal/reflectlite.rtype")).map (·.2) = some 247 := by kernel_rfl
theorem Tryz.oneRow : ((List.range 324).filter fun t => Tryz.prog.rowNamed t [101, 114, 114, 111, 114]) = [29] := by kernel_rfl
theorem Tryz.size : Tryz.prog.types.size = 324 := by kernel_rfl
theorem Tryz.et : Tryz.prog.globalNamed "errors.errorType" = some 12 := by kernel_rfl
theorem Tryz.cellsES : Tryz.prog.cellsOf 291 = 1 := by kernel_rfl
theorem Tryz.star : "*" ++ "errors.errorString" = "*errors.errorString" := by decide
theorem Tryz.rowES (u : TypeId) (h : Tryz.prog.typeName? 3 u = some "*errors.errorString") : u = 289 :=
  typeName_ptr_named (nm := "errors.errorString") (by rw [Tryz.star]; kernel_rfl) (by kernel_rfl) (by decide) u (by rw [Tryz.star]; exact h)

theorem sentinel_full {n nm : String} {text : List UInt8} {r : List (String × DataW Unit)} {W : World} {P : Program} {g : Nat} {ti tp te ts : TypeId} {ms : Array (String × TypeId)} {f : Field}
    (h : laidMet P ((n, .iface nm (.ptr (.agg [.lit (.string text)]))) :: r) W)
    (hg : P.globalNamed n = some g) (ht : (P.globals[g]?).map (·.type) = some ti) (hi : P.underlying ti = some (.interface ms)) (hrow : ∀ u, P.typeName? 3 u = some nm → u = tp)
    (hp : P.underlying tp = some (.pointer te)) (he : P.underlying te = some (.struct #[f])) (hft : f.type = ts) (hfo : f.offset = 0) (hs : P.underlying ts = some .string) (hc : P.cellsOf te = 1) (hcs : P.cellsOf ts = 1) :
    ∃ (a : Addr) (s : ByteArray) (c : Array Value) (t : TypeId), W.cell? ⟨g, 0, none⟩ = some (.iface tp (.pointer (some a))) ∧ W.cell? a = some (.string s) ∧ s.data.toList = text ∧ W.heap[a.block]? = some (.cells c t (0, 0)) := by
  obtain ⟨ps, ⟨g0, t0, cs0, f0, p0, q0, hg0, ht0, hv0, hd0, _, e0⟩, _, hrows⟩ := h
  obtain rfl := Option.some.inj (hg.symm.trans hg0)
  obtain rfl := Option.some.inj (ht.symm.trans ht0)
  subst e0
  obtain ⟨l0⟩ := cs0
  have ok0 : ∀ u v, l0 = [.iface u v] → Value.okWide P W .any 0 u v := fun u v e => by
    subst e
    exact (hrows g 0 (by simp [MemPlace.row])).2 u v (by simpa using World.var?_cell hg0 hv0 0)
  obtain ⟨a0, s0, rfl, hc0, hs0, hz0, rfl⟩ := errorString_of_trod hi hrow hp he hft hfo hs hc hcs hd0 ok0
  obtain ⟨c, t, hb⟩ := (hrows a0.block a0.off (by simp [MemPlace.row])).1
  exact ⟨a0, s0, c, t, by simpa using World.var?_cell hg0 hv0 0, hc0, hs0, hb⟩

def errText : Nat → List UInt8
  | 0 => [100, 101, 101, 100, 98, 111, 120, 58, 32, 116, 101, 120, 116]
  | 1 => [100, 101, 101, 100, 98, 111, 120, 58, 32, 98, 111, 117, 110, 100]
  | 2 => [100, 101, 101, 100, 98, 111, 120, 58, 32, 115, 104, 97, 112, 101]
  | 3 => [100, 101, 101, 100, 98, 111, 120, 58, 32, 107, 105, 110, 100]
  | 4 => [100, 101, 101, 100, 98, 111, 120, 58, 32, 110, 97, 109, 101]
  | 5 => [100, 101, 101, 100, 98, 111, 120, 58, 32, 110, 111, 110, 101]
  | 6 => [100, 101, 101, 100, 98, 111, 120, 58, 32, 101, 120, 105, 115, 116]
  | 7 => [100, 101, 101, 100, 98, 111, 120, 58, 32, 102, 117, 108, 108]
  | 8 => [100, 101, 101, 100, 98, 111, 120, 58, 32, 111, 114, 100, 101, 114]
  | 9 => [100, 101, 101, 100, 98, 111, 120, 58, 32, 115, 117, 109]
  | 10 => [100, 101, 101, 100, 98, 111, 120, 58, 32, 115, 116, 97, 108, 101]
  | _ => [100, 101, 101, 100, 98, 111, 120, 58, 32, 111, 102, 102]

theorem errText_inj : ∀ i, i < 12 → ∀ j, j < 12 → errText i = errText j → i = j := by decide

def errList : List (String × DataW Unit) :=
  [("deedbox/api.ErrText", .iface "*errors.errorString" (.ptr (.agg [.lit (.string [100, 101, 101, 100, 98, 111, 120, 58, 32, 116, 101, 120, 116])]))), ("deedbox/api.ErrBound", .iface "*errors.errorString" (.ptr (.agg [.lit (.string [100, 101, 101, 100, 98, 111, 120, 58, 32, 98, 111, 117, 110, 100])]))), ("deedbox/api.ErrShape", .iface "*errors.errorString" (.ptr (.agg [.lit (.string [100, 101, 101, 100, 98, 111, 120, 58, 32, 115, 104, 97, 112, 101])]))), ("deedbox/api.ErrKind", .iface "*errors.errorString" (.ptr (.agg [.lit (.string [100, 101, 101, 100, 98, 111, 120, 58, 32, 107, 105, 110, 100])]))), ("deedbox/api.ErrName", .iface "*errors.errorString" (.ptr (.agg [.lit (.string [100, 101, 101, 100, 98, 111, 120, 58, 32, 110, 97, 109, 101])]))), ("deedbox/api.ErrNone", .iface "*errors.errorString" (.ptr (.agg [.lit (.string [100, 101, 101, 100, 98, 111, 120, 58, 32, 110, 111, 110, 101])]))), ("deedbox/api.ErrExist", .iface "*errors.errorString" (.ptr (.agg [.lit (.string [100, 101, 101, 100, 98, 111, 120, 58, 32, 101, 120, 105, 115, 116])]))), ("deedbox/api.ErrFull", .iface "*errors.errorString" (.ptr (.agg [.lit (.string [100, 101, 101, 100, 98, 111, 120, 58, 32, 102, 117, 108, 108])]))), ("deedbox/api.ErrOrder", .iface "*errors.errorString" (.ptr (.agg [.lit (.string [100, 101, 101, 100, 98, 111, 120, 58, 32, 111, 114, 100, 101, 114])]))), ("deedbox/api.ErrSum", .iface "*errors.errorString" (.ptr (.agg [.lit (.string [100, 101, 101, 100, 98, 111, 120, 58, 32, 115, 117, 109])]))), ("deedbox/api.ErrStale", .iface "*errors.errorString" (.ptr (.agg [.lit (.string [100, 101, 101, 100, 98, 111, 120, 58, 32, 115, 116, 97, 108, 101])]))), ("deedbox/api.ErrOff", .iface "*errors.errorString" (.ptr (.agg [.lit (.string [100, 101, 101, 100, 98, 111, 120, 58, 32, 111, 102, 102])])))]

theorem errs_of_list {W : World} {r : List (String × DataW Unit)} (h : laidMet Tryz.prog (errList ++ r) W) (hh : W.cell? ⟨12, 0, none⟩ = some (.iface 247 (.agg #[.pointer (some ⟨21, 29, none⟩)]))) : ∃ a, Errs W a := by
  obtain ⟨a0, s0, c0, t0, v0, x0, y0, b0⟩ := sentinel_full h (g := 2) (ti := 29) (by kernel_rfl) (by kernel_rfl) Tryz.underlying29 Tryz.rowES Tryz.underlying289 Tryz.underlying291 rfl rfl Tryz.underlying9 Tryz.cellsES Tryz.cellsString
  replace h := h.tail
  obtain ⟨a1, s1, c1, t1, v1, x1, y1, b1⟩ := sentinel_full h (g := 1) (ti := 29) (by kernel_rfl) (by kernel_rfl) Tryz.underlying29 Tryz.rowES Tryz.underlying289 Tryz.underlying291 rfl rfl Tryz.underlying9 Tryz.cellsES Tryz.cellsString
  replace h := h.tail
  obtain ⟨a2, s2, c2, t2, v2, x2, y2, b2⟩ := sentinel_full h (g := 9) (ti := 29) (by kernel_rfl) (by kernel_rfl) Tryz.underlying29 Tryz.rowES Tryz.underlying289 Tryz.underlying291 rfl rfl Tryz.underlying9 Tryz.cellsES Tryz.cellsString
  replace h := h.tail
  obtain ⟨a3, s3, c3, t3, v3, x3, y3, b3⟩ := sentinel_full h (g := 0) (ti := 29) (by kernel_rfl) (by kernel_rfl) Tryz.underlying29 Tryz.rowES Tryz.underlying289 Tryz.underlying291 rfl rfl Tryz.underlying9 Tryz.cellsES Tryz.cellsString
  replace h := h.tail
  obtain ⟨a4, s4, c4, t4, v4, x4, y4, b4⟩ := sentinel_full h (g := 3) (ti := 29) (by kernel_rfl) (by kernel_rfl) Tryz.underlying29 Tryz.rowES Tryz.underlying289 Tryz.underlying291 rfl rfl Tryz.underlying9 Tryz.cellsES Tryz.cellsString
  replace h := h.tail
  obtain ⟨a5, s5, c5, t5, v5, x5, y5, b5⟩ := sentinel_full h (g := 6) (ti := 29) (by kernel_rfl) (by kernel_rfl) Tryz.underlying29 Tryz.rowES Tryz.underlying289 Tryz.underlying291 rfl rfl Tryz.underlying9 Tryz.cellsES Tryz.cellsString
  replace h := h.tail
  obtain ⟨a6, s6, c6, t6, v6, x6, y6, b6⟩ := sentinel_full h (g := 5) (ti := 29) (by kernel_rfl) (by kernel_rfl) Tryz.underlying29 Tryz.rowES Tryz.underlying289 Tryz.underlying291 rfl rfl Tryz.underlying9 Tryz.cellsES Tryz.cellsString
  replace h := h.tail
  obtain ⟨a7, s7, c7, t7, v7, x7, y7, b7⟩ := sentinel_full h (g := 4) (ti := 29) (by kernel_rfl) (by kernel_rfl) Tryz.underlying29 Tryz.rowES Tryz.underlying289 Tryz.underlying291 rfl rfl Tryz.underlying9 Tryz.cellsES Tryz.cellsString
  replace h := h.tail
  obtain ⟨a8, s8, c8, t8, v8, x8, y8, b8⟩ := sentinel_full h (g := 8) (ti := 29) (by kernel_rfl) (by kernel_rfl) Tryz.underlying29 Tryz.rowES Tryz.underlying289 Tryz.underlying291 rfl rfl Tryz.underlying9 Tryz.cellsES Tryz.cellsString
  replace h := h.tail
  obtain ⟨a9, s9, c9, t9, v9, x9, y9, b9⟩ := sentinel_full h (g := 7) (ti := 29) (by kernel_rfl) (by kernel_rfl) Tryz.underlying29 Tryz.rowES Tryz.underlying289 Tryz.underlying291 rfl rfl Tryz.underlying9 Tryz.cellsES Tryz.cellsString
  replace h := h.tail
  obtain ⟨a10, s10, c10, t10, v10, x10, y10, b10⟩ := sentinel_full h (g := 10) (ti := 29) (by kernel_rfl) (by kernel_rfl) Tryz.underlying29 Tryz.rowES Tryz.underlying289 Tryz.underlying291 rfl rfl Tryz.underlying9 Tryz.cellsES Tryz.cellsString
  replace h := h.tail
  obtain ⟨a11, s11, c11, t11, v11, x11, y11, b11⟩ := sentinel_full h (g := 11) (ti := 29) (by kernel_rfl) (by kernel_rfl) Tryz.underlying29 Tryz.rowES Tryz.underlying289 Tryz.underlying291 rfl rfl Tryz.underlying9 Tryz.cellsES Tryz.cellsString
  refine ⟨fun i => match i with | 0 => a0 | 1 => a1 | 2 => a2 | 3 => a3 | 4 => a4 | 5 => a5 | 6 => a6 | 7 => a7 | 8 => a8 | 9 => a9 | 10 => a10 | _ => a11, ?_, ?_, ?_, hh⟩
  · intro i hi
    match i, hi with
    | 0, _ => exact v0
    | 1, _ => exact v1
    | 2, _ => exact v2
    | 3, _ => exact v3
    | 4, _ => exact v4
    | 5, _ => exact v5
    | 6, _ => exact v6
    | 7, _ => exact v7
    | 8, _ => exact v8
    | 9, _ => exact v9
    | 10, _ => exact v10
    | 11, _ => exact v11
  · have key : ∀ i, i < 12 → ∃ s : ByteArray, W.cell? ((fun i => match i with | 0 => a0 | 1 => a1 | 2 => a2 | 3 => a3 | 4 => a4 | 5 => a5 | 6 => a6 | 7 => a7 | 8 => a8 | 9 => a9 | 10 => a10 | _ => a11 : Nat → Addr) i) = some (.string s) ∧ s.data.toList = errText i := by
      intro i hi
      match i, hi with
      | 0, _ => exact ⟨s0, x0, y0⟩
      | 1, _ => exact ⟨s1, x1, y1⟩
      | 2, _ => exact ⟨s2, x2, y2⟩
      | 3, _ => exact ⟨s3, x3, y3⟩
      | 4, _ => exact ⟨s4, x4, y4⟩
      | 5, _ => exact ⟨s5, x5, y5⟩
      | 6, _ => exact ⟨s6, x6, y6⟩
      | 7, _ => exact ⟨s7, x7, y7⟩
      | 8, _ => exact ⟨s8, x8, y8⟩
      | 9, _ => exact ⟨s9, x9, y9⟩
      | 10, _ => exact ⟨s10, x10, y10⟩
      | 11, _ => exact ⟨s11, x11, y11⟩
    intro i j hi hj e
    obtain ⟨s, hs, es⟩ := key i hi
    obtain ⟨t, ht, et⟩ := key j hj
    refine errText_inj i hi j hj ?_
    have e' := hs.symm.trans ((congrArg W.cell? e).trans ht)
    simp only [Option.some.injEq, Value.string.injEq] at e'
    rw [← es, ← et, e']
  · intro i hi
    match i, hi with
    | 0, _ => exact ⟨c0, t0, b0⟩
    | 1, _ => exact ⟨c1, t1, b1⟩
    | 2, _ => exact ⟨c2, t2, b2⟩
    | 3, _ => exact ⟨c3, t3, b3⟩
    | 4, _ => exact ⟨c4, t4, b4⟩
    | 5, _ => exact ⟨c5, t5, b5⟩
    | 6, _ => exact ⟨c6, t6, b6⟩
    | 7, _ => exact ⟨c7, t7, b7⟩
    | 8, _ => exact ⟨c8, t8, b8⟩
    | 9, _ => exact ⟨c9, t9, b9⟩
    | 10, _ => exact ⟨c10, t10, b10⟩
    | 11, _ => exact ⟨c11, t11, b11⟩

theorem handle_of {W : World} (h : handlesMet Tryz.prog [("errors.errorType", Rows.laid_errors_errorType)] W) : W.cell? ⟨12, 0, none⟩ = some (.iface 247 (.agg #[.pointer (some ⟨21, 29, none⟩)])) := by
  obtain ⟨name, u, ty, e1, e2, e3, e4, e5⟩ := h _ (List.mem_singleton.2 rfl)
  have en : name = [101, 114, 114, 111, 114] := (Option.some.inj e1).symm
  subst en
  obtain rfl := Option.some.inj (Tryz.rt.symm.trans e2)
  have hm : ty ∈ (List.range 324).filter fun t => Tryz.prog.rowNamed t [101, 114, 114, 111, 114] := List.mem_filter.2 ⟨List.mem_range.2 (by rw [← Tryz.size]; exact e3), e4⟩
  rw [Tryz.oneRow] at hm
  obtain rfl := List.mem_singleton.1 hm
  have hh : typeHandle Tryz.prog 29 = .pointer (some ⟨21, 29, none⟩) := by kernel_rfl
  rw [hh] at e5
  simpa using World.var?_cell Tryz.et e5 0

theorem Tryz.laidOut : laidOutB Tryz.prog = true := by kernel_rfl
theorem Tryz.maxLenInt (W : World) (h : W.ShapedOpen Tryz.prog) : ∃ m, W.cell? ⟨13, 0, none⟩ = some (.int .i64 m) :=
  cell_of_shapedOpen_int (zero := #[.int .i64 0]) (t := 3) h (of_decide_eq_true (by kernel_rfl)) (by kernel_rfl) rfl (by kernel_rfl) (by kernel_rfl) Tryz.underlying3
theorem pow10_laid : (Rows.laid_internal_strconv_uint64pow10 : DataW Unit) = Lib.tabData .u64 Lib.pow10Tab := by kernel_rfl

def plainList : List (String × DataW Unit) :=
  [("math/bits.deBruijn32tab", Rows.laid_math_bits_deBruijn32tab), ("math/bits.deBruijn64tab", Rows.laid_math_bits_deBruijn64tab), ("internal/strconv.uint64pow10", Rows.laid_internal_strconv_uint64pow10), ("unicode/utf8.acceptRanges", Rows.laid_unicode_utf8_acceptRanges)] ++ (errList ++ [("strconv.ErrRange", Rows.laid_strconv_ErrRange), ("strconv.ErrSyntax", Rows.laid_strconv_ErrSyntax), ("unicode/utf8.first", Rows.laid_unicode_utf8_first)])

theorem env_errs {W : World} (hsh : W.ShapedOpen Tryz.prog) (hL : laidMet Tryz.prog plainList W) (hH : handlesMet Tryz.prog [("errors.errorType", Rows.laid_errors_errorType)] W) : ∃ a, Env W a ∧ Errs W a := by
  have h3 : laidMet Tryz.prog (("internal/strconv.uint64pow10", Lib.tabData .u64 Lib.pow10Tab) :: plainList.drop 3) W := by rw [← pow10_laid]; exact hL.tail.tail
  have ht := tabIs_of_head (P := Tryz.prog) (name := "internal/strconv.uint64pow10") (g := 14) (t := 267) (e := 185) (n := 20) (by kernel_rfl) (by kernel_rfl) (by kernel_rfl) (by kernel_rfl) (by kernel_rfl) (by kernel_rfl) h3
  have h4 : laidMet Tryz.prog (errList ++ [("strconv.ErrRange", Rows.laid_strconv_ErrRange), ("strconv.ErrSyntax", Rows.laid_strconv_ErrSyntax), ("unicode/utf8.first", Rows.laid_unicode_utf8_first)]) W := hL.tail.tail.tail.tail
  obtain ⟨a, hE⟩ := errs_of_list h4 (handle_of hH)
  have h17 : laidMet Tryz.prog [("strconv.ErrSyntax", Rows.laid_strconv_ErrSyntax), ("unicode/utf8.first", Rows.laid_unicode_utf8_first)] W := h4.tail.tail.tail.tail.tail.tail.tail.tail.tail.tail.tail.tail.tail
  obtain ⟨aS, _, _, _, eS, _⟩ := sentinel_full h17 (g := 15) (ti := 29) (by kernel_rfl) (by kernel_rfl) Tryz.underlying29 Tryz.rowES Tryz.underlying289 Tryz.underlying291 rfl rfl Tryz.underlying9 Tryz.cellsES Tryz.cellsString
  exact ⟨a, ⟨hE.cell 0 (by decide), hE.cell 1 (by decide), hE.cell 4 (by decide), Tryz.maxLenInt W hsh, ⟨_, _, eS⟩, ht⟩, hE⟩

def layCell (v : Value) : Obj → Obj
  | .cells _ t frozen => .cells #[v] t frozen
  | o => o

noncomputable def handed (os : Os) : World :=
  let w0 := World.holding Tryz.prog os ⟨#[], #[], []⟩
  { w0 with heap := w0.heap.modify 12 (layCell (.iface 247 (.agg #[.pointer (some ⟨21, 29, none⟩)]))) }

noncomputable def tellsWorld (os : Os) : World := (handed os).layVars Tryz.prog plainList
theorem tellsWorld_os (os : Os) : (tellsWorld os).os = os := by
  unfold tellsWorld
  rw [World.layVars_os]
  rfl
theorem tellsWorld_shaped (os : Os) : (tellsWorld os).Shaped Tryz.prog := World.shaped_of_ZipB (by kernel_rfl) (by kernel_rfl)
theorem tellsWorld_met (os : Os) (args : Array Value) {l : List (String × DataW Unit)} (h1 : (l.filter fun x => x.2.handleName?.isNone) = plainList) (h2 : (l.filter fun x => x.2.handleName?.isSome) = [("errors.errorType", Rows.laid_errors_errorType)]) :
    laidMetH Tryz.prog l ((tellsWorld os).forCall (fun _ _ => 0) ⟨#[], args, []⟩).memory := by
  refine laidMetH_of_parts ?_ ?_
  · rw [h1]
    have e1 : (plainList.filter fun x => (plainList.map (·.1)).contains x.1) = plainList := List.filter_eq_self.2 fun x hx => List.contains_iff_mem.2 (List.mem_map.2 ⟨x, hx, rfl⟩)
    have e2 : (plainList.filter fun x => !(plainList.map (·.1)).contains x.1) = [] := List.filter_eq_nil_iff.2 fun x hx => by rw [List.contains_iff_mem.2 (List.mem_map.2 ⟨x, hx, rfl⟩)]; simp
    have h : laidMet Tryz.prog plainList (tellsWorld os) := laidMet_layVars (w0 := handed os) (plainList.map (·.1)) [] (by rw [e1]; rfl) (by rw [e1]; kernel_rfl) (by rw [e1]; kernel_rfl) (by rw [e2]; exact LaidIn.none)
    exact h.of_heap (by simp [World.memory, World.forCall, Input.heap])
  · rw [h2]
    kernel_rfl
theorem tells_split {l : List (String × DataW Unit)} {W : World} (h1 : (l.filter fun x => x.2.handleName?.isNone) = plainList) (h2 : (l.filter fun x => x.2.handleName?.isSome) = [("errors.errorType", Rows.laid_errors_errorType)]) (h : laidMetH Tryz.prog l W) :
    laidMet Tryz.prog plainList W ∧ handlesMet Tryz.prog [("errors.errorType", Rows.laid_errors_errorType)] W := by
  unfold laidMetH at h
  rw [h2, h1] at h
  exact h
end Go.Proofs.YtpkoefpdpoikkaaGreatDoor
