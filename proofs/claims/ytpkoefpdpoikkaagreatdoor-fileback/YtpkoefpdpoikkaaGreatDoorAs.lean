/-
  The contracts of errors.As with a target of type **api.Fault: at an api.Fault it is a hit; at an errors.errorString it is a miss.
-/
import Derived.Test.YtpkoefpdpoikkaaGreatDoorFileChk
import Derived.LaidEql
import Derived.Stop.Asserts
import Derived.RowKitTokens
namespace Go.Proofs.YtpkoefpdpoikkaaGreatDoor
open Go.RowKit Go.Extern.Stop Go.Stop Go.Extern Go.Sort Go.Shelf Go.Lib

def flSet (W : World) (b : Nat) (f : Fl) : World := (((((W.setCell ⟨b, 0, none⟩ (.string f.1)).setCell ⟨b, 1, none⟩ (.string f.2.1)).setCell ⟨b, 2, none⟩ (.int .i64 f.2.2.1)).setCell ⟨b, 3, none⟩ (.int .i64 f.2.2.2.1)).setCell ⟨b, 4, none⟩ (.int .i64 f.2.2.2.2.1)).setCell ⟨b, 5, none⟩ (.int .i64 f.2.2.2.2.2)

theorem FlAt.set {W : World} {b : Nat} {f : Fl} (h : FlAt W b f) (f' : Fl) : FlAt (flSet W b f') b f' := by
  unfold FlAt flSet at *
  rw [heap_setCell_same _ _ _ _ _ _ (heap_setCell_same _ _ _ _ _ _ (heap_setCell_same _ _ _ _ _ _ (heap_setCell_same _ _ _ _ _ _ (heap_setCell_same _ _ _ _ _ _ (heap_setCell_same _ _ _ _ _ _ h)))))]
  rfl
theorem flSet_below {W W0 : World} {B b : Nat} {f : Fl} (h : Below B W0 W) (hb : B ≤ b) : Below B W0 (flSet W b f) := (((((h.setCell hb _).setCell hb _).setCell hb _).setCell hb _).setCell hb _).setCell hb _
set_option maxRecDepth 100000 in
set_option maxHeartbeats 4000000 in
theorem checked_any (f : Fl) (w : World) (a : Nat → Addr) (h : EnvK w a) (h1 : f.1.size ≤ 100000) (h2 : f.2.1.size ≤ 100000) :
    Calls Tryz.prog 65 #[flV f] w fun e w' => e = .returned (.tuple #[flV (chkF f).1, errV a (chkF f).2]) ∧ Below w.heap.size w w' := by
  have hal : Below w.heap.size w ((w.alloc (.cells #[.string f.1, .string f.2.1, .int .i64 f.2.2.1, .int .i64 f.2.2.2.1, .int .i64 f.2.2.2.2.1, .int .i64 f.2.2.2.2.2] 23)).alloc (.cells #[.string ⟨#[]⟩, .string ⟨#[]⟩, .int .i64 0, .int .i64 0, .int .i64 0, .int .i64 0] 23)) := ((Below.refl _ _).alloc (Nat.le_refl _) _).alloc (by simp) _
  have hfl : FlAt ((w.alloc (.cells #[.string f.1, .string f.2.1, .int .i64 f.2.2.1, .int .i64 f.2.2.2.1, .int .i64 f.2.2.2.2.1, .int .i64 f.2.2.2.2.2] 23)).alloc (.cells #[.string ⟨#[]⟩, .string ⟨#[]⟩, .int .i64 0, .int .i64 0, .int .i64 0, .int .i64 0] 23)) w.heap.size f := (FlAt.new w f).below ((Below.refl _ _).alloc (Nat.le_refl _) _)
  have hfz : FlAt ((w.alloc (.cells #[.string f.1, .string f.2.1, .int .i64 f.2.2.1, .int .i64 f.2.2.2.1, .int .i64 f.2.2.2.2.1, .int .i64 f.2.2.2.2.2] 23)).alloc (.cells #[.string ⟨#[]⟩, .string ⟨#[]⟩, .int .i64 0, .int .i64 0, .int .i64 0, .int .i64 0] 23)) (w.heap.size + 1) zeroF := by
    have := FlAt.new (w.alloc (.cells #[.string f.1, .string f.2.1, .int .i64 f.2.2.1, .int .i64 f.2.2.2.1, .int .i64 f.2.2.2.2.1, .int .i64 f.2.2.2.2.2] 23)) zeroF
    rw [show (w.alloc (.cells #[.string f.1, .string f.2.1, .int .i64 f.2.2.1, .int .i64 f.2.2.2.1, .int .i64 f.2.2.2.2.1, .int .i64 f.2.2.2.2.2] 23)).heap.size = w.heap.size + 1 by simp] at this
    exact this
  have hck := fcheck_any f _ a (h.below hal) h1 h2
  unfold chkF
  by_cases he : fileE f = 0
  · rw [if_pos he]
    rw [he] at hck
    clear he
    obtain ⟨p, q, n, lo, hi, seq⟩ := f
    unfold flV at hck ⊢
    dsimp only at hck hal hfl hfz ⊢
    simp only [errV] at hck ⊢
    go_enter Tryz.func65, Tryz.ntmps65
    go_wp2_with fail
    generalize (w.alloc (.cells #[.string p, .string q, .int .i64 n, .int .i64 lo, .int .i64 hi, .int .i64 seq] 23)).alloc (.cells #[.string ⟨#[]⟩, .string ⟨#[]⟩, .int .i64 0, .int .i64 0, .int .i64 0, .int .i64 0] 23) = WA at hal hfl hfz hck ⊢
    refine hck.mono ?_
    rintro e w1 ⟨rfl, hb1⟩
    clear hck
    have hB1 : Below w.heap.size w w1 := hal.trans (hb1.mono hal.size)
    obtain ⟨x0, x1, x2, x3, x4, x5, _⟩ := (hfl.below hb1).cells
    have hz1 := hfz.below hb1
    obtain ⟨y0, y1, y2, y3, y4, y5, yf⟩ := hz1.cells
    obtain ⟨z0, z1, z2, z3, z4, z5, zf⟩ := (hz1.set (p, q, n, lo, hi, seq)).cells
    have hB2 := flSet_below (f := (p, q, n, lo, hi, seq)) hB1 (Nat.le_succ w.heap.size)
    unfold flSet at z0 z1 z2 z3 z4 z5 zf hB2
    dsimp only at x0 x1 x2 x3 x4 x5 y0 y1 y2 y3 y4 y5 z0 z1 z2 z3 z4 z5 zf hB2
    simp only [zeroF] at y0 y1 y2 y3 y4 y5
    clear hfl hfz hz1
    go_wp2
    exact bodyPost_ret (v := .tuple #[.agg #[.string p, .string q, .int .i64 n, .int .i64 lo, .int .i64 hi, .int .i64 seq], .nilIface]) (by simp [results, Tryz.results65, go_sem, z0, z1, z2, z3, z4, z5]) rfl ⟨rfl, hB2⟩
  · rw [if_neg he]
    obtain ⟨j, hj⟩ : ∃ j, fileE f = j + 1 := ⟨fileE f - 1, by omega⟩
    rw [hj] at hck ⊢
    clear he hj
    obtain ⟨p, q, n, lo, hi, seq⟩ := f
    unfold flV zeroF at *
    dsimp only at hck hal hfl hfz ⊢
    simp only [errV] at hck ⊢
    go_enter Tryz.func65, Tryz.ntmps65
    go_wp2_with fail
    generalize (w.alloc (.cells #[.string p, .string q, .int .i64 n, .int .i64 lo, .int .i64 hi, .int .i64 seq] 23)).alloc (.cells #[.string ⟨#[]⟩, .string ⟨#[]⟩, .int .i64 0, .int .i64 0, .int .i64 0, .int .i64 0] 23) = WA at hal hfl hfz hck ⊢
    refine hck.mono ?_
    rintro e w1 ⟨rfl, hb1⟩
    clear hck
    have hB1 : Below w.heap.size w w1 := hal.trans (hb1.mono hal.size)
    have hz1 := hfz.below hb1
    obtain ⟨y0, y1, y2, y3, y4, y5, yf⟩ := hz1.cells
    dsimp only at y0 y1 y2 y3 y4 y5
    simp only [bytesOf] at y0 y1
    have s0 := setCell_self y0
    have s1 := setCell_self y1
    have s2 := setCell_self y2
    have s3 := setCell_self y3
    have s4 := setCell_self y4
    have s5 := setCell_self y5
    clear hfl hfz hz1
    go_wp2
    exact bodyPost_ret (v := .tuple #[.agg #[.string ⟨#[]⟩, .string ⟨#[]⟩, .int .i64 0, .int .i64 0, .int .i64 0, .int .i64 0], .iface 289 (.pointer (some (a j)))]) (by simp [results, Tryz.results65, go_sem, y0, y1, y2, y3, y4, y5]) rfl ⟨rfl, hB1⟩

theorem fl_len {f : Fl} (h : fileE f = 0) : (fileL f).length ≤ f.1.size + f.2.1.size + 60 := by
  obtain ⟨g, n, _, _, hb⟩ := file_good h
  obtain ⟨b1, b2, b3, b4⟩ := bnd_nums hb
  simp only [inNum, Bool.and_eq_true, decide_eq_true_eq] at b1 b2 b3 b4
  have l1 := itoa_len _ b1.1 b1.2
  have l2 := itoa_len _ b2.1 b2.2
  have l3 := itoa_len _ b3.1 b3.2
  have l4 := itoa_len _ b4.1 b4.2
  unfold fileL
  simp only [List.length_append, List.length_cons, size_list]
  omega

set_option maxRecDepth 100000 in
set_option maxHeartbeats 8000000 in
theorem ftext_any (f : Fl) (w : World) (a : Nat → Addr) (h : EnvK w a) (h1 : f.1.size ≤ 100000) (h2 : f.2.1.size ≤ 100000) :
    Calls Tryz.prog 13 #[flV f] w fun e w' => e = .returned (.string (fileB f)) ∧ Below w.heap.size w w' := by
  have hal : Below w.heap.size w (w.alloc (.cells #[.string f.1, .string f.2.1, .int .i64 f.2.2.1, .int .i64 f.2.2.2.1, .int .i64 f.2.2.2.2.1, .int .i64 f.2.2.2.2.2] 23)) := (Below.refl _ _).alloc (Nat.le_refl _) _
  have hfl := FlAt.new w f
  have hck := fcheck_any f _ a (h.below hal) h1 h2
  have hbd : fileE f = 0 → (inNum f.2.2.1 = true ∧ inNum f.2.2.2.1 = true ∧ inNum f.2.2.2.2.1 = true ∧ inNum f.2.2.2.2.2 = true) := fun he => let ⟨_, _, _, _, hb⟩ := file_good he; bnd_nums hb
  have hln := @fl_len f
  unfold fileB
  by_cases he : fileE f = 0
  · rw [if_pos he]
    rw [he] at hck
    have hb := hbd he
    have hl := hln he
    clear hbd hln he
    obtain ⟨p, q, n, lo, hi, seq⟩ := f
    dsimp only at h1 h2 hal hb hl
    unfold flV at hck ⊢
    dsimp only at hck ⊢
    simp only [errV] at hck
    simp only [inNum, Bool.and_eq_true, decide_eq_true_eq] at hb
    go_enter Tryz.func13, Tryz.ntmps13
    go_wp2_with fail
    generalize w.alloc (.cells #[.string p, .string q, .int .i64 n, .int .i64 lo, .int .i64 hi, .int .i64 seq] 23) = WA at hal hfl hck ⊢
    refine hck.mono ?_
    rintro e W0 ⟨rfl, hb1⟩
    clear hck
    have hB1 : Below w.heap.size w W0 := hal.trans (hb1.mono hal.size)
    have hEA := (h.below hB1).env
    obtain ⟨x0, x1, x2, x3, x4, x5, _⟩ := (hfl.below hb1).cells
    dsimp only at x0 x1 x2 x3 x4 x5
    clear hfl
    generalize w.heap.size = g at x0 x1 x2 x3 x4 x5
    have hb0 : Below W0.heap.size W0 W0 := Below.refl _ _
    go_wp2_with fail
    go_region_held3 (fun w' => w'.cell? ⟨g, 0, none⟩ = some (.string p) ∧ w'.cell? ⟨g, 1, none⟩ = some (.string q) ∧ w'.cell? ⟨g, 2, none⟩ = some (.int .i64 n) ∧ w'.cell? ⟨g, 3, none⟩ = some (.int .i64 lo) ∧ w'.cell? ⟨g, 4, none⟩ = some (.int .i64 hi) ∧ w'.cell? ⟨g, 5, none⟩ = some (.int .i64 seq) ∧ Below W0.heap.size W0 w')
      (first
        | (go_split_ands; exact ⟨below_keep hbX (by assumption), below_keep hbX (by assumption), below_keep hbX (by assumption), below_keep hbX (by assumption), below_keep hbX (by assumption), below_keep hbX (by assumption), Below.trans (by assumption) (hbX.mono (Below.size (by assumption)))⟩)
        | (go_split_ands; exact ⟨by go_keep, by go_keep, by go_keep, by go_keep, by go_keep, by go_keep, by assumption⟩)
        | (go_split_ands; exact ⟨by go_keep, by go_keep, by go_keep, by go_keep, by go_keep, by go_keep, Below.drew (by assumption)⟩)
        | (go_split_ands; exact ⟨by go_keep, by go_keep, by go_keep, by go_keep, by go_keep, by go_keep, Below.alloc (by assumption) (Below.size (by assumption)) _⟩))
      (first
        | (go_at_call 61; refine (itoa_s _ _ (hEA.below (by go_split_ands; assumption)).base (by omega) (by omega)).mono ?_; rintro e w2 ⟨rfl, hbX⟩))
    go_split_ands
    have hbE : Below W0.heap.size W0 (w2.alloc (.cells #[.string p, .string q, .string (bytesOf (itoa n)), .string (bytesOf (itoa lo)), .string (bytesOf (itoa hi)), .string (bytesOf (itoa seq))] 9)) := by assumption
    have hBE : Below w.heap.size w (w2.alloc (.cells #[.string p, .string q, .string (bytesOf (itoa n)), .string (bytesOf (itoa lo)), .string (bytesOf (itoa hi)), .string (bytesOf (itoa seq))] 9)) := hB1.trans (hbE.mono hB1.size)
    have hjl : (Lib.join ([p, q, bytesOf (itoa n), bytesOf (itoa lo), bytesOf (itoa hi), bytesOf (itoa seq)].map (·.data.toList)) (⟨#[32]⟩ : ByteArray).data.toList) = fileL (p, q, n, lo, hi, seq) := by
      simp [Lib.join, fileL, bytesOf]
    have hj := Tryz.strings_Join w2.heap.size 0 6 [p, q, bytesOf (itoa n), bytesOf (itoa lo), bytesOf (itoa hi), bytesOf (itoa seq)] ⟨#[32]⟩ (w2.alloc (.cells #[.string p, .string q, .string (bytesOf (itoa n)), .string (bytesOf (itoa lo)), .string (bytesOf (itoa hi)), .string (bytesOf (itoa seq))] 9)) (fun j x hx => by
        rw [Nat.zero_add, cell_of_row _ _ _ _ _ _ (heap_alloc_new _ _)]
        match j, hx with
        | 0, hx => simp at hx; subst hx; rfl
        | 1, hx => simp at hx; subst hx; rfl
        | 2, hx => simp at hx; subst hx; rfl
        | 3, hx => simp at hx; subst hx; rfl
        | 4, hx => simp at hx; subst hx; rfl
        | 5, hx => simp at hx; subst hx; rfl
        | j + 6, hx => simp at hx) (by simp) (by simp) (by simp) (by rw [hjl]; omega)
    rw [hjl] at hj
    clear hjl hl
    generalize w2.alloc (.cells #[.string p, .string q, .string (bytesOf (itoa n)), .string (bytesOf (itoa lo)), .string (bytesOf (itoa hi)), .string (bytesOf (itoa seq))] 9) = WE at hj hBE ⊢
    go_wp2_with fail
    refine hj.mono ?_
    rintro e w9 ⟨rfl, hb9⟩
    go_wp2
    go_ret
    exact ⟨rfl, hBE.trans (hb9.mono hBE.size)⟩
  · rw [if_neg he]
    obtain ⟨j, hj⟩ : ∃ j, fileE f = j + 1 := ⟨fileE f - 1, by omega⟩
    rw [hj] at hck
    clear hbd hln he hj
    obtain ⟨p, q, n, lo, hi, seq⟩ := f
    dsimp only at h1 h2 hal
    unfold flV at hck ⊢
    dsimp only at hck ⊢
    simp only [errV] at hck
    go_enter Tryz.func13, Tryz.ntmps13
    go_wp2_with fail
    generalize w.alloc (.cells #[.string p, .string q, .int .i64 n, .int .i64 lo, .int .i64 hi, .int .i64 seq] 23) = WA at hal hfl hck ⊢
    refine hck.mono ?_
    rintro e W0 ⟨rfl, hb1⟩
    clear hck
    have hB1 : Below w.heap.size w W0 := hal.trans (hb1.mono hal.size)
    go_wp2
    go_ret
    exact ⟨rfl, hB1⟩
end Go.Proofs.YtpkoefpdpoikkaaGreatDoor
namespace Go.Proofs.YtpkoefpdpoikkaaGreatDoor
open Go.RowKit Go.Extern.Stop Go.Stop Go.Extern

theorem Tryz.noUnwrapE (v : Value) (xT : TypeId) (w : World) : (Instr.typeAssert (.iface 289 v) xT 254 true).run Tryz.prog w = .ok (.tuple #[.nilIface, .bool false]) w := run_typeAssert_lacksB Tryz.underlying254 (by kernel_rfl) (by kernel_rfl) v xT w
theorem Tryz.noUnwrapsE (v : Value) (xT : TypeId) (w : World) : (Instr.typeAssert (.iface 289 v) xT 256 true).run Tryz.prog w = .ok (.tuple #[.nilIface, .bool false]) w := run_typeAssert_lacksB Tryz.underlying256 (by kernel_rfl) (by kernel_rfl) v xT w
theorem Tryz.noAsE (v : Value) (xT : TypeId) (w : World) : (Instr.typeAssert (.iface 289 v) xT 251 true).run Tryz.prog w = .ok (.tuple #[.nilIface, .bool false]) w := run_typeAssert_lacksB Tryz.underlying251 (by kernel_rfl) (by kernel_rfl) v xT w
end Go.Proofs.YtpkoefpdpoikkaaGreatDoor
namespace Go.Proofs.YtpkoefpdpoikkaaGreatDoor
open Go.RowKit Go.Extern.Stop Go.Stop Go.Extern

theorem Tryz.valueOf27 (t : Addr) (w : World) : (ReflectliteValue.unpack (.iface 169 (.pointer (some t)))).run Tryz.prog w
    = .ok (.agg #[.pointer (some ⟨21, 169, none⟩), .pointer (some ⟨w.heap.size, 0, none⟩), .int .u64 150]) (w.alloc (.cells #[.pointer (some t)] 169)) := by kernel_rfl
theorem Tryz.type27 (a : Addr) (w : World) : (ReflectliteValue.methodAny (ReflectliteValue.valueError "reflectlite.Value.Type" 0) (fun t _ _ _ => ReflectliteType.toType t) #[.agg #[.pointer (some ⟨21, 169, none⟩), .pointer (some a), .int .u64 150]]).run Tryz.prog w
    = .ok (.iface 247 (.agg #[.pointer (some ⟨21, 169, none⟩)])) w := by kernel_rfl
theorem Tryz.methodKind (h : Value) (w : World) : (Go.method 424 247 (.agg #[h]) "Kind").run Tryz.prog w = .ok (261, h) w := by kernel_rfl
theorem Tryz.kind27 (w : World) : ((ReflectliteType.abiMethod fun t => (fun a : Nat => Value.int IntKind.u8 (a : Int)) <$> Rtype.kind t) #[.pointer (some ⟨21, 169, none⟩)]).run Tryz.prog w = .ok (.int .u8 22) w := by kernel_rfl
theorem Tryz.kind25 (w : World) : ((ReflectliteType.abiMethod fun t => (fun a : Nat => Value.int IntKind.u8 (a : Int)) <$> Rtype.kind t) #[.pointer (some ⟨21, 108, none⟩)]).run Tryz.prog w = .ok (.int .u8 22) w := by kernel_rfl

theorem Tryz.parts27 (a : Addr) (w : World) : (ReflectliteValue.parts (.agg #[.pointer (some ⟨21, 169, none⟩), .pointer (some a), .int .u64 150])).run Tryz.prog w = .ok (some (169, a, 150)) w := by kernel_rfl
theorem Tryz.isNil27 (a p : Addr) (W : World) (ha : W.cell? a = some (.pointer (some p))) :
    (ReflectliteValue.method (ReflectliteValue.valueError "reflectlite.Value.IsNil" 0) ReflectliteValue.isNil #[.agg #[.pointer (some ⟨21, 169, none⟩), .pointer (some a), .int .u64 150]]).run Tryz.prog W = .ok (.bool false) W := by
  delta ReflectliteValue.method ReflectliteValue.method.match_2
  dsimp only
  refine Eq.trans (congrArg (fun z => Sem.run Tryz.prog z W) (dif_pos rfl)) ?_
  simp only [Sem.run_bind, Array.getLit, List.getElem_toArray, List.getElem_cons_zero, Tryz.parts27, Result.andThen]
  simp [ReflectliteValue.isNil, loadVar, isAgg, underlying, Tryz.underlying169, ha, Result.andThen]

theorem Tryz.methodElem (h : Value) (w : World) : (Go.method 424 247 (.agg #[h]) "Elem").run Tryz.prog w = .ok (276, .agg #[h]) w := by kernel_rfl
theorem Tryz.methodImplements (h : Value) (w : World) : (Go.method 424 247 (.agg #[h]) "Implements").run Tryz.prog w = .ok (277, .agg #[h]) w := by kernel_rfl
theorem Tryz.methodAssignableTo (h : Value) (w : World) : (Go.method 424 247 (.agg #[h]) "AssignableTo").run Tryz.prog w = .ok (274, .agg #[h]) w := by kernel_rfl
theorem Tryz.elem27 (w : World) : (ReflectliteType.method ReflectliteType.elem #[.agg #[.pointer (some ⟨21, 169, none⟩)]]).run Tryz.prog w = .ok (.iface 247 (.agg #[.pointer (some ⟨21, 108, none⟩)])) w := by kernel_rfl
theorem Tryz.implements25 (w : World) : (ReflectliteType.relation "Implements" ReflectliteType.implements_ #[.agg #[.pointer (some ⟨21, 108, none⟩)], .iface 247 (.agg #[.pointer (some ⟨21, 29, none⟩)])]).run Tryz.prog w = .ok (.bool true) w := by kernel_rfl
theorem Tryz.typeOf25 (v : Value) (w : World) : (ReflectliteType.typeOf #[.iface 108 v]).run Tryz.prog w = .ok (.iface 247 (.agg #[.pointer (some ⟨21, 108, none⟩)])) w := by kernel_rfl
theorem Tryz.assignable25 (w : World) : (ReflectliteType.relation "AssignableTo" ReflectliteType.assignableTo #[.agg #[.pointer (some ⟨21, 108, none⟩)], .iface 247 (.agg #[.pointer (some ⟨21, 108, none⟩)])]).run Tryz.prog w = .ok (.bool true) w := by kernel_rfl
theorem Tryz.valueOf25 (e : Addr) (w : World) : (ReflectliteValue.unpack (.iface 108 (.pointer (some e)))).run Tryz.prog w
    = .ok (.agg #[.pointer (some ⟨21, 108, none⟩), .pointer (some ⟨w.heap.size, 0, none⟩), .int .u64 150]) (w.alloc (.cells #[.pointer (some e)] 108)) := by kernel_rfl

theorem Tryz.elemOf27 (w : World) : (Rtype.elem? 169).run Tryz.prog w = .ok (some 108) w := by kernel_rfl
theorem Tryz.mk25 (p : Addr) (w : World) : (ReflectliteValue.mk 108 p ReflectliteValue.flagAddr).run Tryz.prog w = .ok (.agg #[.pointer (some ⟨21, 108, none⟩), .pointer (some p), .int .u64 406]) w := by kernel_rfl
theorem Tryz.elemV27 (a p : Addr) (W : World) (ha : W.cell? a = some (.pointer (some p))) :
    (ReflectliteValue.method (ReflectliteValue.valueError "reflectlite.Value.Elem" 0) ReflectliteValue.elem #[.agg #[.pointer (some ⟨21, 169, none⟩), .pointer (some a), .int .u64 150]]).run Tryz.prog W
      = .ok (.agg #[.pointer (some ⟨21, 108, none⟩), .pointer (some p), .int .u64 406]) W := by
  delta ReflectliteValue.method ReflectliteValue.method.match_2
  dsimp only
  refine Eq.trans (congrArg (fun z => Sem.run Tryz.prog z W) (dif_pos rfl)) ?_
  simp only [Sem.run_bind, Array.getLit, List.getElem_toArray, List.getElem_cons_zero, Tryz.parts27, Result.andThen]
  simp [ReflectliteValue.elem, loadVar, isAgg, underlying, Tryz.underlying169, ha, Result.andThen, Tryz.elemOf27, Tryz.mk25]
theorem Tryz.parts25a (a : Addr) (w : World) : (ReflectliteValue.parts (.agg #[.pointer (some ⟨21, 108, none⟩), .pointer (some a), .int .u64 406])).run Tryz.prog w = .ok (some (108, a, 406)) w := by kernel_rfl
theorem Tryz.parts25 (a : Addr) (w : World) : (ReflectliteValue.parts (.agg #[.pointer (some ⟨21, 108, none⟩), .pointer (some a), .int .u64 150])).run Tryz.prog w = .ok (some (108, a, 150)) w := by kernel_rfl
theorem Tryz.direct25 (w : World) : (Rtype.directlyAssignable 108 108).run Tryz.prog w = .ok true w := by kernel_rfl
theorem Tryz.set25 (ta b e : Addr) (old : Value) (W : World) (hb : W.cell? b = some (.pointer (some e))) (ht : W.cell? ta = some old) (hf : W.frozen? ta = false) :
    (ReflectliteValue.set #[.agg #[.pointer (some ⟨21, 108, none⟩), .pointer (some ta), .int .u64 406], .agg #[.pointer (some ⟨21, 108, none⟩), .pointer (some b), .int .u64 150]]).run Tryz.prog W
      = .ok (.tuple #[]) (W.setCell ta (.pointer (some e))) := by
  delta ReflectliteValue.set ReflectliteValue.set.match_3
  dsimp only
  refine Eq.trans (congrArg (fun z => Sem.run Tryz.prog z W) (dif_pos rfl)) ?_
  simp only [Sem.run_bind, Array.getLit, List.getElem_toArray, List.getElem_cons_zero, List.getElem_cons_succ, Tryz.parts25a, Tryz.parts25, Result.andThen]
  simp [ReflectliteValue.flagAddr, loadVar, isAgg, underlying, Tryz.underlying108, hb, Result.andThen, Tryz.direct25, storeVar, Value.cells, storeCells, Addr.add]
  rw [run_store Tryz.prog W ta _ _ (by rfl)]
  simp [ht, hf]

set_option maxHeartbeats 4000000 in
theorem as_hit (e t : Addr) (old : Value) (w : World) (hg : w.cell? ⟨12, 0, none⟩ = some (.iface 247 (.agg #[.pointer (some ⟨21, 29, none⟩)]))) (ht0 : w.cell? t = some old) (hf0 : w.frozen? t = false) :
    Calls Tryz.prog 129 #[.iface 108 (.pointer (some e)), .iface 169 (.pointer (some t))] w fun ev w' => ev = .returned (.bool true) ∧ w' = ((((w.alloc (.cells #[.pointer (some t)] 169)).alloc (.cells #[.pointer (some ⟨21, 169, none⟩), .pointer (some ⟨w.heap.size, 0, none⟩), .int .u64 150] 206)).alloc (.cells #[.pointer (some ⟨21, 169, none⟩), .pointer (some ⟨w.heap.size, 0, none⟩), .int .u64 150] 206)).alloc (.cells #[.pointer (some e)] 108)).setCell t (.pointer (some e)) := by
  have h6 := @run_callFunc_extern Tryz.prog 168 _ (fun args => ReflectliteValue.unpack (args.getD 0 (.tuple #[]))) Tryz.func168 (by kernel_rfl) (by kernel_rfl) (by kernel_rfl) (by kernel_rfl)
  have h7 := @run_callFunc_extern Tryz.prog 169 _ (ReflectliteValue.methodAny (ReflectliteValue.valueError "reflectlite.Value.Type" 0) (fun t _ _ _ => ReflectliteType.toType t)) Tryz.func169 (by kernel_rfl) (by kernel_rfl) (by kernel_rfl) (by kernel_rfl)
  have h8 := @run_callFunc_extern Tryz.prog 170 _ (ReflectliteValue.method (ReflectliteValue.valueError "reflectlite.Value.IsNil" 0) ReflectliteValue.isNil) Tryz.func170 (by kernel_rfl) (by kernel_rfl) (by kernel_rfl) (by kernel_rfl)
  have h27 := @run_callFunc_extern Tryz.prog 261 _ (ReflectliteType.abiMethod fun t => do pure (.int .u8 (← Rtype.kind t))) Tryz.func261 (by kernel_rfl) (by kernel_rfl) (by kernel_rfl) (by kernel_rfl)
  have h37 := @run_callFunc_extern Tryz.prog 276 _ (ReflectliteType.method ReflectliteType.elem) Tryz.func276 (by kernel_rfl) (by kernel_rfl) (by kernel_rfl) (by kernel_rfl)
  have h38 := @run_callFunc_extern Tryz.prog 277 _ (ReflectliteType.relation "Implements" ReflectliteType.implements_) Tryz.func277 (by kernel_rfl) (by kernel_rfl) (by kernel_rfl) (by kernel_rfl)
  have h10 := @run_callFunc_extern Tryz.prog 172 _ ReflectliteType.typeOf Tryz.func172 (by kernel_rfl) (by kernel_rfl) (by kernel_rfl) (by kernel_rfl)
  have h35 := @run_callFunc_extern Tryz.prog 274 _ (ReflectliteType.relation "AssignableTo" ReflectliteType.assignableTo) Tryz.func274 (by kernel_rfl) (by kernel_rfl) (by kernel_rfl) (by kernel_rfl)
  have h11 := @run_callFunc_extern Tryz.prog 211 _ (ReflectliteValue.method (ReflectliteValue.valueError "reflectlite.Value.Elem" 0) ReflectliteValue.elem) Tryz.func211 (by kernel_rfl) (by kernel_rfl) (by kernel_rfl) (by kernel_rfl)
  have h12 := @run_callFunc_extern Tryz.prog 212 _ ReflectliteValue.set Tryz.func212 (by kernel_rfl) (by kernel_rfl) (by kernel_rfl) (by kernel_rfl)
  have tO := Tryz.typeOf25
  have mA := Tryz.methodAssignableTo
  have a25 := Tryz.assignable25
  have v25 := Tryz.valueOf25
  have f6 := Tryz.valueOf27
  have f7 := Tryz.type27
  have mK := Tryz.methodKind
  have mE := Tryz.methodElem
  have mI := Tryz.methodImplements
  have k27 := Tryz.kind27
  have k25 := Tryz.kind25
  have e27 := Tryz.elem27
  have i25 := Tryz.implements25
  have n8 := Tryz.isNil27 ⟨w.heap.size, 0, none⟩ t ((w.alloc (.cells #[.pointer (some t)] 169)).alloc (.cells #[.pointer (some ⟨21, 169, none⟩), .pointer (some ⟨w.heap.size, 0, none⟩), .int .u64 150] 206)) (by simp)
  have hlt : 12 < w.heap.size := by
    rcases Nat.lt_or_ge 12 w.heap.size with h | h
    · exact h
    · simp [World.cell?, Array.getElem?_eq_none h] at hg
  have hg2 : ((w.alloc (.cells #[.pointer (some t)] 169)).alloc (.cells #[.pointer (some ⟨21, 169, none⟩), .pointer (some ⟨w.heap.size, 0, none⟩), .int .u64 150] 206)).cell? ⟨12, 0, none⟩ = some (.iface 247 (.agg #[.pointer (some ⟨21, 29, none⟩)])) := by
    rw [World.cell?_alloc_lt _ _ ⟨12, 0, none⟩ (by simp; omega), World.cell?_alloc_lt _ _ ⟨12, 0, none⟩ hlt]; exact hg
  have htl : t.block < w.heap.size := by
    rcases Nat.lt_or_ge t.block w.heap.size with h | h
    · exact h
    · simp [World.cell?, Array.getElem?_eq_none h] at ht0
  have el := Tryz.elemV27 ⟨w.heap.size, 0, none⟩ t (((w.alloc (.cells #[.pointer (some t)] 169)).alloc (.cells #[.pointer (some ⟨21, 169, none⟩), .pointer (some ⟨w.heap.size, 0, none⟩), .int .u64 150] 206)).alloc (.cells #[.pointer (some ⟨21, 169, none⟩), .pointer (some ⟨w.heap.size, 0, none⟩), .int .u64 150] 206)) (by rw [World.cell?_alloc_lt _ _ ⟨w.heap.size, 0, none⟩ (by simp; omega)]; simp)
  have st := Tryz.set25 t ⟨w.heap.size + 1 + 1 + 1, 0, none⟩ e old ((((w.alloc (.cells #[.pointer (some t)] 169)).alloc (.cells #[.pointer (some ⟨21, 169, none⟩), .pointer (some ⟨w.heap.size, 0, none⟩), .int .u64 150] 206)).alloc (.cells #[.pointer (some ⟨21, 169, none⟩), .pointer (some ⟨w.heap.size, 0, none⟩), .int .u64 150] 206)).alloc (.cells #[.pointer (some e)] 108))
    (by rw [World.cell?_alloc_at _ _ _ _ (by simp)]; rfl)
    (by rw [World.cell?_alloc_lt _ _ t (by simp; omega), World.cell?_alloc_lt _ _ t (by simp; omega), World.cell?_alloc_lt _ _ t (by simp; omega), World.cell?_alloc_lt _ _ t htl]; exact ht0)
    (by rw [World.frozen?_alloc_old _ _ t (by simp; omega), World.frozen?_alloc_old _ _ t (by simp; omega), World.frozen?_alloc_old _ _ t (by simp; omega), World.frozen?_alloc_old _ _ t (Nat.ne_of_lt htl)]; exact hf0)
  go_enter Tryz.func129, Tryz.ntmps129
  go_wp2
  refine wp_loop_rounds 1 ?_
  rw [rounds_succ]
  go_wp2
  go_ret
  exact ⟨rfl, rfl⟩

theorem Tryz.typeOfE (v : Value) (w : World) : (ReflectliteType.typeOf #[.iface 289 v]).run Tryz.prog w = .ok (.iface 247 (.agg #[.pointer (some ⟨21, 289, none⟩)])) w := by kernel_rfl
theorem Tryz.assignableE (w : World) : (ReflectliteType.relation "AssignableTo" ReflectliteType.assignableTo #[.agg #[.pointer (some ⟨21, 289, none⟩)], .iface 247 (.agg #[.pointer (some ⟨21, 108, none⟩)])]).run Tryz.prog w = .ok (.bool false) w := by kernel_rfl

set_option maxHeartbeats 4000000 in
theorem as_miss (e t : Addr) (w : World) (hg : w.cell? ⟨12, 0, none⟩ = some (.iface 247 (.agg #[.pointer (some ⟨21, 29, none⟩)]))) :
    Calls Tryz.prog 129 #[.iface 289 (.pointer (some e)), .iface 169 (.pointer (some t))] w fun ev w' => ev = .returned (.bool false) ∧ w' = (((w.alloc (.cells #[.pointer (some t)] 169)).alloc (.cells #[.pointer (some ⟨21, 169, none⟩), .pointer (some ⟨w.heap.size, 0, none⟩), .int .u64 150] 206)).alloc (.cells #[.pointer (some ⟨21, 169, none⟩), .pointer (some ⟨w.heap.size, 0, none⟩), .int .u64 150] 206)) := by
  have h6 := @run_callFunc_extern Tryz.prog 168 _ (fun args => ReflectliteValue.unpack (args.getD 0 (.tuple #[]))) Tryz.func168 (by kernel_rfl) (by kernel_rfl) (by kernel_rfl) (by kernel_rfl)
  have h7 := @run_callFunc_extern Tryz.prog 169 _ (ReflectliteValue.methodAny (ReflectliteValue.valueError "reflectlite.Value.Type" 0) (fun t _ _ _ => ReflectliteType.toType t)) Tryz.func169 (by kernel_rfl) (by kernel_rfl) (by kernel_rfl) (by kernel_rfl)
  have h8 := @run_callFunc_extern Tryz.prog 170 _ (ReflectliteValue.method (ReflectliteValue.valueError "reflectlite.Value.IsNil" 0) ReflectliteValue.isNil) Tryz.func170 (by kernel_rfl) (by kernel_rfl) (by kernel_rfl) (by kernel_rfl)
  have h27 := @run_callFunc_extern Tryz.prog 261 _ (ReflectliteType.abiMethod fun t => do pure (.int .u8 (← Rtype.kind t))) Tryz.func261 (by kernel_rfl) (by kernel_rfl) (by kernel_rfl) (by kernel_rfl)
  have h37 := @run_callFunc_extern Tryz.prog 276 _ (ReflectliteType.method ReflectliteType.elem) Tryz.func276 (by kernel_rfl) (by kernel_rfl) (by kernel_rfl) (by kernel_rfl)
  have h38 := @run_callFunc_extern Tryz.prog 277 _ (ReflectliteType.relation "Implements" ReflectliteType.implements_) Tryz.func277 (by kernel_rfl) (by kernel_rfl) (by kernel_rfl) (by kernel_rfl)
  have h10 := @run_callFunc_extern Tryz.prog 172 _ ReflectliteType.typeOf Tryz.func172 (by kernel_rfl) (by kernel_rfl) (by kernel_rfl) (by kernel_rfl)
  have h35 := @run_callFunc_extern Tryz.prog 274 _ (ReflectliteType.relation "AssignableTo" ReflectliteType.assignableTo) Tryz.func274 (by kernel_rfl) (by kernel_rfl) (by kernel_rfl) (by kernel_rfl)
  have tO := Tryz.typeOfE
  have mA := Tryz.methodAssignableTo
  have a25 := Tryz.assignableE
  have nA := Tryz.noAsE
  have uE := Tryz.noUnwrapE
  have vE := Tryz.noUnwrapsE
  have f6 := Tryz.valueOf27
  have f7 := Tryz.type27
  have mK := Tryz.methodKind
  have mE := Tryz.methodElem
  have mI := Tryz.methodImplements
  have k27 := Tryz.kind27
  have k25 := Tryz.kind25
  have e27 := Tryz.elem27
  have i25 := Tryz.implements25
  have n8 := Tryz.isNil27 ⟨w.heap.size, 0, none⟩ t ((w.alloc (.cells #[.pointer (some t)] 169)).alloc (.cells #[.pointer (some ⟨21, 169, none⟩), .pointer (some ⟨w.heap.size, 0, none⟩), .int .u64 150] 206)) (by simp)
  have hlt : 12 < w.heap.size := by
    rcases Nat.lt_or_ge 12 w.heap.size with h | h
    · exact h
    · simp [World.cell?, Array.getElem?_eq_none h] at hg
  have hg2 : ((w.alloc (.cells #[.pointer (some t)] 169)).alloc (.cells #[.pointer (some ⟨21, 169, none⟩), .pointer (some ⟨w.heap.size, 0, none⟩), .int .u64 150] 206)).cell? ⟨12, 0, none⟩ = some (.iface 247 (.agg #[.pointer (some ⟨21, 29, none⟩)])) := by
    rw [World.cell?_alloc_lt _ _ ⟨12, 0, none⟩ (by simp; omega), World.cell?_alloc_lt _ _ ⟨12, 0, none⟩ hlt]; exact hg
  go_enter Tryz.func129, Tryz.ntmps129
  go_wp2
  refine wp_loop_rounds 1 ?_
  rw [rounds_succ]
  go_wp2
  go_ret
  exact ⟨rfl, rfl⟩
end Go.Proofs.YtpkoefpdpoikkaaGreatDoor
