/-
  The contracts of errors.Is, errors.As and plain.Code at the errors of package api, bare or within an api.Fault.
-/
import Derived.Test.YtpkoefpdpoikkaaGreatDoorFileLaw
import Derived.LaidEql
import Derived.Stop.Asserts
import Derived.RowKitTokens
namespace Go.Proofs.YtpkoefpdpoikkaaGreatDoor
open Go.RowKit Go.Extern.Stop Go.Stop Go.Extern Go.Sort Go.Shelf Go.Lib

theorem cells6 (w : World) (f : Fl) : ∀ j u, (encF f)[j]? = some u → (w.alloc (.cells #[.string f.1, .string f.2.1, .int .i64 f.2.2.1, .int .i64 f.2.2.2.1, .int .i64 f.2.2.2.2.1, .int .i64 f.2.2.2.2.2] 23)).cell? ((⟨w.heap.size, 0, none⟩ : Addr).add j) = some u := by
  intro j u hu
  rw [Addr.add_lit, Nat.zero_add, cell_of_row _ _ _ _ _ _ (heap_alloc_new _ _)]
  rw [← hu]
  simp [encF]

set_option maxRecDepth 100000 in
set_option maxHeartbeats 2000000 in
theorem isBehind_any (p q : ByteArray) (w : World) (h1 : p.size ≤ 100000) (h2 : q.size ≤ 100000) :
    Calls Tryz.prog 100 #[.string p, .string q] w fun e w' => e = .returned (.bool (decide (pk q.data.toList < pk p.data.toList))) ∧ w' = w := by
  have ha := pathOf_any p w h1
  have hb := pathOf_any q w h2
  have hpp := @pk_some p.data.toList
  have hpq := @pk_some q.data.toList
  have key : ∀ s : List UInt8, (pathR s = ([], 0, 5) ∧ pk s = 0) ∨ (∃ n : Int, pathR s = (kData, n, 0) ∧ pk s = n ∧ 1 ≤ n ∧ n ≤ 1073741824) ∨ ∃ n : Int, pathR s = (kGone, n, 0) ∧ pk s = 1073741824 + n ∧ 1 ≤ n ∧ n ≤ 1073741824 := fun s => by
    cases hs : pathO s with
    | none => exact Or.inl ⟨pathR_none hs, by unfold pk; rw [hs]⟩
    | some gn =>
      obtain ⟨g, n⟩ := gn
      obtain ⟨e, b1, b2⟩ := pk_some hs
      cases g
      · exact Or.inr (Or.inl ⟨n, pathR_some hs, by simpa using e, b1, b2⟩)
      · exact Or.inr (Or.inr ⟨n, pathR_some hs, by simpa using e, b1, b2⟩)
  have ka := key p.data.toList
  have kb := key q.data.toList
  generalize pk p.data.toList = A at ka
  generalize pk q.data.toList = B at kb
  generalize pathR p.data.toList = RA at ha ka
  generalize pathR q.data.toList = RB at hb kb
  clear key hpp hpq h1 h2
  have eD : bytesOf kData = ⟨#[100, 97, 116, 97]⟩ := rfl
  have eG : bytesOf kGone = ⟨#[103, 111, 110, 101]⟩ := rfl
  have eE : bytesOf [] = ⟨#[]⟩ := rfl
  rcases ka with ⟨rfl, rfl⟩ | ⟨n, rfl, rfl, n1, n2⟩ | ⟨n, rfl, rfl, n1, n2⟩ <;> rcases kb with ⟨rfl, rfl⟩ | ⟨m, rfl, rfl, m1, m2⟩ | ⟨m, rfl, rfl, m1, m2⟩
  · dsimp only at ha hb
    rw [eE] at ha
    rw [eE] at hb
    go_enter Tryz.func100, Tryz.ntmps100
    go_wp2_with fail
    refine ha.mono ?_
    rintro e w1 ⟨rfl, hw1⟩
    rw [hw1]
    clear ha hw1
    go_wp2_with fail
    refine hb.mono ?_
    rintro e w2 ⟨rfl, hw2⟩
    rw [hw2]
    clear hb hw2
    go_wp2
    go_ret
    exact ⟨rfl, rfl⟩
  · dsimp only at ha hb
    rw [eE] at ha
    rw [eD] at hb
    have hd : decide ((B : Int) < 0) = false := decide_eq_false (by omega)
    rw [hd]
    clear hd
    have hg : ∀ W : World, (binOp .gtr 9 (.string ⟨#[]⟩) (.string ⟨#[100, 97, 116, 97]⟩)).run Tryz.prog W = .ok (.bool false) W := fun W => by first | rfl | kernel_rfl | simp [binOp, Op.stringOp]
    go_enter Tryz.func100, Tryz.ntmps100
    go_wp2_with fail
    refine ha.mono ?_
    rintro e w1 ⟨rfl, hw1⟩
    rw [hw1]
    clear ha hw1
    go_wp2_with fail
    refine hb.mono ?_
    rintro e w2 ⟨rfl, hw2⟩
    rw [hw2]
    clear hb hw2
    go_wp2
    go_ret
    exact ⟨rfl, rfl⟩
  · dsimp only at ha hb
    rw [eE] at ha
    rw [eG] at hb
    have hd : decide ((1073741824 + m : Int) < 0) = false := decide_eq_false (by omega)
    rw [hd]
    clear hd
    have hg : ∀ W : World, (binOp .gtr 9 (.string ⟨#[]⟩) (.string ⟨#[103, 111, 110, 101]⟩)).run Tryz.prog W = .ok (.bool false) W := fun W => by first | rfl | kernel_rfl | simp [binOp, Op.stringOp]
    go_enter Tryz.func100, Tryz.ntmps100
    go_wp2_with fail
    refine ha.mono ?_
    rintro e w1 ⟨rfl, hw1⟩
    rw [hw1]
    clear ha hw1
    go_wp2_with fail
    refine hb.mono ?_
    rintro e w2 ⟨rfl, hw2⟩
    rw [hw2]
    clear hb hw2
    go_wp2
    go_ret
    exact ⟨rfl, rfl⟩
  · dsimp only at ha hb
    rw [eD] at ha
    rw [eE] at hb
    have hd : decide ((0 : Int) < A) = true := decide_eq_true (by omega)
    rw [hd]
    clear hd
    have hg : ∀ W : World, (binOp .gtr 9 (.string ⟨#[100, 97, 116, 97]⟩) (.string ⟨#[]⟩)).run Tryz.prog W = .ok (.bool true) W := fun W => by first | rfl | kernel_rfl | simp [binOp, Op.stringOp]
    go_enter Tryz.func100, Tryz.ntmps100
    go_wp2_with fail
    refine ha.mono ?_
    rintro e w1 ⟨rfl, hw1⟩
    rw [hw1]
    clear ha hw1
    go_wp2_with fail
    refine hb.mono ?_
    rintro e w2 ⟨rfl, hw2⟩
    rw [hw2]
    clear hb hw2
    go_wp2
    go_ret
    exact ⟨rfl, rfl⟩
  · dsimp only at ha hb
    rw [eD] at ha
    rw [eD] at hb
    go_enter Tryz.func100, Tryz.ntmps100
    go_wp2_with fail
    refine ha.mono ?_
    rintro e w1 ⟨rfl, hw1⟩
    rw [hw1]
    clear ha hw1
    go_wp2_with fail
    refine hb.mono ?_
    rintro e w2 ⟨rfl, hw2⟩
    rw [hw2]
    clear hb hw2
    go_wp2
    go_ret
    exact ⟨rfl, rfl⟩
  · dsimp only at ha hb
    rw [eD] at ha
    rw [eG] at hb
    have hd : decide ((1073741824 + m : Int) < A) = false := decide_eq_false (by omega)
    rw [hd]
    clear hd
    have hg : ∀ W : World, (binOp .gtr 9 (.string ⟨#[100, 97, 116, 97]⟩) (.string ⟨#[103, 111, 110, 101]⟩)).run Tryz.prog W = .ok (.bool false) W := fun W => by first | rfl | kernel_rfl | simp [binOp, Op.stringOp]
    go_enter Tryz.func100, Tryz.ntmps100
    go_wp2_with fail
    refine ha.mono ?_
    rintro e w1 ⟨rfl, hw1⟩
    rw [hw1]
    clear ha hw1
    go_wp2_with fail
    refine hb.mono ?_
    rintro e w2 ⟨rfl, hw2⟩
    rw [hw2]
    clear hb hw2
    go_wp2
    go_ret
    exact ⟨rfl, rfl⟩
  · dsimp only at ha hb
    rw [eG] at ha
    rw [eE] at hb
    have hd : decide ((0 : Int) < 1073741824 + n) = true := decide_eq_true (by omega)
    rw [hd]
    clear hd
    have hg : ∀ W : World, (binOp .gtr 9 (.string ⟨#[103, 111, 110, 101]⟩) (.string ⟨#[]⟩)).run Tryz.prog W = .ok (.bool true) W := fun W => by first | rfl | kernel_rfl | simp [binOp, Op.stringOp]
    go_enter Tryz.func100, Tryz.ntmps100
    go_wp2_with fail
    refine ha.mono ?_
    rintro e w1 ⟨rfl, hw1⟩
    rw [hw1]
    clear ha hw1
    go_wp2_with fail
    refine hb.mono ?_
    rintro e w2 ⟨rfl, hw2⟩
    rw [hw2]
    clear hb hw2
    go_wp2
    go_ret
    exact ⟨rfl, rfl⟩
  · dsimp only at ha hb
    rw [eG] at ha
    rw [eD] at hb
    have hd : decide ((B : Int) < 1073741824 + n) = true := decide_eq_true (by omega)
    rw [hd]
    clear hd
    have hg : ∀ W : World, (binOp .gtr 9 (.string ⟨#[103, 111, 110, 101]⟩) (.string ⟨#[100, 97, 116, 97]⟩)).run Tryz.prog W = .ok (.bool true) W := fun W => by first | rfl | kernel_rfl | simp [binOp, Op.stringOp]
    go_enter Tryz.func100, Tryz.ntmps100
    go_wp2_with fail
    refine ha.mono ?_
    rintro e w1 ⟨rfl, hw1⟩
    rw [hw1]
    clear ha hw1
    go_wp2_with fail
    refine hb.mono ?_
    rintro e w2 ⟨rfl, hw2⟩
    rw [hw2]
    clear hb hw2
    go_wp2
    go_ret
    exact ⟨rfl, rfl⟩
  · dsimp only at ha hb
    rw [eG] at ha
    rw [eG] at hb
    go_enter Tryz.func100, Tryz.ntmps100
    go_wp2_with fail
    refine ha.mono ?_
    rintro e w1 ⟨rfl, hw1⟩
    rw [hw1]
    clear ha hw1
    go_wp2_with fail
    refine hb.mono ?_
    rintro e w2 ⟨rfl, hw2⟩
    rw [hw2]
    clear hb hw2
    go_wp2
    go_ret
    exact ⟨congrArg (fun b => Ending.returned (Value.bool b)) (by first | rfl | (simp <;> omega)), rfl⟩

end Go.Proofs.YtpkoefpdpoikkaaGreatDoor
namespace Go.Proofs.YtpkoefpdpoikkaaGreatDoor
open Go.RowKit Go.Extern.Stop Go.Stop Go.Extern

theorem Tryz.isTypeOf (v : Value) (w : World) : (Extern.ReflectliteType.typeOf #[.iface 289 v]).run Tryz.prog w = .ok (.iface 247 (.agg #[.pointer (some ⟨21, 289, none⟩)])) w := by kernel_rfl
def compEntry : Array Value → Sem Value := Extern.ReflectliteType.method fun t => do Extern.Rtype.noPackHeld "Comparable" t; pure (.bool (← typeInfo t).comparable)
theorem Tryz.isComparable (w : World) : (compEntry #[.agg #[.pointer (some ⟨21, 289, none⟩)]]).run Tryz.prog w = .ok (.bool true) w := by kernel_rfl
theorem Tryz.isMethodComparable (v : Value) (w : World) : (Go.method 424 247 v "Comparable").run Tryz.prog w = .ok (275, v) w := by kernel_rfl
theorem Tryz.isComp : (Tryz.prog.info? 289).map (·.comparable) = some true := by kernel_rfl
theorem Tryz.isSize : (Tryz.prog.info? 291).map (·.size) = some 1 := by kernel_rfl
theorem Tryz.noIsE (v : Value) (xT : TypeId) (w : World) : (Instr.typeAssert (.iface 289 v) xT 258 true).run Tryz.prog w = .ok (.tuple #[.nilIface, .bool false]) w := run_typeAssert_lacksB Tryz.underlying258 (by kernel_rfl) (by kernel_rfl) v xT w
theorem Tryz.noUnwrapE (v : Value) (xT : TypeId) (w : World) : (Instr.typeAssert (.iface 289 v) xT 254 true).run Tryz.prog w = .ok (.tuple #[.nilIface, .bool false]) w := run_typeAssert_lacksB Tryz.underlying254 (by kernel_rfl) (by kernel_rfl) v xT w
theorem Tryz.noUnwrapsE (v : Value) (xT : TypeId) (w : World) : (Instr.typeAssert (.iface 289 v) xT 256 true).run Tryz.prog w = .ok (.tuple #[.nilIface, .bool false]) w := run_typeAssert_lacksB Tryz.underlying256 (by kernel_rfl) (by kernel_rfl) v xT w
theorem Tryz.noAsE (v : Value) (xT : TypeId) (w : World) : (Instr.typeAssert (.iface 289 v) xT 251 true).run Tryz.prog w = .ok (.tuple #[.nilIface, .bool false]) w := run_typeAssert_lacksB Tryz.underlying251 (by kernel_rfl) (by kernel_rfl) v xT w
theorem Tryz.noIsW (v : Value) (xT : TypeId) (w : World) : (Instr.typeAssert (.iface 108 v) xT 258 true).run Tryz.prog w = .ok (.tuple #[.nilIface, .bool false]) w := run_typeAssert_lacksB Tryz.underlying258 (by kernel_rfl) (by kernel_rfl) v xT w
theorem Tryz.hasUnwrapW (v : Value) (xT : TypeId) (w : World) : (Instr.typeAssert (.iface 108 v) xT 254 true).run Tryz.prog w = .ok (.tuple #[.iface 108 v, .bool true]) w := run_typeAssert_hasB Tryz.underlying254 (by kernel_rfl) v xT w
theorem Tryz.methodUnwrap (v : Value) (w : World) : (Go.method 424 108 v "Unwrap").run Tryz.prog w = .ok (265, v) w := by kernel_rfl

theorem is_same (a : Addr) (w : World) :
    Calls Tryz.prog 130 #[.iface 289 (.pointer (some a)), .iface 289 (.pointer (some a))] w fun e w' => e = .returned (.bool true) ∧ w' = w := by
  obtain ⟨i, hi, hcmp⟩ := Option.map_eq_some_iff.1 Tryz.isComp
  obtain ⟨j, hj, hjs⟩ := Option.map_eq_some_iff.1 Tryz.isSize
  have h8 := @run_callFunc_extern Tryz.prog 172 _ Extern.ReflectliteType.typeOf Tryz.func172 (by kernel_rfl) (by kernel_rfl) (by kernel_rfl) (by kernel_rfl)
  have h32 := @run_callFunc_extern Tryz.prog 275 _ compEntry Tryz.func275 (by kernel_rfl) (by kernel_rfl) (by kernel_rfl) (by kernel_rfl)
  have tT := Tryz.isTypeOf
  have cT := Tryz.isComparable
  have mR := Tryz.isMethodComparable
  have heq := run_eql_iface_ptr_same (P := Tryz.prog) w a Tryz.underlying29 Tryz.underlying289 hi hcmp hj
  go_enter Tryz.func130, Tryz.ntmps130
  go_wp2
  refine wp_loop_rounds 1 ?_
  rw [rounds_succ]
  go_wp2
  go_ret
  exact ⟨rfl, rfl⟩

theorem is_other (a b : Addr) (ca cb : Array Value) (ta tb : TypeId) (w : World) (hne : a ≠ b) (ha : w.heap[a.block]? = some (.cells ca ta (0, 0))) (hb : w.heap[b.block]? = some (.cells cb tb (0, 0))) :
    Calls Tryz.prog 130 #[.iface 289 (.pointer (some a)), .iface 289 (.pointer (some b))] w fun e w' => e = .returned (.bool false) ∧ w' = w := by
  obtain ⟨i, hi, hcmp⟩ := Option.map_eq_some_iff.1 Tryz.isComp
  obtain ⟨j, hj, hjs⟩ := Option.map_eq_some_iff.1 Tryz.isSize
  have h8 := @run_callFunc_extern Tryz.prog 172 _ Extern.ReflectliteType.typeOf Tryz.func172 (by kernel_rfl) (by kernel_rfl) (by kernel_rfl) (by kernel_rfl)
  have h32 := @run_callFunc_extern Tryz.prog 275 _ compEntry Tryz.func275 (by kernel_rfl) (by kernel_rfl) (by kernel_rfl) (by kernel_rfl)
  have tT := Tryz.isTypeOf
  have cT := Tryz.isComparable
  have mR := Tryz.isMethodComparable
  have nE := Tryz.noIsE
  have uE := Tryz.noUnwrapE
  have vE := Tryz.noUnwrapsE
  have heq := run_eql_iface_ptr_other (P := Tryz.prog) w Tryz.underlying29 Tryz.underlying289 hi hcmp hj (by rw [hjs]; decide) hne ha hb
  go_enter Tryz.func130, Tryz.ntmps130
  go_wp2
  refine wp_loop_rounds 1 ?_
  rw [rounds_succ]
  go_wp2
  go_ret
  exact ⟨rfl, rfl⟩

theorem is_wrap_same (pb po : Nat) (b : Addr) (w : World) (h1 : w.cell? ⟨pb, po + 1, none⟩ = some (.iface 289 (.pointer (some b)))) :
    Calls Tryz.prog 130 #[.iface 108 (.pointer (some ⟨pb, po, none⟩)), .iface 289 (.pointer (some b))] w fun e w' => e = .returned (.bool true) ∧ w' = w := by
  obtain ⟨i, hi, hcmp⟩ := Option.map_eq_some_iff.1 Tryz.isComp
  obtain ⟨j, hj, hjs⟩ := Option.map_eq_some_iff.1 Tryz.isSize
  have h8 := @run_callFunc_extern Tryz.prog 172 _ Extern.ReflectliteType.typeOf Tryz.func172 (by kernel_rfl) (by kernel_rfl) (by kernel_rfl) (by kernel_rfl)
  have h32 := @run_callFunc_extern Tryz.prog 275 _ compEntry Tryz.func275 (by kernel_rfl) (by kernel_rfl) (by kernel_rfl) (by kernel_rfl)
  have tT := Tryz.isTypeOf
  have cT := Tryz.isComparable
  have mR := Tryz.isMethodComparable
  have nE := Tryz.noIsE
  have uE := Tryz.noUnwrapE
  have vE := Tryz.noUnwrapsE
  have nW := Tryz.noIsW
  have uW := Tryz.hasUnwrapW
  have mU := Tryz.methodUnwrap
  have heq := run_eql_iface_ptr_same (P := Tryz.prog) w b Tryz.underlying29 Tryz.underlying289 hi hcmp hj
  have hty := run_eql_iface_types (P := Tryz.prog) 108 289 (.pointer (some ⟨pb, po, none⟩)) (.pointer (some b)) Tryz.underlying29 (by decide) w
  go_enter Tryz.func130, Tryz.ntmps130
  go_wp2
  refine wp_loop_rounds 2 ?_
  rw [rounds_succ]
  go_wp2
  rw [rounds_succ]
  go_wp2
  go_ret
  exact ⟨rfl, rfl⟩

theorem is_wrap_other (pb po : Nat) (b a : Addr) (ca cb : Array Value) (ta tb : TypeId) (w : World) (h1 : w.cell? ⟨pb, po + 1, none⟩ = some (.iface 289 (.pointer (some a)))) (hne : a ≠ b) (ha : w.heap[a.block]? = some (.cells ca ta (0, 0))) (hb : w.heap[b.block]? = some (.cells cb tb (0, 0))) :
    Calls Tryz.prog 130 #[.iface 108 (.pointer (some ⟨pb, po, none⟩)), .iface 289 (.pointer (some b))] w fun e w' => e = .returned (.bool false) ∧ w' = w := by
  obtain ⟨i, hi, hcmp⟩ := Option.map_eq_some_iff.1 Tryz.isComp
  obtain ⟨j, hj, hjs⟩ := Option.map_eq_some_iff.1 Tryz.isSize
  have h8 := @run_callFunc_extern Tryz.prog 172 _ Extern.ReflectliteType.typeOf Tryz.func172 (by kernel_rfl) (by kernel_rfl) (by kernel_rfl) (by kernel_rfl)
  have h32 := @run_callFunc_extern Tryz.prog 275 _ compEntry Tryz.func275 (by kernel_rfl) (by kernel_rfl) (by kernel_rfl) (by kernel_rfl)
  have tT := Tryz.isTypeOf
  have cT := Tryz.isComparable
  have mR := Tryz.isMethodComparable
  have nE := Tryz.noIsE
  have uE := Tryz.noUnwrapE
  have vE := Tryz.noUnwrapsE
  have nW := Tryz.noIsW
  have uW := Tryz.hasUnwrapW
  have mU := Tryz.methodUnwrap
  have heq := run_eql_iface_ptr_other (P := Tryz.prog) w Tryz.underlying29 Tryz.underlying289 hi hcmp hj (by rw [hjs]; decide) hne ha hb
  have hty := run_eql_iface_types (P := Tryz.prog) 108 289 (.pointer (some ⟨pb, po, none⟩)) (.pointer (some b)) Tryz.underlying29 (by decide) w
  go_enter Tryz.func130, Tryz.ntmps130
  go_wp2
  refine wp_loop_rounds 2 ?_
  rw [rounds_succ]
  go_wp2
  rw [rounds_succ]
  go_wp2
  go_ret
  exact ⟨rfl, rfl⟩
end Go.Proofs.YtpkoefpdpoikkaaGreatDoor
