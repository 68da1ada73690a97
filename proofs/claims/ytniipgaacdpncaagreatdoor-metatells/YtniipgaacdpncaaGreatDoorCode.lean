/-
  The contracts of errors.Is, errors.As and plain.Code at the errors of package api, bare or within an api.Fault.
  The contracts of errors.As with a target of type **api.Fault: at an api.Fault it is a hit; at an errors.errorString it is a miss.
  The contract of plain.Code: at each error of package api, bare or within an api.Fault, at nil, and at another errors.errorString, it tells the number and the place.
-/
import Derived.Test.YtniipgaacdpncaaGreatDoorProg
import Derived.WalkKit
import Derived.LaidEql
import Derived.Stop.Asserts
import Derived.RowKitTokens
namespace Go.Proofs.YtniipgaacdpncaaGreatDoor
open Go.RowKit Go.Extern.Stop Go.Stop Go.Extern

theorem Tryz.isTypeOf (v : Value) (w : World) : (Extern.ReflectliteType.typeOf #[.iface 159 v]).run Tryz.prog w = .ok (.iface 110 (.agg #[.pointer (some ⟨21, 159, none⟩)])) w := by kernel_rfl
def compEntry : Array Value → Sem Value := Extern.ReflectliteType.method fun t => do Extern.Rtype.noPackHeld "Comparable" t; pure (.bool (← typeInfo t).comparable)
theorem Tryz.isComparable (w : World) : (compEntry #[.agg #[.pointer (some ⟨21, 159, none⟩)]]).run Tryz.prog w = .ok (.bool true) w := by kernel_rfl
theorem Tryz.isMethodComparable (v : Value) (w : World) : (Go.method 289 110 v "Comparable").run Tryz.prog w = .ok (123, v) w := by kernel_rfl
theorem Tryz.isComp : (Tryz.prog.info? 159).map (·.comparable) = some true := by kernel_rfl
theorem Tryz.isSize : (Tryz.prog.info? 161).map (·.size) = some 1 := by kernel_rfl
theorem Tryz.noIsE (v : Value) (xT : TypeId) (w : World) : (Instr.typeAssert (.iface 159 v) xT 121 true).run Tryz.prog w = .ok (.tuple #[.nilIface, .bool false]) w := run_typeAssert_lacksB Tryz.underlying121 (by kernel_rfl) (by kernel_rfl) v xT w
theorem Tryz.noUnwrapE (v : Value) (xT : TypeId) (w : World) : (Instr.typeAssert (.iface 159 v) xT 117 true).run Tryz.prog w = .ok (.tuple #[.nilIface, .bool false]) w := run_typeAssert_lacksB Tryz.underlying117 (by kernel_rfl) (by kernel_rfl) v xT w
theorem Tryz.noUnwrapsE (v : Value) (xT : TypeId) (w : World) : (Instr.typeAssert (.iface 159 v) xT 119 true).run Tryz.prog w = .ok (.tuple #[.nilIface, .bool false]) w := run_typeAssert_lacksB Tryz.underlying119 (by kernel_rfl) (by kernel_rfl) v xT w
theorem Tryz.noAsE (v : Value) (xT : TypeId) (w : World) : (Instr.typeAssert (.iface 159 v) xT 114 true).run Tryz.prog w = .ok (.tuple #[.nilIface, .bool false]) w := run_typeAssert_lacksB Tryz.underlying114 (by kernel_rfl) (by kernel_rfl) v xT w
theorem Tryz.noIsW (v : Value) (xT : TypeId) (w : World) : (Instr.typeAssert (.iface 58 v) xT 121 true).run Tryz.prog w = .ok (.tuple #[.nilIface, .bool false]) w := run_typeAssert_lacksB Tryz.underlying121 (by kernel_rfl) (by kernel_rfl) v xT w
theorem Tryz.hasUnwrapW (v : Value) (xT : TypeId) (w : World) : (Instr.typeAssert (.iface 58 v) xT 117 true).run Tryz.prog w = .ok (.tuple #[.iface 58 v, .bool true]) w := run_typeAssert_hasB Tryz.underlying117 (by kernel_rfl) v xT w
theorem Tryz.methodUnwrap (v : Value) (w : World) : (Go.method 289 58 v "Unwrap").run Tryz.prog w = .ok (117, v) w := by kernel_rfl

/-- errors.Is(x, x), x a pointer to an errors.errorString. -/
theorem is_same (a : Addr) (w : World) :
    Calls Tryz.prog 39 #[.iface 159 (.pointer (some a)), .iface 159 (.pointer (some a))] w fun e w' => e = .returned (.bool true) ∧ w' = w := by
  obtain ⟨i, hi, hcmp⟩ := Option.map_eq_some_iff.1 Tryz.isComp
  obtain ⟨j, hj, hjs⟩ := Option.map_eq_some_iff.1 Tryz.isSize
  have h8 := @run_callFunc_extern Tryz.prog 54 _ Extern.ReflectliteType.typeOf Tryz.func54 (by kernel_rfl) (by kernel_rfl) (by kernel_rfl) (by kernel_rfl)
  have h32 := @run_callFunc_extern Tryz.prog 123 _ compEntry Tryz.func123 (by kernel_rfl) (by kernel_rfl) (by kernel_rfl) (by kernel_rfl)
  have tT := Tryz.isTypeOf
  have cT := Tryz.isComparable
  have mR := Tryz.isMethodComparable
  have heq := run_eql_iface_ptr_same (P := Tryz.prog) w a Tryz.underlying28 Tryz.underlying159 hi hcmp hj
  go_enter Tryz.func39, Tryz.ntmps39
  go_wp2
  refine wp_loop_rounds 1 ?_
  rw [rounds_succ]
  go_wp2
  go_ret
  exact ⟨rfl, rfl⟩

/-- errors.Is(x, y), two different pointers to errors.errorString. -/
theorem is_other (a b : Addr) (ca cb : Array Value) (ta tb : TypeId) (w : World) (hne : a ≠ b) (ha : w.heap[a.block]? = some (.cells ca ta (0, 0))) (hb : w.heap[b.block]? = some (.cells cb tb (0, 0))) :
    Calls Tryz.prog 39 #[.iface 159 (.pointer (some a)), .iface 159 (.pointer (some b))] w fun e w' => e = .returned (.bool false) ∧ w' = w := by
  obtain ⟨i, hi, hcmp⟩ := Option.map_eq_some_iff.1 Tryz.isComp
  obtain ⟨j, hj, hjs⟩ := Option.map_eq_some_iff.1 Tryz.isSize
  have h8 := @run_callFunc_extern Tryz.prog 54 _ Extern.ReflectliteType.typeOf Tryz.func54 (by kernel_rfl) (by kernel_rfl) (by kernel_rfl) (by kernel_rfl)
  have h32 := @run_callFunc_extern Tryz.prog 123 _ compEntry Tryz.func123 (by kernel_rfl) (by kernel_rfl) (by kernel_rfl) (by kernel_rfl)
  have tT := Tryz.isTypeOf
  have cT := Tryz.isComparable
  have mR := Tryz.isMethodComparable
  have nE := Tryz.noIsE
  have uE := Tryz.noUnwrapE
  have vE := Tryz.noUnwrapsE
  have heq := run_eql_iface_ptr_other (P := Tryz.prog) w Tryz.underlying28 Tryz.underlying159 hi hcmp hj (by rw [hjs]; decide) hne ha hb
  go_enter Tryz.func39, Tryz.ntmps39
  go_wp2
  refine wp_loop_rounds 1 ?_
  rw [rounds_succ]
  go_wp2
  go_ret
  exact ⟨rfl, rfl⟩

/-- errors.Is(e, x), e an api.Fault around x itself. -/
theorem is_wrap_same (pb po : Nat) (b : Addr) (w : World) (h1 : w.cell? ⟨pb, po + 1, none⟩ = some (.iface 159 (.pointer (some b)))) :
    Calls Tryz.prog 39 #[.iface 58 (.pointer (some ⟨pb, po, none⟩)), .iface 159 (.pointer (some b))] w fun e w' => e = .returned (.bool true) ∧ w' = w := by
  obtain ⟨i, hi, hcmp⟩ := Option.map_eq_some_iff.1 Tryz.isComp
  obtain ⟨j, hj, hjs⟩ := Option.map_eq_some_iff.1 Tryz.isSize
  have h8 := @run_callFunc_extern Tryz.prog 54 _ Extern.ReflectliteType.typeOf Tryz.func54 (by kernel_rfl) (by kernel_rfl) (by kernel_rfl) (by kernel_rfl)
  have h32 := @run_callFunc_extern Tryz.prog 123 _ compEntry Tryz.func123 (by kernel_rfl) (by kernel_rfl) (by kernel_rfl) (by kernel_rfl)
  have tT := Tryz.isTypeOf
  have cT := Tryz.isComparable
  have mR := Tryz.isMethodComparable
  have nE := Tryz.noIsE
  have uE := Tryz.noUnwrapE
  have vE := Tryz.noUnwrapsE
  have nW := Tryz.noIsW
  have uW := Tryz.hasUnwrapW
  have mU := Tryz.methodUnwrap
  have heq := run_eql_iface_ptr_same (P := Tryz.prog) w b Tryz.underlying28 Tryz.underlying159 hi hcmp hj
  have hty := run_eql_iface_types (P := Tryz.prog) 58 159 (.pointer (some ⟨pb, po, none⟩)) (.pointer (some b)) Tryz.underlying28 (by decide) w
  go_enter Tryz.func39, Tryz.ntmps39
  go_wp2
  refine wp_loop_rounds 2 ?_
  rw [rounds_succ]
  go_wp2
  rw [rounds_succ]
  go_wp2
  go_ret
  exact ⟨rfl, rfl⟩

/-- errors.Is(e, x), e an api.Fault around another error. -/
theorem is_wrap_other (pb po : Nat) (b a : Addr) (ca cb : Array Value) (ta tb : TypeId) (w : World) (h1 : w.cell? ⟨pb, po + 1, none⟩ = some (.iface 159 (.pointer (some a)))) (hne : a ≠ b) (ha : w.heap[a.block]? = some (.cells ca ta (0, 0))) (hb : w.heap[b.block]? = some (.cells cb tb (0, 0))) :
    Calls Tryz.prog 39 #[.iface 58 (.pointer (some ⟨pb, po, none⟩)), .iface 159 (.pointer (some b))] w fun e w' => e = .returned (.bool false) ∧ w' = w := by
  obtain ⟨i, hi, hcmp⟩ := Option.map_eq_some_iff.1 Tryz.isComp
  obtain ⟨j, hj, hjs⟩ := Option.map_eq_some_iff.1 Tryz.isSize
  have h8 := @run_callFunc_extern Tryz.prog 54 _ Extern.ReflectliteType.typeOf Tryz.func54 (by kernel_rfl) (by kernel_rfl) (by kernel_rfl) (by kernel_rfl)
  have h32 := @run_callFunc_extern Tryz.prog 123 _ compEntry Tryz.func123 (by kernel_rfl) (by kernel_rfl) (by kernel_rfl) (by kernel_rfl)
  have tT := Tryz.isTypeOf
  have cT := Tryz.isComparable
  have mR := Tryz.isMethodComparable
  have nE := Tryz.noIsE
  have uE := Tryz.noUnwrapE
  have vE := Tryz.noUnwrapsE
  have nW := Tryz.noIsW
  have uW := Tryz.hasUnwrapW
  have mU := Tryz.methodUnwrap
  have heq := run_eql_iface_ptr_other (P := Tryz.prog) w Tryz.underlying28 Tryz.underlying159 hi hcmp hj (by rw [hjs]; decide) hne ha hb
  have hty := run_eql_iface_types (P := Tryz.prog) 58 159 (.pointer (some ⟨pb, po, none⟩)) (.pointer (some b)) Tryz.underlying28 (by decide) w
  go_enter Tryz.func39, Tryz.ntmps39
  go_wp2
  refine wp_loop_rounds 2 ?_
  rw [rounds_succ]
  go_wp2
  rw [rounds_succ]
  go_wp2
  go_ret
  exact ⟨rfl, rfl⟩
end Go.Proofs.YtniipgaacdpncaaGreatDoor
namespace Go.Proofs.YtniipgaacdpncaaGreatDoor
open Go.RowKit Go.Extern.Stop Go.Stop Go.Extern

theorem Tryz.valueOf27 (t : Addr) (w : World) : (ReflectliteValue.unpack (.iface 74 (.pointer (some t)))).run Tryz.prog w
    = .ok (.agg #[.pointer (some ⟨21, 74, none⟩), .pointer (some ⟨w.heap.size, 0, none⟩), .int .u64 150]) (w.alloc (.cells #[.pointer (some t)] 74)) := by kernel_rfl
theorem Tryz.type27 (a : Addr) (w : World) : (ReflectliteValue.methodAny (ReflectliteValue.valueError "reflectlite.Value.Type" 0) (fun t _ _ _ => ReflectliteType.toType t) #[.agg #[.pointer (some ⟨21, 74, none⟩), .pointer (some a), .int .u64 150]]).run Tryz.prog w
    = .ok (.iface 110 (.agg #[.pointer (some ⟨21, 74, none⟩)])) w := by kernel_rfl
theorem Tryz.methodKind (h : Value) (w : World) : (Go.method 289 110 (.agg #[h]) "Kind").run Tryz.prog w = .ok (112, h) w := by kernel_rfl
theorem Tryz.kind27 (w : World) : ((ReflectliteType.abiMethod fun t => (fun a : Nat => Value.int IntKind.u8 (a : Int)) <$> Rtype.kind t) #[.pointer (some ⟨21, 74, none⟩)]).run Tryz.prog w = .ok (.int .u8 22) w := by kernel_rfl
theorem Tryz.kind25 (w : World) : ((ReflectliteType.abiMethod fun t => (fun a : Nat => Value.int IntKind.u8 (a : Int)) <$> Rtype.kind t) #[.pointer (some ⟨21, 58, none⟩)]).run Tryz.prog w = .ok (.int .u8 22) w := by kernel_rfl

theorem Tryz.parts27 (a : Addr) (w : World) : (ReflectliteValue.parts (.agg #[.pointer (some ⟨21, 74, none⟩), .pointer (some a), .int .u64 150])).run Tryz.prog w = .ok (some (74, a, 150)) w := by kernel_rfl
theorem Tryz.isNil27 (a p : Addr) (W : World) (ha : W.cell? a = some (.pointer (some p))) :
    (ReflectliteValue.method (ReflectliteValue.valueError "reflectlite.Value.IsNil" 0) ReflectliteValue.isNil #[.agg #[.pointer (some ⟨21, 74, none⟩), .pointer (some a), .int .u64 150]]).run Tryz.prog W = .ok (.bool false) W := by
  delta ReflectliteValue.method ReflectliteValue.method.match_2
  dsimp only
  refine Eq.trans (congrArg (fun z => Sem.run Tryz.prog z W) (dif_pos rfl)) ?_
  simp only [Sem.run_bind, Array.getLit, List.getElem_toArray, List.getElem_cons_zero, Tryz.parts27, Result.andThen]
  simp [ReflectliteValue.isNil, loadVar, isAgg, underlying, Tryz.underlying74, ha, Result.andThen]

theorem Tryz.methodElem (h : Value) (w : World) : (Go.method 289 110 (.agg #[h]) "Elem").run Tryz.prog w = .ok (124, .agg #[h]) w := by kernel_rfl
theorem Tryz.methodImplements (h : Value) (w : World) : (Go.method 289 110 (.agg #[h]) "Implements").run Tryz.prog w = .ok (125, .agg #[h]) w := by kernel_rfl
theorem Tryz.methodAssignableTo (h : Value) (w : World) : (Go.method 289 110 (.agg #[h]) "AssignableTo").run Tryz.prog w = .ok (122, .agg #[h]) w := by kernel_rfl
theorem Tryz.elem27 (w : World) : (ReflectliteType.method ReflectliteType.elem #[.agg #[.pointer (some ⟨21, 74, none⟩)]]).run Tryz.prog w = .ok (.iface 110 (.agg #[.pointer (some ⟨21, 58, none⟩)])) w := by kernel_rfl
theorem Tryz.implements25 (w : World) : (ReflectliteType.relation "Implements" ReflectliteType.implements_ #[.agg #[.pointer (some ⟨21, 58, none⟩)], .iface 110 (.agg #[.pointer (some ⟨21, 28, none⟩)])]).run Tryz.prog w = .ok (.bool true) w := by kernel_rfl
theorem Tryz.typeOf25 (v : Value) (w : World) : (ReflectliteType.typeOf #[.iface 58 v]).run Tryz.prog w = .ok (.iface 110 (.agg #[.pointer (some ⟨21, 58, none⟩)])) w := by kernel_rfl
theorem Tryz.assignable25 (w : World) : (ReflectliteType.relation "AssignableTo" ReflectliteType.assignableTo #[.agg #[.pointer (some ⟨21, 58, none⟩)], .iface 110 (.agg #[.pointer (some ⟨21, 58, none⟩)])]).run Tryz.prog w = .ok (.bool true) w := by kernel_rfl
theorem Tryz.valueOf25 (e : Addr) (w : World) : (ReflectliteValue.unpack (.iface 58 (.pointer (some e)))).run Tryz.prog w
    = .ok (.agg #[.pointer (some ⟨21, 58, none⟩), .pointer (some ⟨w.heap.size, 0, none⟩), .int .u64 150]) (w.alloc (.cells #[.pointer (some e)] 58)) := by kernel_rfl

theorem Tryz.elemOf27 (w : World) : (Rtype.elem? 74).run Tryz.prog w = .ok (some 58) w := by kernel_rfl
theorem Tryz.mk25 (p : Addr) (w : World) : (ReflectliteValue.mk 58 p ReflectliteValue.flagAddr).run Tryz.prog w = .ok (.agg #[.pointer (some ⟨21, 58, none⟩), .pointer (some p), .int .u64 406]) w := by kernel_rfl
theorem Tryz.elemV27 (a p : Addr) (W : World) (ha : W.cell? a = some (.pointer (some p))) :
    (ReflectliteValue.method (ReflectliteValue.valueError "reflectlite.Value.Elem" 0) ReflectliteValue.elem #[.agg #[.pointer (some ⟨21, 74, none⟩), .pointer (some a), .int .u64 150]]).run Tryz.prog W
      = .ok (.agg #[.pointer (some ⟨21, 58, none⟩), .pointer (some p), .int .u64 406]) W := by
  delta ReflectliteValue.method ReflectliteValue.method.match_2
  dsimp only
  refine Eq.trans (congrArg (fun z => Sem.run Tryz.prog z W) (dif_pos rfl)) ?_
  simp only [Sem.run_bind, Array.getLit, List.getElem_toArray, List.getElem_cons_zero, Tryz.parts27, Result.andThen]
  simp [ReflectliteValue.elem, loadVar, isAgg, underlying, Tryz.underlying74, ha, Result.andThen, Tryz.elemOf27, Tryz.mk25]
theorem Tryz.parts25a (a : Addr) (w : World) : (ReflectliteValue.parts (.agg #[.pointer (some ⟨21, 58, none⟩), .pointer (some a), .int .u64 406])).run Tryz.prog w = .ok (some (58, a, 406)) w := by kernel_rfl
theorem Tryz.parts25 (a : Addr) (w : World) : (ReflectliteValue.parts (.agg #[.pointer (some ⟨21, 58, none⟩), .pointer (some a), .int .u64 150])).run Tryz.prog w = .ok (some (58, a, 150)) w := by kernel_rfl
theorem Tryz.direct25 (w : World) : (Rtype.directlyAssignable 58 58).run Tryz.prog w = .ok true w := by kernel_rfl
theorem Tryz.size25 (w : World) : (sizeOf 58).run Tryz.prog w = .ok 1 w := by kernel_rfl
theorem Tryz.set25 (ta b e : Addr) (old : Value) (W : World) (hb : W.cell? b = some (.pointer (some e))) (ht : W.cell? ta = some old) (hf : W.frozen? ta = false) :
    (ReflectliteValue.set #[.agg #[.pointer (some ⟨21, 58, none⟩), .pointer (some ta), .int .u64 406], .agg #[.pointer (some ⟨21, 58, none⟩), .pointer (some b), .int .u64 150]]).run Tryz.prog W
      = .ok (.tuple #[]) (W.setCell ta (.pointer (some e))) := by
  delta ReflectliteValue.set ReflectliteValue.set.match_3
  dsimp only
  refine Eq.trans (congrArg (fun z => Sem.run Tryz.prog z W) (dif_pos rfl)) ?_
  simp only [Sem.run_bind, Array.getLit, List.getElem_toArray, List.getElem_cons_zero, List.getElem_cons_succ, Tryz.parts25a, Tryz.parts25, Result.andThen]
  simp [ReflectliteValue.flagAddr, loadVar, isAgg, underlying, Tryz.underlying58, hb, Result.andThen, Tryz.direct25, storeVar, Value.cells, storeCells, Addr.add]
  rw [run_store Tryz.prog W ta _ _ (by rfl)]
  simp [ht, hf]

set_option maxHeartbeats 4000000 in
theorem as_hit (e t : Addr) (old : Value) (w : World) (hg : w.cell? ⟨12, 0, none⟩ = some (.iface 110 (.agg #[.pointer (some ⟨21, 28, none⟩)]))) (ht0 : w.cell? t = some old) (hf0 : w.frozen? t = false) :
    Calls Tryz.prog 38 #[.iface 58 (.pointer (some e)), .iface 74 (.pointer (some t))] w fun ev w' => ev = .returned (.bool true) ∧ w' = ((((w.alloc (.cells #[.pointer (some t)] 74)).alloc (.cells #[.pointer (some ⟨21, 74, none⟩), .pointer (some ⟨w.heap.size, 0, none⟩), .int .u64 150] 89)).alloc (.cells #[.pointer (some ⟨21, 74, none⟩), .pointer (some ⟨w.heap.size, 0, none⟩), .int .u64 150] 89)).alloc (.cells #[.pointer (some e)] 58)).setCell t (.pointer (some e)) := by
  have h6 := @run_callFunc_extern Tryz.prog 50 _ (fun args => ReflectliteValue.unpack (args.getD 0 (.tuple #[]))) Tryz.func50 (by kernel_rfl) (by kernel_rfl) (by kernel_rfl) (by kernel_rfl)
  have h7 := @run_callFunc_extern Tryz.prog 51 _ (ReflectliteValue.methodAny (ReflectliteValue.valueError "reflectlite.Value.Type" 0) (fun t _ _ _ => ReflectliteType.toType t)) Tryz.func51 (by kernel_rfl) (by kernel_rfl) (by kernel_rfl) (by kernel_rfl)
  have h8 := @run_callFunc_extern Tryz.prog 52 _ (ReflectliteValue.method (ReflectliteValue.valueError "reflectlite.Value.IsNil" 0) ReflectliteValue.isNil) Tryz.func52 (by kernel_rfl) (by kernel_rfl) (by kernel_rfl) (by kernel_rfl)
  have h27 := @run_callFunc_extern Tryz.prog 112 _ (ReflectliteType.abiMethod fun t => do pure (.int .u8 (← Rtype.kind t))) Tryz.func112 (by kernel_rfl) (by kernel_rfl) (by kernel_rfl) (by kernel_rfl)
  have h37 := @run_callFunc_extern Tryz.prog 124 _ (ReflectliteType.method ReflectliteType.elem) Tryz.func124 (by kernel_rfl) (by kernel_rfl) (by kernel_rfl) (by kernel_rfl)
  have h38 := @run_callFunc_extern Tryz.prog 125 _ (ReflectliteType.relation "Implements" ReflectliteType.implements_) Tryz.func125 (by kernel_rfl) (by kernel_rfl) (by kernel_rfl) (by kernel_rfl)
  have h10 := @run_callFunc_extern Tryz.prog 54 _ ReflectliteType.typeOf Tryz.func54 (by kernel_rfl) (by kernel_rfl) (by kernel_rfl) (by kernel_rfl)
  have h35 := @run_callFunc_extern Tryz.prog 122 _ (ReflectliteType.relation "AssignableTo" ReflectliteType.assignableTo) Tryz.func122 (by kernel_rfl) (by kernel_rfl) (by kernel_rfl) (by kernel_rfl)
  have h11 := @run_callFunc_extern Tryz.prog 66 _ (ReflectliteValue.method (ReflectliteValue.valueError "reflectlite.Value.Elem" 0) ReflectliteValue.elem) Tryz.func66 (by kernel_rfl) (by kernel_rfl) (by kernel_rfl) (by kernel_rfl)
  have h12 := @run_callFunc_extern Tryz.prog 67 _ ReflectliteValue.set Tryz.func67 (by kernel_rfl) (by kernel_rfl) (by kernel_rfl) (by kernel_rfl)
  have tO := Tryz.typeOf25
  have mA := Tryz.methodAssignableTo
  have a25 := Tryz.assignable25
  have v25 := Tryz.valueOf25
  have f6 := Tryz.valueOf27
  have f7 := Tryz.type27
  have mK := Tryz.methodKind
  have mE := Tryz.methodElem
  have mI := Tryz.methodImplements
  have k27 := Tryz.kind27
  have k25 := Tryz.kind25
  have e27 := Tryz.elem27
  have i25 := Tryz.implements25
  have n8 := Tryz.isNil27 ⟨w.heap.size, 0, none⟩ t ((w.alloc (.cells #[.pointer (some t)] 74)).alloc (.cells #[.pointer (some ⟨21, 74, none⟩), .pointer (some ⟨w.heap.size, 0, none⟩), .int .u64 150] 89)) (by simp)
  have hlt : 12 < w.heap.size := by
    rcases Nat.lt_or_ge 12 w.heap.size with h | h
    · exact h
    · simp [World.cell?, Array.getElem?_eq_none h] at hg
  have hg2 : ((w.alloc (.cells #[.pointer (some t)] 74)).alloc (.cells #[.pointer (some ⟨21, 74, none⟩), .pointer (some ⟨w.heap.size, 0, none⟩), .int .u64 150] 89)).cell? ⟨12, 0, none⟩ = some (.iface 110 (.agg #[.pointer (some ⟨21, 28, none⟩)])) := by
    rw [World.cell?_alloc_lt _ _ ⟨12, 0, none⟩ (by simp; omega), World.cell?_alloc_lt _ _ ⟨12, 0, none⟩ hlt]; exact hg
  have htl : t.block < w.heap.size := by
    rcases Nat.lt_or_ge t.block w.heap.size with h | h
    · exact h
    · simp [World.cell?, Array.getElem?_eq_none h] at ht0
  have el := Tryz.elemV27 ⟨w.heap.size, 0, none⟩ t (((w.alloc (.cells #[.pointer (some t)] 74)).alloc (.cells #[.pointer (some ⟨21, 74, none⟩), .pointer (some ⟨w.heap.size, 0, none⟩), .int .u64 150] 89)).alloc (.cells #[.pointer (some ⟨21, 74, none⟩), .pointer (some ⟨w.heap.size, 0, none⟩), .int .u64 150] 89)) (by rw [World.cell?_alloc_lt _ _ ⟨w.heap.size, 0, none⟩ (by simp; omega)]; simp)
  have st := Tryz.set25 t ⟨w.heap.size + 1 + 1 + 1, 0, none⟩ e old ((((w.alloc (.cells #[.pointer (some t)] 74)).alloc (.cells #[.pointer (some ⟨21, 74, none⟩), .pointer (some ⟨w.heap.size, 0, none⟩), .int .u64 150] 89)).alloc (.cells #[.pointer (some ⟨21, 74, none⟩), .pointer (some ⟨w.heap.size, 0, none⟩), .int .u64 150] 89)).alloc (.cells #[.pointer (some e)] 58))
    (by rw [World.cell?_alloc_at _ _ _ _ (by simp)]; rfl)
    (by rw [World.cell?_alloc_lt _ _ t (by simp; omega), World.cell?_alloc_lt _ _ t (by simp; omega), World.cell?_alloc_lt _ _ t (by simp; omega), World.cell?_alloc_lt _ _ t htl]; exact ht0)
    (by rw [World.frozen?_alloc_old _ _ t (by simp; omega), World.frozen?_alloc_old _ _ t (by simp; omega), World.frozen?_alloc_old _ _ t (by simp; omega), World.frozen?_alloc_old _ _ t (Nat.ne_of_lt htl)]; exact hf0)
  go_enter Tryz.func38, Tryz.ntmps38
  go_wp2
  refine wp_loop_rounds 1 ?_
  rw [rounds_succ]
  go_wp2
  go_ret
  exact ⟨rfl, rfl⟩

theorem Tryz.typeOfE (v : Value) (w : World) : (ReflectliteType.typeOf #[.iface 159 v]).run Tryz.prog w = .ok (.iface 110 (.agg #[.pointer (some ⟨21, 159, none⟩)])) w := by kernel_rfl
theorem Tryz.assignableE (w : World) : (ReflectliteType.relation "AssignableTo" ReflectliteType.assignableTo #[.agg #[.pointer (some ⟨21, 159, none⟩)], .iface 110 (.agg #[.pointer (some ⟨21, 58, none⟩)])]).run Tryz.prog w = .ok (.bool false) w := by kernel_rfl

set_option maxHeartbeats 4000000 in
/-- errors.As at an errors.errorString: no api.Fault is there. -/
theorem as_miss (e t : Addr) (w : World) (hg : w.cell? ⟨12, 0, none⟩ = some (.iface 110 (.agg #[.pointer (some ⟨21, 28, none⟩)]))) :
    Calls Tryz.prog 38 #[.iface 159 (.pointer (some e)), .iface 74 (.pointer (some t))] w fun ev w' => ev = .returned (.bool false) ∧ w' = (((w.alloc (.cells #[.pointer (some t)] 74)).alloc (.cells #[.pointer (some ⟨21, 74, none⟩), .pointer (some ⟨w.heap.size, 0, none⟩), .int .u64 150] 89)).alloc (.cells #[.pointer (some ⟨21, 74, none⟩), .pointer (some ⟨w.heap.size, 0, none⟩), .int .u64 150] 89)) := by
  have h6 := @run_callFunc_extern Tryz.prog 50 _ (fun args => ReflectliteValue.unpack (args.getD 0 (.tuple #[]))) Tryz.func50 (by kernel_rfl) (by kernel_rfl) (by kernel_rfl) (by kernel_rfl)
  have h7 := @run_callFunc_extern Tryz.prog 51 _ (ReflectliteValue.methodAny (ReflectliteValue.valueError "reflectlite.Value.Type" 0) (fun t _ _ _ => ReflectliteType.toType t)) Tryz.func51 (by kernel_rfl) (by kernel_rfl) (by kernel_rfl) (by kernel_rfl)
  have h8 := @run_callFunc_extern Tryz.prog 52 _ (ReflectliteValue.method (ReflectliteValue.valueError "reflectlite.Value.IsNil" 0) ReflectliteValue.isNil) Tryz.func52 (by kernel_rfl) (by kernel_rfl) (by kernel_rfl) (by kernel_rfl)
  have h27 := @run_callFunc_extern Tryz.prog 112 _ (ReflectliteType.abiMethod fun t => do pure (.int .u8 (← Rtype.kind t))) Tryz.func112 (by kernel_rfl) (by kernel_rfl) (by kernel_rfl) (by kernel_rfl)
  have h37 := @run_callFunc_extern Tryz.prog 124 _ (ReflectliteType.method ReflectliteType.elem) Tryz.func124 (by kernel_rfl) (by kernel_rfl) (by kernel_rfl) (by kernel_rfl)
  have h38 := @run_callFunc_extern Tryz.prog 125 _ (ReflectliteType.relation "Implements" ReflectliteType.implements_) Tryz.func125 (by kernel_rfl) (by kernel_rfl) (by kernel_rfl) (by kernel_rfl)
  have h10 := @run_callFunc_extern Tryz.prog 54 _ ReflectliteType.typeOf Tryz.func54 (by kernel_rfl) (by kernel_rfl) (by kernel_rfl) (by kernel_rfl)
  have h35 := @run_callFunc_extern Tryz.prog 122 _ (ReflectliteType.relation "AssignableTo" ReflectliteType.assignableTo) Tryz.func122 (by kernel_rfl) (by kernel_rfl) (by kernel_rfl) (by kernel_rfl)
  have tO := Tryz.typeOfE
  have mA := Tryz.methodAssignableTo
  have a25 := Tryz.assignableE
  have nA := Tryz.noAsE
  have uE := Tryz.noUnwrapE
  have vE := Tryz.noUnwrapsE
  have f6 := Tryz.valueOf27
  have f7 := Tryz.type27
  have mK := Tryz.methodKind
  have mE := Tryz.methodElem
  have mI := Tryz.methodImplements
  have k27 := Tryz.kind27
  have k25 := Tryz.kind25
  have e27 := Tryz.elem27
  have i25 := Tryz.implements25
  have n8 := Tryz.isNil27 ⟨w.heap.size, 0, none⟩ t ((w.alloc (.cells #[.pointer (some t)] 74)).alloc (.cells #[.pointer (some ⟨21, 74, none⟩), .pointer (some ⟨w.heap.size, 0, none⟩), .int .u64 150] 89)) (by simp)
  have hlt : 12 < w.heap.size := by
    rcases Nat.lt_or_ge 12 w.heap.size with h | h
    · exact h
    · simp [World.cell?, Array.getElem?_eq_none h] at hg
  have hg2 : ((w.alloc (.cells #[.pointer (some t)] 74)).alloc (.cells #[.pointer (some ⟨21, 74, none⟩), .pointer (some ⟨w.heap.size, 0, none⟩), .int .u64 150] 89)).cell? ⟨12, 0, none⟩ = some (.iface 110 (.agg #[.pointer (some ⟨21, 28, none⟩)])) := by
    rw [World.cell?_alloc_lt _ _ ⟨12, 0, none⟩ (by simp; omega), World.cell?_alloc_lt _ _ ⟨12, 0, none⟩ hlt]; exact hg
  go_enter Tryz.func38, Tryz.ntmps38
  go_wp2
  refine wp_loop_rounds 1 ?_
  rw [rounds_succ]
  go_wp2
  go_ret
  exact ⟨rfl, rfl⟩
end Go.Proofs.YtniipgaacdpncaaGreatDoor
namespace Go.Proofs.YtniipgaacdpncaaGreatDoor
open Go.RowKit Go.Extern.Stop Go.Stop Go.Extern

/-- The variable of the error with the place k in the document's list. -/
def errVar : Nat → Nat
  | 0 => 2
  | 1 => 3
  | 2 => 4
  | 3 => 5
  | 4 => 6
  | 5 => 0
  | 6 => 7
  | 7 => 1
  | 8 => 8
  | 9 => 9
  | 10 => 10
  | _ => 11

/-- The twelve errors lie at the addresses a 0 to a 11, all different; the type's handle is laid. -/
structure Errs (W : World) (a : Nat → Addr) : Prop where
  cell : ∀ i, i < 12 → W.cell? ⟨errVar i, 0, none⟩ = some (.iface 159 (.pointer (some (a i))))
  inj : ∀ i j, i < 12 → j < 12 → a i = a j → i = j
  block : ∀ i, i < 12 → ∃ c t, W.heap[(a i).block]? = some (.cells c t (0, 0))
  handle : W.cell? ⟨12, 0, none⟩ = some (.iface 110 (.agg #[.pointer (some ⟨21, 28, none⟩)]))

theorem lt_of_cell {W : World} {p : Addr} {v : Value} (h : W.cell? p = some v) : p.block < W.heap.size := by
  rcases Nat.lt_or_ge p.block W.heap.size with h' | h'
  · exact h'
  · simp [World.cell?, Array.getElem?_eq_none h'] at h

theorem lt_of_heap {W : World} {b : Nat} {o : Obj} (h : W.heap[b]? = some o) : b < W.heap.size := by
  rcases Nat.lt_or_ge b W.heap.size with h' | h'
  · exact h'
  · simp [Array.getElem?_eq_none h'] at h

theorem Errs.below {W W' : World} {a : Nat → Addr} (h : Errs W a) (hb : Below W.heap.size W W') : Errs W' a where
  cell i hi := by rw [hb.cell (lt_of_cell (h.cell i hi))]; exact h.cell i hi
  inj := h.inj
  block i hi := by
    obtain ⟨c, t, hc⟩ := h.block i hi
    exact ⟨c, t, by rw [hb.block _ (lt_of_heap hc)]; exact hc⟩
  handle := by rw [hb.cell (lt_of_cell h.handle)]; exact h.handle

theorem code_nil (w : World) : Calls Tryz.prog 23 #[.nilIface] w fun e w' => e = .returned (.tuple #[.int .i64 0, .int .i64 (-1)]) ∧ w' = w := by
  go_enter Tryz.func23, Tryz.ntmps23
  go_wp2
  go_ret2
  exact ⟨rfl, rfl⟩

/-- The list of the twelve, as a new block: its cell n. -/
theorem list_cell (w : World) (a : Nat → Addr) (n : Nat) (hn : n < 12) : (w.alloc (.cells #[.iface 159 (.pointer (some (a 0))), .iface 159 (.pointer (some (a 1))), .iface 159 (.pointer (some (a 2))), .iface 159 (.pointer (some (a 3))), .iface 159 (.pointer (some (a 4))), .iface 159 (.pointer (some (a 5))), .iface 159 (.pointer (some (a 6))), .iface 159 (.pointer (some (a 7))), .iface 159 (.pointer (some (a 8))), .iface 159 (.pointer (some (a 9))), .iface 159 (.pointer (some (a 10))), .iface 159 (.pointer (some (a 11)))] 28)).cell? ⟨w.heap.size, n, none⟩ = some (.iface 159 (.pointer (some (a n)))) := by
  rw [World.cell?_alloc_at _ _ _ _ rfl]
  match n, hn with
  | 0, _ => rfl
  | 1, _ => rfl
  | 2, _ => rfl
  | 3, _ => rfl
  | 4, _ => rfl
  | 5, _ => rfl
  | 6, _ => rfl
  | 7, _ => rfl
  | 8, _ => rfl
  | 9, _ => rfl
  | 10, _ => rfl
  | 11, _ => rfl

theorem as_miss_below (e t : Addr) (w : World) (a : Nat → Addr) (h : Errs w a) :
    Calls Tryz.prog 38 #[.iface 159 (.pointer (some e)), .iface 74 (.pointer (some t))] w fun ev w' => ev = .returned (.bool false) ∧ Below w.heap.size w w' := by
  refine (as_miss e t w h.handle).mono fun ev w' ⟨he, hw⟩ => ⟨he, ?_⟩
  subst hw
  exact (((Below.refl _ _).alloc (Nat.le_refl _) _).alloc (by simp) _).alloc (by simp; omega) _

/-- errors.Is of an errors.errorString, at the place n of the list: is it that one? -/
theorem is_at (w : World) (a : Nat → Addr) (h : Errs w a) (p : Addr) (cp : Array Value) (tp : TypeId) (hp : w.heap[p.block]? = some (.cells cp tp (0, 0))) (i n : Nat) (hn : n < 12) (hpi : p = a n ↔ n = i) :
    Calls Tryz.prog 39 #[.iface 159 (.pointer (some p)), .iface 159 (.pointer (some (a n)))] w fun e w' => e = .returned (.bool (decide (n = i))) ∧ w' = w := by
  obtain ⟨c, t, hc⟩ := h.block n hn
  by_cases e : n = i
  · have e' := hpi.2 e
    subst e'
    simp only [e, decide_true]
    exact is_same _ w
  · have hne : p ≠ a n := fun x => e (hpi.1 x)
    simp only [e, decide_false]
    exact is_other _ _ _ _ _ _ w hne hp hc

/-- .. of an api.Fault around it. -/
theorem is_at_wrap (w : World) (a : Nat → Addr) (h : Errs w a) (pb po : Nat) (p : Addr) (h1 : w.cell? ⟨pb, po + 1, none⟩ = some (.iface 159 (.pointer (some p)))) (cp : Array Value) (tp : TypeId) (hp : w.heap[p.block]? = some (.cells cp tp (0, 0))) (i n : Nat) (hn : n < 12) (hpi : p = a n ↔ n = i) :
    Calls Tryz.prog 39 #[.iface 58 (.pointer (some ⟨pb, po, none⟩)), .iface 159 (.pointer (some (a n)))] w fun e w' => e = .returned (.bool (decide (n = i))) ∧ w' = w := by
  obtain ⟨c, t, hc⟩ := h.block n hn
  by_cases e : n = i
  · have e' := hpi.2 e
    subst e'
    simp only [e, decide_true]
    exact is_wrap_same _ _ _ w (e ▸ h1)
  · have hne : p ≠ a n := fun x => e (hpi.1 x)
    simp only [e, decide_false]
    exact is_wrap_other _ _ _ _ _ _ _ _ w h1 hne hp hc

theorem ne_succ {n i : Nat} (hm : ∀ m, m < n → m ≠ i) (e : ¬ n = i) : ∀ m, m < n + 1 → m ≠ i := fun m h => by
  rcases Nat.lt_or_ge m n with h' | h'
  · exact hm m h'
  · obtain rfl : m = n := by omega
    exact e

/-- The number that plain.Code tells where the error is the one at the place i. -/
def codeNum (i : Nat) : Int := if i < 12 then (i : Int) + 1 else -1

set_option maxHeartbeats 1000000 in
theorem code_bare (w : World) (a : Nat → Addr) (h : Errs w a) (p : Addr) (cp : Array Value) (tp : TypeId) (hp : w.heap[p.block]? = some (.cells cp tp (0, 0))) (i : Nat) (hpi : ∀ n, n < 12 → (p = a n ↔ n = i)) :
    Calls Tryz.prog 23 #[.iface 159 (.pointer (some p))] w fun e w' => e = .returned (.tuple #[.int .i64 (codeNum i), .int .i64 (-1)]) ∧ Below w.heap.size w w' := by
  have hE : Errs (w.alloc (.cells #[.pointer none] 58)) a := h.below ((Below.refl _ _).alloc (Nat.le_refl _) _)
  have hb0 : Below w.heap.size w (w.alloc (.cells #[.pointer none] 58)) := (Below.refl _ _).alloc (Nat.le_refl _) _
  go_enter Tryz.func23, Tryz.ntmps23
  go_wp2_with (go_at_call 38; refine (as_miss_below _ _ _ a hE).mono ?_; rintro e w1 ⟨rfl, hb⟩; have e1 := hE.below hb; have c0 : w1.cell? ⟨2, 0, none⟩ = some (.iface 159 (.pointer (some (a 0)))) := e1.cell 0 (by decide); have c1 : w1.cell? ⟨3, 0, none⟩ = some (.iface 159 (.pointer (some (a 1)))) := e1.cell 1 (by decide); have c2 : w1.cell? ⟨4, 0, none⟩ = some (.iface 159 (.pointer (some (a 2)))) := e1.cell 2 (by decide); have c3 : w1.cell? ⟨5, 0, none⟩ = some (.iface 159 (.pointer (some (a 3)))) := e1.cell 3 (by decide); have c4 : w1.cell? ⟨6, 0, none⟩ = some (.iface 159 (.pointer (some (a 4)))) := e1.cell 4 (by decide); have c5 : w1.cell? ⟨0, 0, none⟩ = some (.iface 159 (.pointer (some (a 5)))) := e1.cell 5 (by decide); have c6 : w1.cell? ⟨7, 0, none⟩ = some (.iface 159 (.pointer (some (a 6)))) := e1.cell 6 (by decide); have c7 : w1.cell? ⟨1, 0, none⟩ = some (.iface 159 (.pointer (some (a 7)))) := e1.cell 7 (by decide); have c8 : w1.cell? ⟨8, 0, none⟩ = some (.iface 159 (.pointer (some (a 8)))) := e1.cell 8 (by decide); have c9 : w1.cell? ⟨9, 0, none⟩ = some (.iface 159 (.pointer (some (a 9)))) := e1.cell 9 (by decide); have c10 : w1.cell? ⟨10, 0, none⟩ = some (.iface 159 (.pointer (some (a 10)))) := e1.cell 10 (by decide); have c11 : w1.cell? ⟨11, 0, none⟩ = some (.iface 159 (.pointer (some (a 11)))) := e1.cell 11 (by decide))
  have hB : Below w.heap.size w w1 := hb0.trans (hb.mono (by simp))
  have hB2 : Below w.heap.size w (w1.alloc (.cells #[.iface 159 (.pointer (some (a 0))), .iface 159 (.pointer (some (a 1))), .iface 159 (.pointer (some (a 2))), .iface 159 (.pointer (some (a 3))), .iface 159 (.pointer (some (a 4))), .iface 159 (.pointer (some (a 5))), .iface 159 (.pointer (some (a 6))), .iface 159 (.pointer (some (a 7))), .iface 159 (.pointer (some (a 8))), .iface 159 (.pointer (some (a 9))), .iface 159 (.pointer (some (a 10))), .iface 159 (.pointer (some (a 11)))] 28)) := hB.alloc hB.size _
  have hE2 : Errs (w1.alloc (.cells #[.iface 159 (.pointer (some (a 0))), .iface 159 (.pointer (some (a 1))), .iface 159 (.pointer (some (a 2))), .iface 159 (.pointer (some (a 3))), .iface 159 (.pointer (some (a 4))), .iface 159 (.pointer (some (a 5))), .iface 159 (.pointer (some (a 6))), .iface 159 (.pointer (some (a 7))), .iface 159 (.pointer (some (a 8))), .iface 159 (.pointer (some (a 9))), .iface 159 (.pointer (some (a 10))), .iface 159 (.pointer (some (a 11)))] 28)) a := h.below hB2
  have hp2 : (w1.alloc (.cells #[.iface 159 (.pointer (some (a 0))), .iface 159 (.pointer (some (a 1))), .iface 159 (.pointer (some (a 2))), .iface 159 (.pointer (some (a 3))), .iface 159 (.pointer (some (a 4))), .iface 159 (.pointer (some (a 5))), .iface 159 (.pointer (some (a 6))), .iface 159 (.pointer (some (a 7))), .iface 159 (.pointer (some (a 8))), .iface 159 (.pointer (some (a 9))), .iface 159 (.pointer (some (a 10))), .iface 159 (.pointer (some (a 11)))] 28)).heap[p.block]? = some (.cells cp tp (0, 0)) := by rw [hB2.block _ (lt_of_heap hp)]; exact hp
  have hl := list_cell w1 a
  clear c0 c1 c2 c3 c4 c5 c6 c7 c8 c9 c10 c11
  go_loop [3, 30] (fun t k => t = .int .i64 (-1) ∧ ∃ n : Nat, n ≤ 12 ∧ (∀ m, m < n → m ≠ i) ∧ k = .int .i64 n) (fun _ k => 12 - (intOf k).toNat)
  case atStart => exact ⟨rfl, 0, by omega, by omega, rfl⟩
  case round =>
    obtain ⟨rfl, n, hn, hm, rfl⟩ := hrel
    by_cases hlt : n < 12
    · have hcell := hl n hlt
      have his := is_at _ a hE2 p cp tp hp2 i n hlt (hpi n hlt)
      by_cases e : n = i
      · have hd : decide (n = i) = true := by simp [e]
        rw [hd] at his
        have hcn : codeNum i = (n : Int) + 1 := by unfold codeNum; rw [if_pos (by omega), e]
        have HC : Hid (codeNum i = (n : Int) + 1) := hcn
        clear hcn hd e hm hl
        go_wp2_with (go_at_call 39; refine his.mono ?_; rintro e w' ⟨rfl, rfl⟩)
        go_ret2
        exact ⟨by rw [HC.out]; rfl, hB2⟩
      · have hd : decide (n = i) = false := by simp [e]
        rw [hd] at his
        go_wp2_with (go_at_call 39; refine his.mono ?_; rintro e w' ⟨rfl, rfl⟩)
        go_round
        case rel => exact ⟨rfl, n + 1, by omega, ne_succ hm e, by go_num⟩
        case measure => simp [intOf]; omega
    · have hcn : codeNum i = -1 := by
        unfold codeNum
        rw [if_neg]
        intro hi
        exact hm i (by omega) rfl
      have HC : Hid (codeNum i = -1) := hcn
      have hn12 : n = 12 := by omega
      subst hn12
      clear hcn hm hl
      go_wp2
      go_ret2
      exact ⟨by rw [HC.out]; rfl, hB2⟩
theorem as_hit_below (e : Addr) (w : World) (a : Nat → Addr) (h : Errs w a) :
    Calls Tryz.prog 38 #[.iface 58 (.pointer (some e)), .iface 74 (.pointer (some ⟨w.heap.size, 0, none⟩))] (w.alloc (.cells #[.pointer none] 58)) fun ev w' => ev = .returned (.bool true) ∧ Below w.heap.size w w' ∧ w'.cell? ⟨w.heap.size, 0, none⟩ = some (.pointer (some e)) := by
  have hb0 : Below w.heap.size w (w.alloc (.cells #[.pointer none] 58)) := (Below.refl _ _).alloc (Nat.le_refl _) _
  refine (as_hit e ⟨w.heap.size, 0, none⟩ (.pointer none) _ (h.below hb0).handle (by simp) (by simp)).mono fun ev w' ⟨he, hw⟩ => ⟨he, ?_, ?_⟩
  · subst hw
    exact ((((hb0.alloc (by simp) _).alloc (by simp; omega) _).alloc (by simp; omega) _).alloc (by simp; omega) _).setCell (by simp) _
  · subst hw
    refine World.cell?_setCell_same (u := .pointer none) _ _ _ ?_
    rw [World.cell?_alloc_lt _ _ ⟨w.heap.size, 0, none⟩ (by simp; omega), World.cell?_alloc_lt _ _ ⟨w.heap.size, 0, none⟩ (by simp; omega), World.cell?_alloc_lt _ _ ⟨w.heap.size, 0, none⟩ (by simp; omega), World.cell?_alloc_lt _ _ ⟨w.heap.size, 0, none⟩ (by simp)]
    simp

set_option maxHeartbeats 1000000 in
theorem code_fault (w : World) (a : Nat → Addr) (h : Errs w a) (pb po : Nat) (at_ : Int) (h0 : w.cell? ⟨pb, po, none⟩ = some (.int .i64 at_)) (p : Addr) (h1 : w.cell? ⟨pb, po + 1, none⟩ = some (.iface 159 (.pointer (some p)))) (cp : Array Value) (tp : TypeId) (hp : w.heap[p.block]? = some (.cells cp tp (0, 0))) (i : Nat) (hpi : ∀ n, n < 12 → (p = a n ↔ n = i)) :
    Calls Tryz.prog 23 #[.iface 58 (.pointer (some ⟨pb, po, none⟩))] w fun e w' => e = .returned (.tuple #[.int .i64 (codeNum i), .int .i64 at_]) ∧ Below w.heap.size w w' := by
  go_enter Tryz.func23, Tryz.ntmps23
  go_wp2_with (go_at_call 38; refine (as_hit_below _ w a h).mono ?_; rintro e w1 ⟨rfl, hB, ht⟩; have e1 := h.below hB; have f0 : w1.cell? ⟨pb, po, none⟩ = some (.int .i64 at_) := (hB.cell (lt_of_cell h0)).trans h0; have c0 : w1.cell? ⟨2, 0, none⟩ = some (.iface 159 (.pointer (some (a 0)))) := e1.cell 0 (by decide); have c1 : w1.cell? ⟨3, 0, none⟩ = some (.iface 159 (.pointer (some (a 1)))) := e1.cell 1 (by decide); have c2 : w1.cell? ⟨4, 0, none⟩ = some (.iface 159 (.pointer (some (a 2)))) := e1.cell 2 (by decide); have c3 : w1.cell? ⟨5, 0, none⟩ = some (.iface 159 (.pointer (some (a 3)))) := e1.cell 3 (by decide); have c4 : w1.cell? ⟨6, 0, none⟩ = some (.iface 159 (.pointer (some (a 4)))) := e1.cell 4 (by decide); have c5 : w1.cell? ⟨0, 0, none⟩ = some (.iface 159 (.pointer (some (a 5)))) := e1.cell 5 (by decide); have c6 : w1.cell? ⟨7, 0, none⟩ = some (.iface 159 (.pointer (some (a 6)))) := e1.cell 6 (by decide); have c7 : w1.cell? ⟨1, 0, none⟩ = some (.iface 159 (.pointer (some (a 7)))) := e1.cell 7 (by decide); have c8 : w1.cell? ⟨8, 0, none⟩ = some (.iface 159 (.pointer (some (a 8)))) := e1.cell 8 (by decide); have c9 : w1.cell? ⟨9, 0, none⟩ = some (.iface 159 (.pointer (some (a 9)))) := e1.cell 9 (by decide); have c10 : w1.cell? ⟨10, 0, none⟩ = some (.iface 159 (.pointer (some (a 10)))) := e1.cell 10 (by decide); have c11 : w1.cell? ⟨11, 0, none⟩ = some (.iface 159 (.pointer (some (a 11)))) := e1.cell 11 (by decide))
  have hB2 : Below w.heap.size w (w1.alloc (.cells #[.iface 159 (.pointer (some (a 0))), .iface 159 (.pointer (some (a 1))), .iface 159 (.pointer (some (a 2))), .iface 159 (.pointer (some (a 3))), .iface 159 (.pointer (some (a 4))), .iface 159 (.pointer (some (a 5))), .iface 159 (.pointer (some (a 6))), .iface 159 (.pointer (some (a 7))), .iface 159 (.pointer (some (a 8))), .iface 159 (.pointer (some (a 9))), .iface 159 (.pointer (some (a 10))), .iface 159 (.pointer (some (a 11)))] 28)) := hB.alloc hB.size _
  have hE2 : Errs (w1.alloc (.cells #[.iface 159 (.pointer (some (a 0))), .iface 159 (.pointer (some (a 1))), .iface 159 (.pointer (some (a 2))), .iface 159 (.pointer (some (a 3))), .iface 159 (.pointer (some (a 4))), .iface 159 (.pointer (some (a 5))), .iface 159 (.pointer (some (a 6))), .iface 159 (.pointer (some (a 7))), .iface 159 (.pointer (some (a 8))), .iface 159 (.pointer (some (a 9))), .iface 159 (.pointer (some (a 10))), .iface 159 (.pointer (some (a 11)))] 28)) a := h.below hB2
  have hp2 : (w1.alloc (.cells #[.iface 159 (.pointer (some (a 0))), .iface 159 (.pointer (some (a 1))), .iface 159 (.pointer (some (a 2))), .iface 159 (.pointer (some (a 3))), .iface 159 (.pointer (some (a 4))), .iface 159 (.pointer (some (a 5))), .iface 159 (.pointer (some (a 6))), .iface 159 (.pointer (some (a 7))), .iface 159 (.pointer (some (a 8))), .iface 159 (.pointer (some (a 9))), .iface 159 (.pointer (some (a 10))), .iface 159 (.pointer (some (a 11)))] 28)).heap[p.block]? = some (.cells cp tp (0, 0)) := by rw [hB2.block _ (lt_of_heap hp)]; exact hp
  have hl := list_cell w1 a
  have f1 : (w1.alloc (.cells #[.iface 159 (.pointer (some (a 0))), .iface 159 (.pointer (some (a 1))), .iface 159 (.pointer (some (a 2))), .iface 159 (.pointer (some (a 3))), .iface 159 (.pointer (some (a 4))), .iface 159 (.pointer (some (a 5))), .iface 159 (.pointer (some (a 6))), .iface 159 (.pointer (some (a 7))), .iface 159 (.pointer (some (a 8))), .iface 159 (.pointer (some (a 9))), .iface 159 (.pointer (some (a 10))), .iface 159 (.pointer (some (a 11)))] 28)).cell? ⟨pb, po + 1, none⟩ = some (.iface 159 (.pointer (some p))) := by rw [hB2.cell (lt_of_cell h1)]; exact h1
  clear f0 ht c0 c1 c2 c3 c4 c5 c6 c7 c8 c9 c10 c11
  go_loop [3, 30] (fun t k => t = .int .i64 at_ ∧ ∃ n : Nat, n ≤ 12 ∧ (∀ m, m < n → m ≠ i) ∧ k = .int .i64 n) (fun _ k => 12 - (intOf k).toNat)
  case atStart => exact ⟨rfl, 0, by omega, by omega, rfl⟩
  case round =>
    obtain ⟨rfl, n, hn, hm, rfl⟩ := hrel
    by_cases hlt : n < 12
    · have hcell := hl n hlt
      have his := is_at_wrap _ a hE2 pb po p f1 cp tp hp2 i n hlt (hpi n hlt)
      by_cases e : n = i
      · have hd : decide (n = i) = true := by simp [e]
        rw [hd] at his
        have hcn : codeNum i = (n : Int) + 1 := by unfold codeNum; rw [if_pos (by omega), e]
        have HC : Hid (codeNum i = (n : Int) + 1) := hcn
        clear hcn hd e hm hl
        go_wp2_with (go_at_call 39; refine his.mono ?_; rintro e w' ⟨rfl, rfl⟩)
        go_ret2
        exact ⟨by rw [HC.out]; rfl, hB2⟩
      · have hd : decide (n = i) = false := by simp [e]
        rw [hd] at his
        go_wp2_with (go_at_call 39; refine his.mono ?_; rintro e w' ⟨rfl, rfl⟩)
        go_round
        case rel => exact ⟨rfl, n + 1, by omega, ne_succ hm e, by go_num⟩
        case measure => simp [intOf]; omega
    · have hcn : codeNum i = -1 := by
        unfold codeNum
        rw [if_neg]
        intro hi
        exact hm i (by omega) rfl
      have HC : Hid (codeNum i = -1) := hcn
      have hn12 : n = 12 := by omega
      subst hn12
      clear hcn hm hl
      go_wp2
      go_ret2
      exact ⟨by rw [HC.out]; rfl, hB2⟩
end Go.Proofs.YtniipgaacdpncaaGreatDoor
