/-
  The contracts of errors.As with a target of type **api.Fault: at an api.Fault it is a hit; at an errors.errorString it is a miss.
  The contract of plain.Code: at each error of package api, bare or within an api.Fault, at nil, and at another errors.errorString, it tells the number and the place.
  The walk of RowTells: whatever rows, text, keys and bounds: true; what was there is as it was.
  The contract of data.WriteLines for rows: a file's text.
-/
import Derived.Test.YtoobgeekmaeccaaGreatDoorErrs
import Derived.Test.YtoobgeekmaeccaaGreatDoorRowRead
import Derived.Lib.QuietBelow
import Derived.BigQuiet
import Derived.Test.YtoobgeekmaeccaaGreatDoorRefIns
namespace Go.Proofs.YtoobgeekmaeccaaGreatDoor
open Go.RowKit Go.Extern.Stop Go.Stop Go.Extern

theorem Tryz.valueOf27 (t : Addr) (w : World) : (ReflectliteValue.unpack (.iface 167 (.pointer (some t)))).run Tryz.prog w
    = .ok (.agg #[.pointer (some ⟨21, 167, none⟩), .pointer (some ⟨w.heap.size, 0, none⟩), .int .u64 150]) (w.alloc (.cells #[.pointer (some t)] 167)) := by kernel_rfl
theorem Tryz.type27 (a : Addr) (w : World) : (ReflectliteValue.methodAny (ReflectliteValue.valueError "reflectlite.Value.Type" 0) (fun t _ _ _ => ReflectliteType.toType t) #[.agg #[.pointer (some ⟨21, 167, none⟩), .pointer (some a), .int .u64 150]]).run Tryz.prog w
    = .ok (.iface 256 (.agg #[.pointer (some ⟨21, 167, none⟩)])) w := by kernel_rfl
theorem Tryz.methodKind (h : Value) (w : World) : (Go.method 456 256 (.agg #[h]) "Kind").run Tryz.prog w = .ok (278, h) w := by kernel_rfl
theorem Tryz.kind27 (w : World) : ((ReflectliteType.abiMethod fun t => (fun a : Nat => Value.int IntKind.u8 (a : Int)) <$> Rtype.kind t) #[.pointer (some ⟨21, 167, none⟩)]).run Tryz.prog w = .ok (.int .u8 22) w := by kernel_rfl
theorem Tryz.kind25 (w : World) : ((ReflectliteType.abiMethod fun t => (fun a : Nat => Value.int IntKind.u8 (a : Int)) <$> Rtype.kind t) #[.pointer (some ⟨21, 92, none⟩)]).run Tryz.prog w = .ok (.int .u8 22) w := by kernel_rfl

theorem Tryz.parts27 (a : Addr) (w : World) : (ReflectliteValue.parts (.agg #[.pointer (some ⟨21, 167, none⟩), .pointer (some a), .int .u64 150])).run Tryz.prog w = .ok (some (167, a, 150)) w := by kernel_rfl
theorem Tryz.isNil27 (a p : Addr) (W : World) (ha : W.cell? a = some (.pointer (some p))) :
    (ReflectliteValue.method (ReflectliteValue.valueError "reflectlite.Value.IsNil" 0) ReflectliteValue.isNil #[.agg #[.pointer (some ⟨21, 167, none⟩), .pointer (some a), .int .u64 150]]).run Tryz.prog W = .ok (.bool false) W := by
  delta ReflectliteValue.method ReflectliteValue.method.match_2
  dsimp only
  refine Eq.trans (congrArg (fun z => Sem.run Tryz.prog z W) (dif_pos rfl)) ?_
  simp only [Sem.run_bind, Array.getLit, List.getElem_toArray, List.getElem_cons_zero, Tryz.parts27, Result.andThen]
  simp [ReflectliteValue.isNil, loadVar, isAgg, underlying, Tryz.underlying167, ha, Result.andThen]

theorem Tryz.methodElem (h : Value) (w : World) : (Go.method 456 256 (.agg #[h]) "Elem").run Tryz.prog w = .ok (292, .agg #[h]) w := by kernel_rfl
theorem Tryz.methodImplements (h : Value) (w : World) : (Go.method 456 256 (.agg #[h]) "Implements").run Tryz.prog w = .ok (293, .agg #[h]) w := by kernel_rfl
theorem Tryz.methodAssignableTo (h : Value) (w : World) : (Go.method 456 256 (.agg #[h]) "AssignableTo").run Tryz.prog w = .ok (290, .agg #[h]) w := by kernel_rfl
theorem Tryz.elem27 (w : World) : (ReflectliteType.method ReflectliteType.elem #[.agg #[.pointer (some ⟨21, 167, none⟩)]]).run Tryz.prog w = .ok (.iface 256 (.agg #[.pointer (some ⟨21, 92, none⟩)])) w := by kernel_rfl
theorem Tryz.implements25 (w : World) : (ReflectliteType.relation "Implements" ReflectliteType.implements_ #[.agg #[.pointer (some ⟨21, 92, none⟩)], .iface 256 (.agg #[.pointer (some ⟨21, 35, none⟩)])]).run Tryz.prog w = .ok (.bool true) w := by kernel_rfl
theorem Tryz.typeOf25 (v : Value) (w : World) : (ReflectliteType.typeOf #[.iface 92 v]).run Tryz.prog w = .ok (.iface 256 (.agg #[.pointer (some ⟨21, 92, none⟩)])) w := by kernel_rfl
theorem Tryz.assignable25 (w : World) : (ReflectliteType.relation "AssignableTo" ReflectliteType.assignableTo #[.agg #[.pointer (some ⟨21, 92, none⟩)], .iface 256 (.agg #[.pointer (some ⟨21, 92, none⟩)])]).run Tryz.prog w = .ok (.bool true) w := by kernel_rfl
theorem Tryz.valueOf25 (e : Addr) (w : World) : (ReflectliteValue.unpack (.iface 92 (.pointer (some e)))).run Tryz.prog w
    = .ok (.agg #[.pointer (some ⟨21, 92, none⟩), .pointer (some ⟨w.heap.size, 0, none⟩), .int .u64 150]) (w.alloc (.cells #[.pointer (some e)] 92)) := by kernel_rfl

theorem Tryz.elemOf27 (w : World) : (Rtype.elem? 167).run Tryz.prog w = .ok (some 92) w := by kernel_rfl
theorem Tryz.mk25 (p : Addr) (w : World) : (ReflectliteValue.mk 92 p ReflectliteValue.flagAddr).run Tryz.prog w = .ok (.agg #[.pointer (some ⟨21, 92, none⟩), .pointer (some p), .int .u64 406]) w := by kernel_rfl
theorem Tryz.elemV27 (a p : Addr) (W : World) (ha : W.cell? a = some (.pointer (some p))) :
    (ReflectliteValue.method (ReflectliteValue.valueError "reflectlite.Value.Elem" 0) ReflectliteValue.elem #[.agg #[.pointer (some ⟨21, 167, none⟩), .pointer (some a), .int .u64 150]]).run Tryz.prog W
      = .ok (.agg #[.pointer (some ⟨21, 92, none⟩), .pointer (some p), .int .u64 406]) W := by
  delta ReflectliteValue.method ReflectliteValue.method.match_2
  dsimp only
  refine Eq.trans (congrArg (fun z => Sem.run Tryz.prog z W) (dif_pos rfl)) ?_
  simp only [Sem.run_bind, Array.getLit, List.getElem_toArray, List.getElem_cons_zero, Tryz.parts27, Result.andThen]
  simp [ReflectliteValue.elem, loadVar, isAgg, underlying, Tryz.underlying167, ha, Result.andThen, Tryz.elemOf27, Tryz.mk25]
theorem Tryz.parts25a (a : Addr) (w : World) : (ReflectliteValue.parts (.agg #[.pointer (some ⟨21, 92, none⟩), .pointer (some a), .int .u64 406])).run Tryz.prog w = .ok (some (92, a, 406)) w := by kernel_rfl
theorem Tryz.parts25 (a : Addr) (w : World) : (ReflectliteValue.parts (.agg #[.pointer (some ⟨21, 92, none⟩), .pointer (some a), .int .u64 150])).run Tryz.prog w = .ok (some (92, a, 150)) w := by kernel_rfl
theorem Tryz.direct25 (w : World) : (Rtype.directlyAssignable 92 92).run Tryz.prog w = .ok true w := by kernel_rfl
theorem Tryz.set25 (ta b e : Addr) (old : Value) (W : World) (hb : W.cell? b = some (.pointer (some e))) (ht : W.cell? ta = some old) (hf : W.frozen? ta = false) :
    (ReflectliteValue.set #[.agg #[.pointer (some ⟨21, 92, none⟩), .pointer (some ta), .int .u64 406], .agg #[.pointer (some ⟨21, 92, none⟩), .pointer (some b), .int .u64 150]]).run Tryz.prog W
      = .ok (.tuple #[]) (W.setCell ta (.pointer (some e))) := by
  delta ReflectliteValue.set ReflectliteValue.set.match_3
  dsimp only
  refine Eq.trans (congrArg (fun z => Sem.run Tryz.prog z W) (dif_pos rfl)) ?_
  simp only [Sem.run_bind, Array.getLit, List.getElem_toArray, List.getElem_cons_zero, List.getElem_cons_succ, Tryz.parts25a, Tryz.parts25, Result.andThen]
  simp [ReflectliteValue.flagAddr, loadVar, isAgg, underlying, Tryz.underlying92, hb, Result.andThen, Tryz.direct25, storeVar, Value.cells, storeCells, Addr.add]
  rw [run_store Tryz.prog W ta _ _ (by rfl)]
  simp [ht, hf]

set_option maxHeartbeats 4000000 in
theorem as_hit (e t : Addr) (old : Value) (w : World) (hg : w.cell? ⟨12, 0, none⟩ = some (.iface 256 (.agg #[.pointer (some ⟨21, 35, none⟩)]))) (ht0 : w.cell? t = some old) (hf0 : w.frozen? t = false) :
    Calls Tryz.prog 108 #[.iface 92 (.pointer (some e)), .iface 167 (.pointer (some t))] w fun ev w' => ev = .returned (.bool true) ∧ w' = ((((w.alloc (.cells #[.pointer (some t)] 167)).alloc (.cells #[.pointer (some ⟨21, 167, none⟩), .pointer (some ⟨w.heap.size, 0, none⟩), .int .u64 150] 212)).alloc (.cells #[.pointer (some ⟨21, 167, none⟩), .pointer (some ⟨w.heap.size, 0, none⟩), .int .u64 150] 212)).alloc (.cells #[.pointer (some e)] 92)).setCell t (.pointer (some e)) := by
  have h6 := @run_callFunc_extern Tryz.prog 149 _ (fun args => ReflectliteValue.unpack (args.getD 0 (.tuple #[]))) Tryz.func149 (by kernel_rfl) (by kernel_rfl) (by kernel_rfl) (by kernel_rfl)
  have h7 := @run_callFunc_extern Tryz.prog 150 _ (ReflectliteValue.methodAny (ReflectliteValue.valueError "reflectlite.Value.Type" 0) (fun t _ _ _ => ReflectliteType.toType t)) Tryz.func150 (by kernel_rfl) (by kernel_rfl) (by kernel_rfl) (by kernel_rfl)
  have h8 := @run_callFunc_extern Tryz.prog 151 _ (ReflectliteValue.method (ReflectliteValue.valueError "reflectlite.Value.IsNil" 0) ReflectliteValue.isNil) Tryz.func151 (by kernel_rfl) (by kernel_rfl) (by kernel_rfl) (by kernel_rfl)
  have h27 := @run_callFunc_extern Tryz.prog 278 _ (ReflectliteType.abiMethod fun t => do pure (.int .u8 (← Rtype.kind t))) Tryz.func278 (by kernel_rfl) (by kernel_rfl) (by kernel_rfl) (by kernel_rfl)
  have h37 := @run_callFunc_extern Tryz.prog 292 _ (ReflectliteType.method ReflectliteType.elem) Tryz.func292 (by kernel_rfl) (by kernel_rfl) (by kernel_rfl) (by kernel_rfl)
  have h38 := @run_callFunc_extern Tryz.prog 293 _ (ReflectliteType.relation "Implements" ReflectliteType.implements_) Tryz.func293 (by kernel_rfl) (by kernel_rfl) (by kernel_rfl) (by kernel_rfl)
  have h10 := @run_callFunc_extern Tryz.prog 153 _ ReflectliteType.typeOf Tryz.func153 (by kernel_rfl) (by kernel_rfl) (by kernel_rfl) (by kernel_rfl)
  have h35 := @run_callFunc_extern Tryz.prog 290 _ (ReflectliteType.relation "AssignableTo" ReflectliteType.assignableTo) Tryz.func290 (by kernel_rfl) (by kernel_rfl) (by kernel_rfl) (by kernel_rfl)
  have h11 := @run_callFunc_extern Tryz.prog 192 _ (ReflectliteValue.method (ReflectliteValue.valueError "reflectlite.Value.Elem" 0) ReflectliteValue.elem) Tryz.func192 (by kernel_rfl) (by kernel_rfl) (by kernel_rfl) (by kernel_rfl)
  have h12 := @run_callFunc_extern Tryz.prog 193 _ ReflectliteValue.set Tryz.func193 (by kernel_rfl) (by kernel_rfl) (by kernel_rfl) (by kernel_rfl)
  have tO := Tryz.typeOf25
  have mA := Tryz.methodAssignableTo
  have a25 := Tryz.assignable25
  have v25 := Tryz.valueOf25
  have f6 := Tryz.valueOf27
  have f7 := Tryz.type27
  have mK := Tryz.methodKind
  have mE := Tryz.methodElem
  have mI := Tryz.methodImplements
  have k27 := Tryz.kind27
  have k25 := Tryz.kind25
  have e27 := Tryz.elem27
  have i25 := Tryz.implements25
  have n8 := Tryz.isNil27 ⟨w.heap.size, 0, none⟩ t ((w.alloc (.cells #[.pointer (some t)] 167)).alloc (.cells #[.pointer (some ⟨21, 167, none⟩), .pointer (some ⟨w.heap.size, 0, none⟩), .int .u64 150] 212)) (by simp)
  have hlt : 12 < w.heap.size := by
    rcases Nat.lt_or_ge 12 w.heap.size with h | h
    · exact h
    · simp [World.cell?, Array.getElem?_eq_none h] at hg
  have hg2 : ((w.alloc (.cells #[.pointer (some t)] 167)).alloc (.cells #[.pointer (some ⟨21, 167, none⟩), .pointer (some ⟨w.heap.size, 0, none⟩), .int .u64 150] 212)).cell? ⟨12, 0, none⟩ = some (.iface 256 (.agg #[.pointer (some ⟨21, 35, none⟩)])) := by
    rw [World.cell?_alloc_lt _ _ ⟨12, 0, none⟩ (by simp; omega), World.cell?_alloc_lt _ _ ⟨12, 0, none⟩ hlt]; exact hg
  have htl : t.block < w.heap.size := by
    rcases Nat.lt_or_ge t.block w.heap.size with h | h
    · exact h
    · simp [World.cell?, Array.getElem?_eq_none h] at ht0
  have el := Tryz.elemV27 ⟨w.heap.size, 0, none⟩ t (((w.alloc (.cells #[.pointer (some t)] 167)).alloc (.cells #[.pointer (some ⟨21, 167, none⟩), .pointer (some ⟨w.heap.size, 0, none⟩), .int .u64 150] 212)).alloc (.cells #[.pointer (some ⟨21, 167, none⟩), .pointer (some ⟨w.heap.size, 0, none⟩), .int .u64 150] 212)) (by rw [World.cell?_alloc_lt _ _ ⟨w.heap.size, 0, none⟩ (by simp; omega)]; simp)
  have st := Tryz.set25 t ⟨w.heap.size + 1 + 1 + 1, 0, none⟩ e old ((((w.alloc (.cells #[.pointer (some t)] 167)).alloc (.cells #[.pointer (some ⟨21, 167, none⟩), .pointer (some ⟨w.heap.size, 0, none⟩), .int .u64 150] 212)).alloc (.cells #[.pointer (some ⟨21, 167, none⟩), .pointer (some ⟨w.heap.size, 0, none⟩), .int .u64 150] 212)).alloc (.cells #[.pointer (some e)] 92))
    (by rw [World.cell?_alloc_at _ _ _ _ (by simp)]; rfl)
    (by rw [World.cell?_alloc_lt _ _ t (by simp; omega), World.cell?_alloc_lt _ _ t (by simp; omega), World.cell?_alloc_lt _ _ t (by simp; omega), World.cell?_alloc_lt _ _ t htl]; exact ht0)
    (by rw [World.frozen?_alloc_old _ _ t (by simp; omega), World.frozen?_alloc_old _ _ t (by simp; omega), World.frozen?_alloc_old _ _ t (by simp; omega), World.frozen?_alloc_old _ _ t (Nat.ne_of_lt htl)]; exact hf0)
  go_enter Tryz.func108, Tryz.ntmps108
  go_wp2
  refine wp_loop_rounds 1 ?_
  rw [rounds_succ]
  go_wp2
  go_ret
  exact ⟨rfl, rfl⟩

theorem Tryz.typeOfE (v : Value) (w : World) : (ReflectliteType.typeOf #[.iface 327 v]).run Tryz.prog w = .ok (.iface 256 (.agg #[.pointer (some ⟨21, 327, none⟩)])) w := by kernel_rfl
theorem Tryz.assignableE (w : World) : (ReflectliteType.relation "AssignableTo" ReflectliteType.assignableTo #[.agg #[.pointer (some ⟨21, 327, none⟩)], .iface 256 (.agg #[.pointer (some ⟨21, 92, none⟩)])]).run Tryz.prog w = .ok (.bool false) w := by kernel_rfl

set_option maxHeartbeats 4000000 in
theorem as_miss (e t : Addr) (w : World) (hg : w.cell? ⟨12, 0, none⟩ = some (.iface 256 (.agg #[.pointer (some ⟨21, 35, none⟩)]))) :
    Calls Tryz.prog 108 #[.iface 327 (.pointer (some e)), .iface 167 (.pointer (some t))] w fun ev w' => ev = .returned (.bool false) ∧ w' = (((w.alloc (.cells #[.pointer (some t)] 167)).alloc (.cells #[.pointer (some ⟨21, 167, none⟩), .pointer (some ⟨w.heap.size, 0, none⟩), .int .u64 150] 212)).alloc (.cells #[.pointer (some ⟨21, 167, none⟩), .pointer (some ⟨w.heap.size, 0, none⟩), .int .u64 150] 212)) := by
  have h6 := @run_callFunc_extern Tryz.prog 149 _ (fun args => ReflectliteValue.unpack (args.getD 0 (.tuple #[]))) Tryz.func149 (by kernel_rfl) (by kernel_rfl) (by kernel_rfl) (by kernel_rfl)
  have h7 := @run_callFunc_extern Tryz.prog 150 _ (ReflectliteValue.methodAny (ReflectliteValue.valueError "reflectlite.Value.Type" 0) (fun t _ _ _ => ReflectliteType.toType t)) Tryz.func150 (by kernel_rfl) (by kernel_rfl) (by kernel_rfl) (by kernel_rfl)
  have h8 := @run_callFunc_extern Tryz.prog 151 _ (ReflectliteValue.method (ReflectliteValue.valueError "reflectlite.Value.IsNil" 0) ReflectliteValue.isNil) Tryz.func151 (by kernel_rfl) (by kernel_rfl) (by kernel_rfl) (by kernel_rfl)
  have h27 := @run_callFunc_extern Tryz.prog 278 _ (ReflectliteType.abiMethod fun t => do pure (.int .u8 (← Rtype.kind t))) Tryz.func278 (by kernel_rfl) (by kernel_rfl) (by kernel_rfl) (by kernel_rfl)
  have h37 := @run_callFunc_extern Tryz.prog 292 _ (ReflectliteType.method ReflectliteType.elem) Tryz.func292 (by kernel_rfl) (by kernel_rfl) (by kernel_rfl) (by kernel_rfl)
  have h38 := @run_callFunc_extern Tryz.prog 293 _ (ReflectliteType.relation "Implements" ReflectliteType.implements_) Tryz.func293 (by kernel_rfl) (by kernel_rfl) (by kernel_rfl) (by kernel_rfl)
  have h10 := @run_callFunc_extern Tryz.prog 153 _ ReflectliteType.typeOf Tryz.func153 (by kernel_rfl) (by kernel_rfl) (by kernel_rfl) (by kernel_rfl)
  have h35 := @run_callFunc_extern Tryz.prog 290 _ (ReflectliteType.relation "AssignableTo" ReflectliteType.assignableTo) Tryz.func290 (by kernel_rfl) (by kernel_rfl) (by kernel_rfl) (by kernel_rfl)
  have tO := Tryz.typeOfE
  have mA := Tryz.methodAssignableTo
  have a25 := Tryz.assignableE
  have nA := Tryz.noAsE
  have uE := Tryz.noUnwrapE
  have vE := Tryz.noUnwrapsE
  have f6 := Tryz.valueOf27
  have f7 := Tryz.type27
  have mK := Tryz.methodKind
  have mE := Tryz.methodElem
  have mI := Tryz.methodImplements
  have k27 := Tryz.kind27
  have k25 := Tryz.kind25
  have e27 := Tryz.elem27
  have i25 := Tryz.implements25
  have n8 := Tryz.isNil27 ⟨w.heap.size, 0, none⟩ t ((w.alloc (.cells #[.pointer (some t)] 167)).alloc (.cells #[.pointer (some ⟨21, 167, none⟩), .pointer (some ⟨w.heap.size, 0, none⟩), .int .u64 150] 212)) (by simp)
  have hlt : 12 < w.heap.size := by
    rcases Nat.lt_or_ge 12 w.heap.size with h | h
    · exact h
    · simp [World.cell?, Array.getElem?_eq_none h] at hg
  have hg2 : ((w.alloc (.cells #[.pointer (some t)] 167)).alloc (.cells #[.pointer (some ⟨21, 167, none⟩), .pointer (some ⟨w.heap.size, 0, none⟩), .int .u64 150] 212)).cell? ⟨12, 0, none⟩ = some (.iface 256 (.agg #[.pointer (some ⟨21, 35, none⟩)])) := by
    rw [World.cell?_alloc_lt _ _ ⟨12, 0, none⟩ (by simp; omega), World.cell?_alloc_lt _ _ ⟨12, 0, none⟩ hlt]; exact hg
  go_enter Tryz.func108, Tryz.ntmps108
  go_wp2
  refine wp_loop_rounds 1 ?_
  rw [rounds_succ]
  go_wp2
  go_ret
  exact ⟨rfl, rfl⟩
end Go.Proofs.YtoobgeekmaeccaaGreatDoor
namespace Go.Proofs.YtoobgeekmaeccaaGreatDoor
open Go.RowKit Go.Extern.Stop Go.Stop Go.Extern

def errVar : Nat → Nat
  | 0 => 5
  | 1 => 2
  | 2 => 0
  | 3 => 3
  | 4 => 6
  | 5 => 7
  | 6 => 8
  | 7 => 1
  | 8 => 4
  | 9 => 9
  | 10 => 10
  | _ => 11

def Hand (W : World) : Prop := W.cell? ⟨12, 0, none⟩ = some (.iface 256 (.agg #[.pointer (some ⟨21, 35, none⟩)]))
theorem lt_of_cell {W : World} {p : Addr} {v : Value} (h : W.cell? p = some v) : p.block < W.heap.size := by
  rcases Nat.lt_or_ge p.block W.heap.size with h' | h'
  · exact h'
  · simp [World.cell?, Array.getElem?_eq_none h'] at h

theorem Hand.below {W W' : World} (h : Hand W) (hb : Below W.heap.size W W') : Hand W' := (hb.cell (lt_of_cell h)).trans h
theorem as_miss_below (e t : Addr) (w : World) (h : Hand w) :
    Calls Tryz.prog 108 #[.iface 327 (.pointer (some e)), .iface 167 (.pointer (some t))] w fun ev w' => ev = .returned (.bool false) ∧ Below w.heap.size w w' := by
  refine (as_miss e t w h).mono fun ev w' ⟨he, hw⟩ => ⟨he, ?_⟩
  subst hw
  exact (((Below.refl _ _).alloc (Nat.le_refl _) _).alloc (by simp) _).alloc (by simp; omega) _

theorem as_hit_below (e : Addr) (w : World) (h : Hand w) :
    Calls Tryz.prog 108 #[.iface 92 (.pointer (some e)), .iface 167 (.pointer (some ⟨w.heap.size, 0, none⟩))] (w.alloc (.cells #[.pointer none] 92)) fun ev w' => ev = .returned (.bool true) ∧ Below w.heap.size w w' ∧ w'.cell? ⟨w.heap.size, 0, none⟩ = some (.pointer (some e)) := by
  have hb0 : Below w.heap.size w (w.alloc (.cells #[.pointer none] 92)) := (Below.refl _ _).alloc (Nat.le_refl _) _
  refine (as_hit e ⟨w.heap.size, 0, none⟩ (.pointer none) _ (h.below hb0) (by simp) (by simp)).mono fun ev w' ⟨he, hw⟩ => ⟨he, ?_, ?_⟩
  · subst hw
    exact ((((hb0.alloc (by simp) _).alloc (by simp; omega) _).alloc (by simp; omega) _).alloc (by simp; omega) _).setCell (by simp) _
  · subst hw
    refine World.cell?_setCell_same (u := .pointer none) _ _ _ ?_
    rw [World.cell?_alloc_lt _ _ ⟨w.heap.size, 0, none⟩ (by simp; omega), World.cell?_alloc_lt _ _ ⟨w.heap.size, 0, none⟩ (by simp; omega), World.cell?_alloc_lt _ _ ⟨w.heap.size, 0, none⟩ (by simp; omega), World.cell?_alloc_lt _ _ ⟨w.heap.size, 0, none⟩ (by simp)]
    simp

end Go.Proofs.YtoobgeekmaeccaaGreatDoor
namespace Go.Proofs.YtoobgeekmaeccaaGreatDoor
open Go.RowKit Go.Extern.Stop Go.Stop Go.Extern Go.Sort Go.Shelf Go.Lib

theorem sortRows_at (v : Value) (xs : List Rw) (w : World) (h : RowsAt w v xs) (hl : xs.length ≤ 20000) :
    Calls Tryz.prog 56 #[v] w fun e w' => ∃ v', e = .returned v' ∧ RowsAt w' v' (sortR xs) ∧ Below w.heap.size w w' := by
  rcases h with ⟨p, c, rfl, rfl⟩ | ⟨b, o, cap, rfl, hc⟩
  · clear hl
    go_enter Tryz.func56, Tryz.ntmps56
    go_wp2
    refine wp_loop_rounds 1 ?_
    rw [rounds_succ]
    go_wp2
    go_ret
    exact ⟨_, rfl, Or.inl ⟨none, 0, rfl, by simp [sortR]⟩, Below.refl _ _⟩
  · exact sortRows_any b o cap xs w hc hl

end Go.Proofs.YtoobgeekmaeccaaGreatDoor
namespace Go.Proofs.YtoobgeekmaeccaaGreatDoor
open Go.RowKit Go.Extern.Stop Go.Stop Go.Extern Go.Sort Go.Shelf Go.Lib

theorem writeString_any (B b : Nat) (bs : List Value) (s : ByteArray) (w : World) (h : Lib.IsBuilder 178 5 B b bs w) (hlen : bs.length + s.size ≤ 140737488355328) (hBw : B ≤ w.heap.size) :
    Calls Tryz.prog 114 #[.pointer (some ⟨b, 0, none⟩), .string s] w fun e w' => e = .returned (.tuple #[.int .i64 s.size, .nilIface]) ∧ (Lib.BuilderAt 178 5 B b (.pointer (some ⟨b, 0, none⟩)) (bs ++ Lib.strCells s) w' ∧ Below B w w') := by
  first
  | exact Any.Builder_WriteString { Tryz.lays156 with } Tryz.Builder_Extra_156 B b bs s w h hlen hBw
  | exact Tryz.Builder_WriteString B b bs s w h hlen hBw

theorem isBuilder_below {T e : TypeId} {B b : Nat} {bs : List Value} {w w' : World} (h : Lib.IsBuilder T e B b bs w) (hb : Below w.heap.size w w') : Lib.IsBuilder T e B b bs w' := by
  rcases h with h | h
  · have hlt := h.lt
    obtain ⟨hB, v, hbk, hown, hne⟩ := h
    exact Or.inl ⟨hB, v, (hb.block b hlt).trans hbk, own_below hown hb, hne⟩
  · have hlt := h.lt
    obtain ⟨hB, v, hbk, hown, hne⟩ := h
    exact Or.inr ⟨hB, v, (hb.block b hlt).trans hbk, own_below hown hb, hne⟩

theorem isBuilder_set {T e : TypeId} {B b : Nat} {bs : List Value} {w : World} (h : Lib.IsBuilder T e B b bs w) (g o : Nat) (u : Value) (hg : g < B) : Lib.IsBuilder T e B b bs (w.setCell ⟨g, o, none⟩ u) := by
  rcases h with h | h
  · obtain ⟨hB, v, hbk, hown, hne⟩ := h
    exact Or.inl ⟨hB, v, (heap_setCell_other _ _ _ _ (by show b ≠ g; omega)).trans hbk, ownsRow_setCell_other hown (fun e => by have := (hown.lt g e).1; omega) u, hne⟩
  · obtain ⟨hB, v, hbk, hown, hne⟩ := h
    exact Or.inr ⟨hB, v, (heap_setCell_other _ _ _ _ (by show b ≠ g; omega)).trans hbk, ownsRow_setCell_other hown (fun e => by have := (hown.lt g e).1; omega) u, hne⟩

theorem isBuilder_head {T e : TypeId} {B b : Nat} {bs : List Value} {w : World} (h : Lib.IsBuilder T e B b bs w) (g m : Nat) (E : Int × Int) (hg : g < B) : Lib.IsBuilder T e B b bs (headW w g m E) :=
  isBuilder_set (isBuilder_set (isBuilder_set h g 1 _ hg) g 2 _ hg) g 0 _ hg

set_option maxRecDepth 100000 in
set_option maxHeartbeats 1000000 in
theorem make1_any (x : Rw) (w : World) (a : Nat → Addr) (h : Env w a) (hx : x.1.size ≤ 100) :
    Calls Tryz.prog 129 #[.agg #[.string x.1, .int .i64 x.2.1, .int .i64 x.2.2]] w fun e w' => e = .returned (.tuple #[.string (textB x), .int .i64 x.2.1]) ∧ Below w.heap.size w w' := by
  have htx := fun W (hW : Env W a) => text_any x W a hW (by unfold maxLen; omega)
  generalize textB x = tb at htx ⊢
  obtain ⟨xp, xk, xv⟩ := x
  dsimp only at htx ⊢
  have hal : Below w.heap.size w (w.alloc (.cells #[.string xp, .int .i64 xk, .int .i64 xv] 54)) := (Below.refl _ _).alloc (Nat.le_refl _) _
  have htx2 := htx _ (h.below hal)
  have x1 : (w.alloc (.cells #[.string xp, .int .i64 xk, .int .i64 xv] 54)).cell? ⟨w.heap.size, 1, none⟩ = some (.int .i64 xk) := by simp
  have x0 : (w.alloc (.cells #[.string xp, .int .i64 xk, .int .i64 xv] 54)).cell? ⟨w.heap.size, 0, none⟩ = some (.string xp) := by simp
  have x2 : (w.alloc (.cells #[.string xp, .int .i64 xk, .int .i64 xv] 54)).cell? ⟨w.heap.size, 2, none⟩ = some (.int .i64 xv) := by simp
  have hEA := h.below hal
  clear htx2
  go_enter Tryz.func129, Tryz.ntmps129
  go_wp2_with fail
  generalize w.alloc (.cells #[.string xp, .int .i64 xk, .int .i64 xv] 54) = W0 at hal hEA x0 x1 x2 ⊢
  generalize w.heap.size = g at x0 x1 x2 ⊢
  have hb0 : Below W0.heap.size W0 W0 := Below.refl _ _
  go_region_held3 (fun w' => w'.cell? ⟨g, 0, none⟩ = some (.string xp) ∧ w'.cell? ⟨g, 1, none⟩ = some (.int .i64 xk) ∧ w'.cell? ⟨g, 2, none⟩ = some (.int .i64 xv) ∧ Below W0.heap.size W0 w')
    (first
      | (go_split_ands; exact ⟨below_keep hbX (by assumption), below_keep hbX (by assumption), below_keep hbX (by assumption), Below.trans (by assumption) (hbX.mono (Below.size (by assumption)))⟩)
      | (go_split_ands; exact ⟨by go_keep, by go_keep, by go_keep, by assumption⟩)
      | (go_split_ands; exact ⟨by go_keep, by go_keep, by go_keep, Below.drew (by assumption)⟩)
      | (go_split_ands; exact ⟨by go_keep, by go_keep, by go_keep, Below.alloc (by assumption) (Below.size (by assumption)) _⟩))
    ((go_at_call 130; refine (htx _ (hEA.below (by go_split_ands; assumption))).mono ?_; rintro e w2 ⟨rfl, hbX⟩))
  go_split_ands
  have hbE : Below W0.heap.size W0 w2 := by assumption
  go_wp2
  go_ret2
  exact ⟨rfl, hal.trans (hbE.mono hal.size)⟩

set_option maxRecDepth 100000 in
set_option maxHeartbeats 4000000 in
theorem writeRows_any (kb : ByteArray) (hK : kb.data.toList.length ≤ 4) (v : Value) (xs : List Rw) (w : World) (a : Nat → Addr) (h : Env w a) (hx : RowsAt w v xs) (hl : xs.length ≤ 1000) (hall : ∀ x ∈ xs, rowE x = 0) :
    Calls Tryz.prog 128 #[.string kb, v, .func (.func 129) #[] #[]] w fun e w' => e = .returned (.string (bytesOf (headL kb.data.toList xs.length (endsZ (keysR xs)).1 (endsZ (keysR xs)).2 (sumL (linesL xs)) ++ 10 :: linesL xs))) ∧ Below w.heap.size w w' := by
  have eg : ∀ args w, (callFunc 129 args).run Tryz.prog w = .ok (.enter 129 args) w := enters_of Tryz.func129 (by kernel_rfl) rfl
  obtain ⟨q, cap, rfl⟩ := hx.form
  obtain ⟨L, hL⟩ : ∃ L, xs.length = L := ⟨_, rfl⟩
  have HX : Hid (xs.length = L) := hL
  have harg : (Value.slice q xs.length cap) = .slice q L cap := by rw [hL]
  rw [harg] at hx ⊢
  rw [hL] at hl
  clear hL harg
  have hA := heap_alloc2_old w (.cells #[.int .i64 0, .int .i64 0, .int .i64 0] 174) (.cells #[.pointer none, .slice none 0 0] 178)
  have hB := heap_alloc2_new w (.cells #[.int .i64 0, .int .i64 0, .int .i64 0] 174) (.cells #[.pointer none, .slice none 0 0] 178)
  have hal : Below w.heap.size w ((w.alloc (.cells #[.int .i64 0, .int .i64 0, .int .i64 0] 174)).alloc (.cells #[.pointer none, .slice none 0 0] 178)) := ((Below.refl _ _).alloc (Nat.le_refl _) _).alloc (by simp) _
  have hbld : Lib.IsBuilder 178 5 (w.heap.size + 1) (w.heap.size + 1) (Lib.byteCells (linesL [])) ((w.alloc (.cells #[.int .i64 0, .int .i64 0, .int .i64 0] 174)).alloc (.cells #[.pointer none, .slice none 0 0] 178)) :=
    Or.inl ⟨Nat.le_refl _, .slice none 0 0, hB, World.ownsRow_nil _ _ _ _, by simp [Value.ownBlock]⟩
  go_enter Tryz.func128, Tryz.ntmps128
  go_wp2
  go_loopw [16] (fun k wr => ∃ n : Nat, n ≤ L ∧ k = .int .i64 n ∧ Below w.heap.size w wr ∧ HeadAt wr w.heap.size n (endsZ (keysR (xs.take n))) ∧ Lib.IsBuilder 178 5 (w.heap.size + 1) (w.heap.size + 1) (Lib.byteCells (linesL (xs.take n))) wr) (fun k _ => L - (intOf k).toNat)
  case atStart => exact ⟨0, by omega, rfl, hal, hA, by simpa using hbld⟩
  case round =>
    clear hal hbld hA hB
    obtain ⟨n, hn, rfl, hb, hH, hB⟩ := hrel
    have hbh : w.heap.size ≤ wr.heap.size := hb.size
    have hbh1 : w.heap.size + 1 < wr.heap.size := by
      rcases hB with hB | hB
      · exact hB.lt
      · exact hB.lt
    by_cases hlt : n < L
    · have hltx : n < xs.length := by rw [HX.out]; exact hlt
      have hrows := hx.below hb
      rcases hrows with ⟨_, _, e, e'⟩ | ⟨b, o, cap2, e, hcells⟩
      · exfalso; have := HX.out; rw [e'] at this; simp at this; omega
      injection e with e1 e2 e3
      subst e1
      clear e2 e3
      obtain ⟨c1, c2, c3⟩ := hcells n hltx
      clear hcells
      have hi : (n : Int) < (L : Int) := by omega
      have hmem : xs[n] ∈ xs := List.getElem_mem _
      have hrok := hall _ hmem
      have htk : xs.take (n + 1) = xs.take n ++ [xs[n]] := by rw [List.take_append_getElem hltx]
      have hxs : xs[n].1.size ≤ 8 := by
        have := name_of_row hrok
        simp only [nameB, Bool.and_eq_true, decide_eq_true_eq] at this
        rw [← size_list]; exact this.1.2
      have htx := fun W (hW : Env W a) => make1_any xs[n] W a hW (by omega)
      have HTB : Hid ((textB xs[n]).data.toList = textL xs[n]) := textB_ok _ hrok
      have htl := text_len xs[n] hrok
      have hts : (textB xs[n]).size ≤ 32 := by rw [← size_list, HTB.out]; exact htl
      have HT : Hid (linesL (xs.take (n + 1)) = linesL (xs.take n) ++ (textL xs[n] ++ [10])) := by
        show _ = _
        rw [htk]; exact linesG_snoc dataK _ _
      have HKE : Hid (endsZ (keysR (xs.take (n + 1))) = endsP n (endsZ (keysR (xs.take n))) xs[n].2.1) := by
        show _ = _
        have hkl : (keysR (xs.take n)).length = n := by simp [keysG]; omega
        have := ends_more (keysR (xs.take n)) xs[n].2.1
        rw [hkl] at this
        rw [← this, htk, keys_snoc]
      have hll := linesG_len data_fine (xs.take n) (fun x hx2 => hall x (List.mem_of_mem_take hx2))
      have hlen : (Lib.byteCells (linesL (xs.take n))).length ≤ 40000 := by
        rw [Lib.byteCells_length]
        have : (xs.take n).length ≤ n := List.length_take_le _ _
        show (linesG dataK (xs.take n)).length ≤ 40000
        omega
      clear htk hmem hrok hxs htl hll
      generalize xs[n] = x at c1 c2 c3 htx HTB hts HT HKE
      generalize linesL (xs.take n) = acc at hB HT hlen
      generalize endsZ (keysR (xs.take n)) = E at hH HKE
      obtain ⟨xp, xk, xv⟩ := x
      generalize textB (xp, xk, xv) = tb at htx HTB hts
      dsimp only at c1 c2 c3 htx HKE
      have hal : Below wr.heap.size wr (wr.alloc (.cells #[.string xp, .int .i64 xk, .int .i64 xv] 54)) := (Below.refl _ _).alloc (Nat.le_refl _) _
      have hb2 : Below w.heap.size w (wr.alloc (.cells #[.string xp, .int .i64 xk, .int .i64 xv] 54)) := hb.trans (hal.mono hb.size)
      have htx2 := htx _ (h.below hb2)
      have hB2 := isBuilder_below hB hal
      have hH2 := hH.below hal
      clear htx hB hH
      go_wp2_with (go_at_fn 129; refine htx2.mono ?_; rintro e w3 ⟨rfl, hb3⟩)
      clear htx2 c1 c2 c3
      have hb4 : Below w.heap.size w w3 := hb2.trans (hb3.mono hb2.size)
      have hH3 := hH2.below hb3
      have hB3 := isBuilder_below hB2 hb3
      have hct := count_any w.heap.size n E xk w3 hH3 (by omega)
      clear hB2 hH2 hal
      go_wp2_with fail
      refine hct.mono ?_
      rintro e w4 ⟨rfl, rfl⟩
      clear hct
      have hH4 : HeadAt (headW w3 w.heap.size (n + 1) (endsP n E xk)) w.heap.size (n + 1) (endsP n E xk) := headW_at hH3
      have hB4 := isBuilder_head hB3 w.heap.size (n + 1) (endsP n E xk) (by omega)
      have hb5 : Below w.heap.size w (headW w3 w.heap.size (n + 1) (endsP n E xk)) := headW_below hb4 (Nat.le_refl _)
      have hsz5 : w.heap.size + 1 ≤ (headW w3 w.heap.size (n + 1) (endsP n E xk)).heap.size := by rw [headW_size]; exact lt_of_block hH3
      clear hB3 hH3 hb4
      generalize headW w3 w.heap.size (n + 1) (endsP n E xk) = W4 at hH4 hB4 hb5 hsz5 ⊢
      have hws := writeString_any (w.heap.size + 1) (w.heap.size + 1) _ tb W4 hB4 (by omega) hsz5
      clear hB4
      go_wp2_with fail
      refine hws.mono ?_
      rintro e w5 ⟨rfl, hB5, hb6⟩
      clear hws
      have hb7 : Below w.heap.size w w5 := hb5.trans (hb6.mono (Nat.le_succ _))
      have hH5 : HeadAt w5 w.heap.size (n + 1) (endsP n E xk) := by
        unfold HeadAt at *
        exact (hb6.block _ (Nat.lt_succ_self _)).trans hH4
      have hws := writeString_any (w.heap.size + 1) (w.heap.size + 1) _ ⟨#[10]⟩ w5 (Or.inr hB5) (by rw [List.length_append, Lib.strCells_length]; have : (⟨#[10]⟩ : ByteArray).size = 1 := rfl; omega) (Nat.le_trans hsz5 hb6.size)
      clear hH4
      go_wp2_with fail
      refine hws.mono ?_
      rintro e w7 ⟨rfl, hB7, hb8⟩
      clear hws hB5
      have hb9 : Below w.heap.size w w7 := hb7.trans (hb8.mono (Nat.le_succ _))
      have HH7 : Hid (HeadAt w7 w.heap.size (n + 1) (endsZ (keysR (xs.take (n + 1))))) := by
        show HeadAt _ _ _ _
        rw [HKE.out]
        unfold HeadAt at *
        exact (hb8.block _ (Nat.lt_succ_self _)).trans hH5
      have HB8 : Hid (Lib.IsBuilder 178 5 (w.heap.size + 1) (w.heap.size + 1) (Lib.byteCells (linesL (xs.take (n + 1)))) w7) := by
        show Lib.IsBuilder _ _ _ _ _ _
        rw [HT.out, Lib.byteCells_append, Lib.byteCells_append, ← HTB.out, ← List.append_assoc]
        exact Or.inr hB7
      clear hB7 hH5
      go_wp2
      go_roundw
      case rel => exact ⟨n + 1, by omega, by go_num, hb9, HH7.out, HB8.out⟩
      case measure => simp [intOf]; omega
    · obtain rfl : n = L := by omega
      have hta : xs.take n = xs := List.take_of_length_le (by rw [HX.out]; exact Nat.le_refl _)
      rw [hta] at hB hH
      have hst := Tryz.Builder_String_any (w.heap.size + 1) (w.heap.size + 1) (linesL xs) wr hB (by omega)
      have hfl := linesG_len data_fine xs hall
      have hends := ends_inG data_fine hall
      have hsum := fun W => sum_any (bytesOf (linesL xs)) W (by rw [bytes_len]; unfold maxLen; show (linesG dataK xs).length ≤ _; rw [HX.out] at hfl; omega)
      have eL : (bytesOf (linesL xs)).data.toList = linesL xs := by simp [bytesOf]
      rw [eL] at hsum
      have hsl := sumL_lt (linesL xs)
      have hht := fun W (hW : Env W a) => headText_any kb hK n (endsZ (keysR xs)).1 (endsZ (keysR xs)).2 (sumL (linesL xs)) W a hW.weak (by omega) hends.1 hends.2 hsl
      have hhl := head_len hK n (endsZ (keysR xs)).1 (endsZ (keysR xs)).2 (sumL (linesL xs)) (by omega) hends.1 hends.2 (by omega)
      obtain ⟨T0, hT0⟩ : ∃ T0, bytesOf (headL kb.data.toList xs.length (endsZ (keysR xs)).1 (endsZ (keysR xs)).2 (sumL (linesL xs)) ++ 10 :: linesL xs) = T0 := ⟨_, rfl⟩
      have HT0 : Hid (bytesOf (headL kb.data.toList xs.length (endsZ (keysR xs)).1 (endsZ (keysR xs)).2 (sumL (linesL xs)) ++ 10 :: linesL xs) = T0) := hT0
      have HF : Hid (T0 = bytesOf (headL kb.data.toList n (endsZ (keysR xs)).1 (endsZ (keysR xs)).2 (sumL (linesL xs))) ++ ⟨#[10]⟩ ++ bytesOf (linesL xs)) := by
        show _ = _
        rw [← hT0, HX.out]
        apply ByteArray.ext
        apply Array.ext'
        simp [bytesOf]
      have hs1 : (bytesOf (headL kb.data.toList n (endsZ (keysR xs)).1 (endsZ (keysR xs)).2 (sumL (linesL xs)))).size ≤ 2000 := by rw [bytes_len]; omega
      have hs2 : (bytesOf (linesL xs)).size ≤ 40000 := by rw [bytes_len]; show (linesG dataK xs).length ≤ _; rw [HX.out] at hfl; omega
      clear eL hfl hends hhl hta hB hall hT0
      generalize sumL (linesL xs) = S at hht hsum HF hs1 hsl
      generalize endsZ (keysR xs) = E at hht HF hs1 hH
      obtain ⟨lo, hi2⟩ := E
      dsimp only at hht HF hs1
      generalize bytesOf (headL kb.data.toList n lo hi2 (S : Int)) = hB at hht HF hs1
      have eS : (⟨(linesL xs).toArray⟩ : ByteArray) = bytesOf (linesL xs) := rfl
      rw [eS] at hst
      generalize bytesOf (linesL xs) = lB at hst hsum HF hs2
      clear eS
      go_wp2_with fail
      refine hst.mono ?_
      rintro e w2 ⟨rfl, hb2⟩
      clear hst
      have hH2 : HeadAt w2 w.heap.size n (lo, hi2) := by
        unfold HeadAt at *
        exact (hb2.block _ (Nat.lt_succ_self _)).trans hH
      obtain ⟨g0, g1, g2, _⟩ := hH2.cells
      dsimp only at g1 g2
      clear hH hH2
      have hB2 : Below w.heap.size w w2 := hb.trans (hb2.mono (Nat.le_succ _))
      have hE2 := h.below hB2
      have hb0 : Below w2.heap.size w2 w2 := Below.refl _ _
      have n1 : ¬ 9223372036854775807 < hB.size + 1 := by omega
      have n2 : ¬ 9223372036854775807 < hB.size + 1 + lB.size := by omega
      go_wp2_with fail
      go_region_held3 (fun w' => w'.cell? ⟨w.heap.size, 0, none⟩ = some (.int .i64 n) ∧ w'.cell? ⟨w.heap.size, 1, none⟩ = some (.int .i64 lo) ∧ w'.cell? ⟨w.heap.size, 2, none⟩ = some (.int .i64 hi2) ∧ Below w2.heap.size w2 w')
        (first
          | (go_split_ands; exact ⟨below_keep hbX (by assumption), below_keep hbX (by assumption), below_keep hbX (by assumption), Below.trans (by assumption) (hbX.mono (Below.size (by assumption)))⟩)
          | (go_split_ands; exact ⟨by go_keep, by go_keep, by go_keep, by assumption⟩)
          | (go_split_ands; exact ⟨by go_keep, by go_keep, by go_keep, Below.drew (by assumption)⟩))
        (first
          | (go_at_call 117; refine (hsum _).mono ?_; rintro e w3 ⟨rfl, hbX⟩)
          | (go_at_call 116; refine (hht _ (hE2.below (by go_split_ands; assumption))).mono ?_; rintro e w4 ⟨rfl, hbX⟩))
      go_split_ands
      have hbE : Below w2.heap.size w2 w4 := by assumption
      go_wp2
      go_ret
      exact ⟨by rw [HT0.out, HF.out]; rfl, hB2.trans (hbE.mono hB2.size)⟩
end Go.Proofs.YtoobgeekmaeccaaGreatDoor
