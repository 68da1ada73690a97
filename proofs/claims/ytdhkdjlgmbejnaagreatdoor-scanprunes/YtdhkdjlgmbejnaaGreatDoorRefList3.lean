/-
  The contract of the document's own ListFault.
-/
import Derived.Test.YtdhkdjlgmbejnaaGreatDoorErrs
namespace Go.Proofs.YtdhkdjlgmbejnaaGreatDoor
open Go.RowKit Go.Extern.Stop Go.Stop Go.Extern

theorem Tryz.valueOf27 (t : Addr) (w : World) : (ReflectliteValue.unpack (.iface 167 (.pointer (some t)))).run Tryz.prog w
    = .ok (.agg #[.pointer (some ⟨21, 167, none⟩), .pointer (some ⟨w.heap.size, 0, none⟩), .int .u64 150]) (w.alloc (.cells #[.pointer (some t)] 167)) := by kernel_rfl
theorem Tryz.type27 (a : Addr) (w : World) : (ReflectliteValue.methodAny (ReflectliteValue.valueError "reflectlite.Value.Type" 0) (fun t _ _ _ => ReflectliteType.toType t) #[.agg #[.pointer (some ⟨21, 167, none⟩), .pointer (some a), .int .u64 150]]).run Tryz.prog w
    = .ok (.iface 256 (.agg #[.pointer (some ⟨21, 167, none⟩)])) w := by kernel_rfl
theorem Tryz.methodKind (h : Value) (w : World) : (Go.method 456 256 (.agg #[h]) "Kind").run Tryz.prog w = .ok (279, h) w := by kernel_rfl
theorem Tryz.kind27 (w : World) : ((ReflectliteType.abiMethod fun t => (fun a : Nat => Value.int IntKind.u8 (a : Int)) <$> Rtype.kind t) #[.pointer (some ⟨21, 167, none⟩)]).run Tryz.prog w = .ok (.int .u8 22) w := by kernel_rfl
theorem Tryz.kind25 (w : World) : ((ReflectliteType.abiMethod fun t => (fun a : Nat => Value.int IntKind.u8 (a : Int)) <$> Rtype.kind t) #[.pointer (some ⟨21, 92, none⟩)]).run Tryz.prog w = .ok (.int .u8 22) w := by kernel_rfl

theorem Tryz.parts27 (a : Addr) (w : World) : (ReflectliteValue.parts (.agg #[.pointer (some ⟨21, 167, none⟩), .pointer (some a), .int .u64 150])).run Tryz.prog w = .ok (some (167, a, 150)) w := by kernel_rfl
theorem Tryz.isNil27 (a p : Addr) (W : World) (ha : W.cell? a = some (.pointer (some p))) :
    (ReflectliteValue.method (ReflectliteValue.valueError "reflectlite.Value.IsNil" 0) ReflectliteValue.isNil #[.agg #[.pointer (some ⟨21, 167, none⟩), .pointer (some a), .int .u64 150]]).run Tryz.prog W = .ok (.bool false) W := by
  delta ReflectliteValue.method ReflectliteValue.method.match_2
  dsimp only
  refine Eq.trans (congrArg (fun z => Sem.run Tryz.prog z W) (dif_pos rfl)) ?_
  simp only [Sem.run_bind, Array.getLit, List.getElem_toArray, List.getElem_cons_zero, Tryz.parts27, Result.andThen]
  simp [ReflectliteValue.isNil, loadVar, isAgg, underlying, Tryz.underlying167, ha, Result.andThen]

theorem Tryz.methodElem (h : Value) (w : World) : (Go.method 456 256 (.agg #[h]) "Elem").run Tryz.prog w = .ok (293, .agg #[h]) w := by kernel_rfl
theorem Tryz.methodImplements (h : Value) (w : World) : (Go.method 456 256 (.agg #[h]) "Implements").run Tryz.prog w = .ok (294, .agg #[h]) w := by kernel_rfl
theorem Tryz.methodAssignableTo (h : Value) (w : World) : (Go.method 456 256 (.agg #[h]) "AssignableTo").run Tryz.prog w = .ok (291, .agg #[h]) w := by kernel_rfl
theorem Tryz.elem27 (w : World) : (ReflectliteType.method ReflectliteType.elem #[.agg #[.pointer (some ⟨21, 167, none⟩)]]).run Tryz.prog w = .ok (.iface 256 (.agg #[.pointer (some ⟨21, 92, none⟩)])) w := by kernel_rfl
theorem Tryz.implements25 (w : World) : (ReflectliteType.relation "Implements" ReflectliteType.implements_ #[.agg #[.pointer (some ⟨21, 92, none⟩)], .iface 256 (.agg #[.pointer (some ⟨21, 35, none⟩)])]).run Tryz.prog w = .ok (.bool true) w := by kernel_rfl
theorem Tryz.typeOf25 (v : Value) (w : World) : (ReflectliteType.typeOf #[.iface 92 v]).run Tryz.prog w = .ok (.iface 256 (.agg #[.pointer (some ⟨21, 92, none⟩)])) w := by kernel_rfl
theorem Tryz.assignable25 (w : World) : (ReflectliteType.relation "AssignableTo" ReflectliteType.assignableTo #[.agg #[.pointer (some ⟨21, 92, none⟩)], .iface 256 (.agg #[.pointer (some ⟨21, 92, none⟩)])]).run Tryz.prog w = .ok (.bool true) w := by kernel_rfl
theorem Tryz.valueOf25 (e : Addr) (w : World) : (ReflectliteValue.unpack (.iface 92 (.pointer (some e)))).run Tryz.prog w
    = .ok (.agg #[.pointer (some ⟨21, 92, none⟩), .pointer (some ⟨w.heap.size, 0, none⟩), .int .u64 150]) (w.alloc (.cells #[.pointer (some e)] 92)) := by kernel_rfl

theorem Tryz.elemOf27 (w : World) : (Rtype.elem? 167).run Tryz.prog w = .ok (some 92) w := by kernel_rfl
theorem Tryz.mk25 (p : Addr) (w : World) : (ReflectliteValue.mk 92 p ReflectliteValue.flagAddr).run Tryz.prog w = .ok (.agg #[.pointer (some ⟨21, 92, none⟩), .pointer (some p), .int .u64 406]) w := by kernel_rfl
theorem Tryz.elemV27 (a p : Addr) (W : World) (ha : W.cell? a = some (.pointer (some p))) :
    (ReflectliteValue.method (ReflectliteValue.valueError "reflectlite.Value.Elem" 0) ReflectliteValue.elem #[.agg #[.pointer (some ⟨21, 167, none⟩), .pointer (some a), .int .u64 150]]).run Tryz.prog W
      = .ok (.agg #[.pointer (some ⟨21, 92, none⟩), .pointer (some p), .int .u64 406]) W := by
  delta ReflectliteValue.method ReflectliteValue.method.match_2
  dsimp only
  refine Eq.trans (congrArg (fun z => Sem.run Tryz.prog z W) (dif_pos rfl)) ?_
  simp only [Sem.run_bind, Array.getLit, List.getElem_toArray, List.getElem_cons_zero, Tryz.parts27, Result.andThen]
  simp [ReflectliteValue.elem, loadVar, isAgg, underlying, Tryz.underlying167, ha, Result.andThen, Tryz.elemOf27, Tryz.mk25]
theorem Tryz.parts25a (a : Addr) (w : World) : (ReflectliteValue.parts (.agg #[.pointer (some ⟨21, 92, none⟩), .pointer (some a), .int .u64 406])).run Tryz.prog w = .ok (some (92, a, 406)) w := by kernel_rfl
theorem Tryz.parts25 (a : Addr) (w : World) : (ReflectliteValue.parts (.agg #[.pointer (some ⟨21, 92, none⟩), .pointer (some a), .int .u64 150])).run Tryz.prog w = .ok (some (92, a, 150)) w := by kernel_rfl
theorem Tryz.direct25 (w : World) : (Rtype.directlyAssignable 92 92).run Tryz.prog w = .ok true w := by kernel_rfl
theorem Tryz.set25 (ta b e : Addr) (old : Value) (W : World) (hb : W.cell? b = some (.pointer (some e))) (ht : W.cell? ta = some old) (hf : W.frozen? ta = false) :
    (ReflectliteValue.set #[.agg #[.pointer (some ⟨21, 92, none⟩), .pointer (some ta), .int .u64 406], .agg #[.pointer (some ⟨21, 92, none⟩), .pointer (some b), .int .u64 150]]).run Tryz.prog W
      = .ok (.tuple #[]) (W.setCell ta (.pointer (some e))) := by
  delta ReflectliteValue.set ReflectliteValue.set.match_3
  dsimp only
  refine Eq.trans (congrArg (fun z => Sem.run Tryz.prog z W) (dif_pos rfl)) ?_
  simp only [Sem.run_bind, Array.getLit, List.getElem_toArray, List.getElem_cons_zero, List.getElem_cons_succ, Tryz.parts25a, Tryz.parts25, Result.andThen]
  simp [ReflectliteValue.flagAddr, loadVar, isAgg, underlying, Tryz.underlying92, hb, Result.andThen, Tryz.direct25, storeVar, Value.cells, storeCells, Addr.add]
  rw [run_store Tryz.prog W ta _ _ (by rfl)]
  simp [ht, hf]

set_option maxHeartbeats 4000000 in
theorem as_hit (e t : Addr) (old : Value) (w : World) (hg : w.cell? ⟨12, 0, none⟩ = some (.iface 256 (.agg #[.pointer (some ⟨21, 35, none⟩)]))) (ht0 : w.cell? t = some old) (hf0 : w.frozen? t = false) :
    Calls Tryz.prog 108 #[.iface 92 (.pointer (some e)), .iface 167 (.pointer (some t))] w fun ev w' => ev = .returned (.bool true) ∧ w' = ((((w.alloc (.cells #[.pointer (some t)] 167)).alloc (.cells #[.pointer (some ⟨21, 167, none⟩), .pointer (some ⟨w.heap.size, 0, none⟩), .int .u64 150] 212)).alloc (.cells #[.pointer (some ⟨21, 167, none⟩), .pointer (some ⟨w.heap.size, 0, none⟩), .int .u64 150] 212)).alloc (.cells #[.pointer (some e)] 92)).setCell t (.pointer (some e)) := by
  have h6 := @run_callFunc_extern Tryz.prog 150 _ (fun args => ReflectliteValue.unpack (args.getD 0 (.tuple #[]))) Tryz.func150 (by kernel_rfl) (by kernel_rfl) (by kernel_rfl) (by kernel_rfl)
  have h7 := @run_callFunc_extern Tryz.prog 151 _ (ReflectliteValue.methodAny (ReflectliteValue.valueError "reflectlite.Value.Type" 0) (fun t _ _ _ => ReflectliteType.toType t)) Tryz.func151 (by kernel_rfl) (by kernel_rfl) (by kernel_rfl) (by kernel_rfl)
  have h8 := @run_callFunc_extern Tryz.prog 152 _ (ReflectliteValue.method (ReflectliteValue.valueError "reflectlite.Value.IsNil" 0) ReflectliteValue.isNil) Tryz.func152 (by kernel_rfl) (by kernel_rfl) (by kernel_rfl) (by kernel_rfl)
  have h27 := @run_callFunc_extern Tryz.prog 279 _ (ReflectliteType.abiMethod fun t => do pure (.int .u8 (← Rtype.kind t))) Tryz.func279 (by kernel_rfl) (by kernel_rfl) (by kernel_rfl) (by kernel_rfl)
  have h37 := @run_callFunc_extern Tryz.prog 293 _ (ReflectliteType.method ReflectliteType.elem) Tryz.func293 (by kernel_rfl) (by kernel_rfl) (by kernel_rfl) (by kernel_rfl)
  have h38 := @run_callFunc_extern Tryz.prog 294 _ (ReflectliteType.relation "Implements" ReflectliteType.implements_) Tryz.func294 (by kernel_rfl) (by kernel_rfl) (by kernel_rfl) (by kernel_rfl)
  have h10 := @run_callFunc_extern Tryz.prog 154 _ ReflectliteType.typeOf Tryz.func154 (by kernel_rfl) (by kernel_rfl) (by kernel_rfl) (by kernel_rfl)
  have h35 := @run_callFunc_extern Tryz.prog 291 _ (ReflectliteType.relation "AssignableTo" ReflectliteType.assignableTo) Tryz.func291 (by kernel_rfl) (by kernel_rfl) (by kernel_rfl) (by kernel_rfl)
  have h11 := @run_callFunc_extern Tryz.prog 193 _ (ReflectliteValue.method (ReflectliteValue.valueError "reflectlite.Value.Elem" 0) ReflectliteValue.elem) Tryz.func193 (by kernel_rfl) (by kernel_rfl) (by kernel_rfl) (by kernel_rfl)
  have h12 := @run_callFunc_extern Tryz.prog 194 _ ReflectliteValue.set Tryz.func194 (by kernel_rfl) (by kernel_rfl) (by kernel_rfl) (by kernel_rfl)
  have tO := Tryz.typeOf25
  have mA := Tryz.methodAssignableTo
  have a25 := Tryz.assignable25
  have v25 := Tryz.valueOf25
  have f6 := Tryz.valueOf27
  have f7 := Tryz.type27
  have mK := Tryz.methodKind
  have mE := Tryz.methodElem
  have mI := Tryz.methodImplements
  have k27 := Tryz.kind27
  have k25 := Tryz.kind25
  have e27 := Tryz.elem27
  have i25 := Tryz.implements25
  have n8 := Tryz.isNil27 ⟨w.heap.size, 0, none⟩ t ((w.alloc (.cells #[.pointer (some t)] 167)).alloc (.cells #[.pointer (some ⟨21, 167, none⟩), .pointer (some ⟨w.heap.size, 0, none⟩), .int .u64 150] 212)) (by simp)
  have hlt : 12 < w.heap.size := by
    rcases Nat.lt_or_ge 12 w.heap.size with h | h
    · exact h
    · simp [World.cell?, Array.getElem?_eq_none h] at hg
  have hg2 : ((w.alloc (.cells #[.pointer (some t)] 167)).alloc (.cells #[.pointer (some ⟨21, 167, none⟩), .pointer (some ⟨w.heap.size, 0, none⟩), .int .u64 150] 212)).cell? ⟨12, 0, none⟩ = some (.iface 256 (.agg #[.pointer (some ⟨21, 35, none⟩)])) := by
    rw [World.cell?_alloc_lt _ _ ⟨12, 0, none⟩ (by simp; omega), World.cell?_alloc_lt _ _ ⟨12, 0, none⟩ hlt]; exact hg
  have htl : t.block < w.heap.size := by
    rcases Nat.lt_or_ge t.block w.heap.size with h | h
    · exact h
    · simp [World.cell?, Array.getElem?_eq_none h] at ht0
  have el := Tryz.elemV27 ⟨w.heap.size, 0, none⟩ t (((w.alloc (.cells #[.pointer (some t)] 167)).alloc (.cells #[.pointer (some ⟨21, 167, none⟩), .pointer (some ⟨w.heap.size, 0, none⟩), .int .u64 150] 212)).alloc (.cells #[.pointer (some ⟨21, 167, none⟩), .pointer (some ⟨w.heap.size, 0, none⟩), .int .u64 150] 212)) (by rw [World.cell?_alloc_lt _ _ ⟨w.heap.size, 0, none⟩ (by simp; omega)]; simp)
  have st := Tryz.set25 t ⟨w.heap.size + 1 + 1 + 1, 0, none⟩ e old ((((w.alloc (.cells #[.pointer (some t)] 167)).alloc (.cells #[.pointer (some ⟨21, 167, none⟩), .pointer (some ⟨w.heap.size, 0, none⟩), .int .u64 150] 212)).alloc (.cells #[.pointer (some ⟨21, 167, none⟩), .pointer (some ⟨w.heap.size, 0, none⟩), .int .u64 150] 212)).alloc (.cells #[.pointer (some e)] 92))
    (by rw [World.cell?_alloc_at _ _ _ _ (by simp)]; rfl)
    (by rw [World.cell?_alloc_lt _ _ t (by simp; omega), World.cell?_alloc_lt _ _ t (by simp; omega), World.cell?_alloc_lt _ _ t (by simp; omega), World.cell?_alloc_lt _ _ t htl]; exact ht0)
    (by rw [World.frozen?_alloc_old _ _ t (by simp; omega), World.frozen?_alloc_old _ _ t (by simp; omega), World.frozen?_alloc_old _ _ t (by simp; omega), World.frozen?_alloc_old _ _ t (Nat.ne_of_lt htl)]; exact hf0)
  go_enter Tryz.func108, Tryz.ntmps108
  go_wp2
  refine wp_loop_rounds 1 ?_
  rw [rounds_succ]
  go_wp2
  go_ret
  exact ⟨rfl, rfl⟩

theorem Tryz.typeOfE (v : Value) (w : World) : (ReflectliteType.typeOf #[.iface 327 v]).run Tryz.prog w = .ok (.iface 256 (.agg #[.pointer (some ⟨21, 327, none⟩)])) w := by kernel_rfl
theorem Tryz.assignableE (w : World) : (ReflectliteType.relation "AssignableTo" ReflectliteType.assignableTo #[.agg #[.pointer (some ⟨21, 327, none⟩)], .iface 256 (.agg #[.pointer (some ⟨21, 92, none⟩)])]).run Tryz.prog w = .ok (.bool false) w := by kernel_rfl

set_option maxHeartbeats 4000000 in
theorem as_miss (e t : Addr) (w : World) (hg : w.cell? ⟨12, 0, none⟩ = some (.iface 256 (.agg #[.pointer (some ⟨21, 35, none⟩)]))) :
    Calls Tryz.prog 108 #[.iface 327 (.pointer (some e)), .iface 167 (.pointer (some t))] w fun ev w' => ev = .returned (.bool false) ∧ w' = (((w.alloc (.cells #[.pointer (some t)] 167)).alloc (.cells #[.pointer (some ⟨21, 167, none⟩), .pointer (some ⟨w.heap.size, 0, none⟩), .int .u64 150] 212)).alloc (.cells #[.pointer (some ⟨21, 167, none⟩), .pointer (some ⟨w.heap.size, 0, none⟩), .int .u64 150] 212)) := by
  have h6 := @run_callFunc_extern Tryz.prog 150 _ (fun args => ReflectliteValue.unpack (args.getD 0 (.tuple #[]))) Tryz.func150 (by kernel_rfl) (by kernel_rfl) (by kernel_rfl) (by kernel_rfl)
  have h7 := @run_callFunc_extern Tryz.prog 151 _ (ReflectliteValue.methodAny (ReflectliteValue.valueError "reflectlite.Value.Type" 0) (fun t _ _ _ => ReflectliteType.toType t)) Tryz.func151 (by kernel_rfl) (by kernel_rfl) (by kernel_rfl) (by kernel_rfl)
  have h8 := @run_callFunc_extern Tryz.prog 152 _ (ReflectliteValue.method (ReflectliteValue.valueError "reflectlite.Value.IsNil" 0) ReflectliteValue.isNil) Tryz.func152 (by kernel_rfl) (by kernel_rfl) (by kernel_rfl) (by kernel_rfl)
  have h27 := @run_callFunc_extern Tryz.prog 279 _ (ReflectliteType.abiMethod fun t => do pure (.int .u8 (← Rtype.kind t))) Tryz.func279 (by kernel_rfl) (by kernel_rfl) (by kernel_rfl) (by kernel_rfl)
  have h37 := @run_callFunc_extern Tryz.prog 293 _ (ReflectliteType.method ReflectliteType.elem) Tryz.func293 (by kernel_rfl) (by kernel_rfl) (by kernel_rfl) (by kernel_rfl)
  have h38 := @run_callFunc_extern Tryz.prog 294 _ (ReflectliteType.relation "Implements" ReflectliteType.implements_) Tryz.func294 (by kernel_rfl) (by kernel_rfl) (by kernel_rfl) (by kernel_rfl)
  have h10 := @run_callFunc_extern Tryz.prog 154 _ ReflectliteType.typeOf Tryz.func154 (by kernel_rfl) (by kernel_rfl) (by kernel_rfl) (by kernel_rfl)
  have h35 := @run_callFunc_extern Tryz.prog 291 _ (ReflectliteType.relation "AssignableTo" ReflectliteType.assignableTo) Tryz.func291 (by kernel_rfl) (by kernel_rfl) (by kernel_rfl) (by kernel_rfl)
  have tO := Tryz.typeOfE
  have mA := Tryz.methodAssignableTo
  have a25 := Tryz.assignableE
  have nA := Tryz.noAsE
  have uE := Tryz.noUnwrapE
  have vE := Tryz.noUnwrapsE
  have f6 := Tryz.valueOf27
  have f7 := Tryz.type27
  have mK := Tryz.methodKind
  have mE := Tryz.methodElem
  have mI := Tryz.methodImplements
  have k27 := Tryz.kind27
  have k25 := Tryz.kind25
  have e27 := Tryz.elem27
  have i25 := Tryz.implements25
  have n8 := Tryz.isNil27 ⟨w.heap.size, 0, none⟩ t ((w.alloc (.cells #[.pointer (some t)] 167)).alloc (.cells #[.pointer (some ⟨21, 167, none⟩), .pointer (some ⟨w.heap.size, 0, none⟩), .int .u64 150] 212)) (by simp)
  have hlt : 12 < w.heap.size := by
    rcases Nat.lt_or_ge 12 w.heap.size with h | h
    · exact h
    · simp [World.cell?, Array.getElem?_eq_none h] at hg
  have hg2 : ((w.alloc (.cells #[.pointer (some t)] 167)).alloc (.cells #[.pointer (some ⟨21, 167, none⟩), .pointer (some ⟨w.heap.size, 0, none⟩), .int .u64 150] 212)).cell? ⟨12, 0, none⟩ = some (.iface 256 (.agg #[.pointer (some ⟨21, 35, none⟩)])) := by
    rw [World.cell?_alloc_lt _ _ ⟨12, 0, none⟩ (by simp; omega), World.cell?_alloc_lt _ _ ⟨12, 0, none⟩ hlt]; exact hg
  go_enter Tryz.func108, Tryz.ntmps108
  go_wp2
  refine wp_loop_rounds 1 ?_
  rw [rounds_succ]
  go_wp2
  go_ret
  exact ⟨rfl, rfl⟩
end Go.Proofs.YtdhkdjlgmbejnaaGreatDoor
namespace Go.Proofs.YtdhkdjlgmbejnaaGreatDoor
open Go.RowKit Go.Extern.Stop Go.Stop Go.Extern

def errVar : Nat → Nat
  | 0 => 5
  | 1 => 2
  | 2 => 0
  | 3 => 3
  | 4 => 6
  | 5 => 7
  | 6 => 8
  | 7 => 1
  | 8 => 4
  | 9 => 9
  | 10 => 10
  | _ => 11

def Hand (W : World) : Prop := W.cell? ⟨12, 0, none⟩ = some (.iface 256 (.agg #[.pointer (some ⟨21, 35, none⟩)]))
theorem lt_of_cell {W : World} {p : Addr} {v : Value} (h : W.cell? p = some v) : p.block < W.heap.size := by
  rcases Nat.lt_or_ge p.block W.heap.size with h' | h'
  · exact h'
  · simp [World.cell?, Array.getElem?_eq_none h'] at h

theorem Hand.below {W W' : World} (h : Hand W) (hb : Below W.heap.size W W') : Hand W' := (hb.cell (lt_of_cell h)).trans h
theorem as_miss_below (e t : Addr) (w : World) (h : Hand w) :
    Calls Tryz.prog 108 #[.iface 327 (.pointer (some e)), .iface 167 (.pointer (some t))] w fun ev w' => ev = .returned (.bool false) ∧ Below w.heap.size w w' := by
  refine (as_miss e t w h).mono fun ev w' ⟨he, hw⟩ => ⟨he, ?_⟩
  subst hw
  exact (((Below.refl _ _).alloc (Nat.le_refl _) _).alloc (by simp) _).alloc (by simp; omega) _

theorem as_hit_below (e : Addr) (w : World) (h : Hand w) :
    Calls Tryz.prog 108 #[.iface 92 (.pointer (some e)), .iface 167 (.pointer (some ⟨w.heap.size, 0, none⟩))] (w.alloc (.cells #[.pointer none] 92)) fun ev w' => ev = .returned (.bool true) ∧ Below w.heap.size w w' ∧ w'.cell? ⟨w.heap.size, 0, none⟩ = some (.pointer (some e)) := by
  have hb0 : Below w.heap.size w (w.alloc (.cells #[.pointer none] 92)) := (Below.refl _ _).alloc (Nat.le_refl _) _
  refine (as_hit e ⟨w.heap.size, 0, none⟩ (.pointer none) _ (h.below hb0) (by simp) (by simp)).mono fun ev w' ⟨he, hw⟩ => ⟨he, ?_, ?_⟩
  · subst hw
    exact ((((hb0.alloc (by simp) _).alloc (by simp; omega) _).alloc (by simp; omega) _).alloc (by simp; omega) _).setCell (by simp) _
  · subst hw
    refine World.cell?_setCell_same (u := .pointer none) _ _ _ ?_
    rw [World.cell?_alloc_lt _ _ ⟨w.heap.size, 0, none⟩ (by simp; omega), World.cell?_alloc_lt _ _ ⟨w.heap.size, 0, none⟩ (by simp; omega), World.cell?_alloc_lt _ _ ⟨w.heap.size, 0, none⟩ (by simp; omega), World.cell?_alloc_lt _ _ ⟨w.heap.size, 0, none⟩ (by simp)]
    simp

end Go.Proofs.YtdhkdjlgmbejnaaGreatDoor
namespace Go.Proofs.YtdhkdjlgmbejnaaGreatDoor
open Go.RowKit Go.Extern.Stop Go.Stop Go.Extern Go.Sort Go.Shelf Go.Lib

theorem sortRows_at (v : Value) (xs : List Rw) (w : World) (h : RowsAt w v xs) (hl : xs.length ≤ 20000) :
    Calls Tryz.prog 56 #[v] w fun e w' => ∃ v', e = .returned v' ∧ RowsAt w' v' (sortR xs) ∧ Below w.heap.size w w' := by
  rcases h with ⟨p, c, rfl, rfl⟩ | ⟨b, o, cap, rfl, hc⟩
  · clear hl
    go_enter Tryz.func56, Tryz.ntmps56
    go_wp2
    refine wp_loop_rounds 1 ?_
    rw [rounds_succ]
    go_wp2
    go_ret
    exact ⟨_, rfl, Or.inl ⟨none, 0, rfl, by simp [sortR]⟩, Below.refl _ _⟩
  · exact sortRows_any b o cap xs w hc hl

end Go.Proofs.YtdhkdjlgmbejnaaGreatDoor
namespace Go.Proofs.YtdhkdjlgmbejnaaGreatDoor
open Go.RowKit Go.Extern.Stop Go.Stop Go.Extern Go.Sort Go.Shelf Go.Lib

theorem fine_of (w : World) : Calls Tryz.prog 57 #[] w fun e w' => e = .returned (.agg #[.int .i64 0, .int .i64 (-1)]) ∧ Below w.heap.size w w' := by
  go_enter Tryz.func57, Tryz.ntmps57
  go_wp2
  refine bodyPost_ret (v := .agg #[.int .i64 0, .int .i64 (-1)]) (by simp [results, Tryz.results57, go_sem]) rfl ⟨rfl, ?_⟩
  exact (Below.refl _ _).alloc (Nat.le_refl _) _

theorem bare_of (n : Int) (w : World) : Calls Tryz.prog 74 #[.int .i64 n] w fun e w' => e = .returned (.agg #[.int .i64 n, .int .i64 (-1)]) ∧ Below w.heap.size w w' := by
  go_enter Tryz.func74, Tryz.ntmps74
  go_wp2
  refine bodyPost_ret (v := .agg #[.int .i64 n, .int .i64 (-1)]) (by simp [results, Tryz.results74, go_sem]) rfl ⟨rfl, ?_⟩
  exact (Below.refl _ _).alloc (Nat.le_refl _) _

def FC (W : World) (F : Nat) (x y : Int) : Prop := W.heap[F]? = some (.cells #[.int .i64 x, .int .i64 y] 46 (0, 0))
theorem FC.lt {W : World} {F : Nat} {x y : Int} (h : FC W F x y) : F < W.heap.size := lt_of_block h
theorem FC.below {W W' : World} {F : Nat} {x y : Int} (h : FC W F x y) (hb : Below W.heap.size W W') : FC W' F x y := (hb.block F h.lt).trans h
theorem FC.c0 {W : World} {F : Nat} {x y : Int} (h : FC W F x y) : W.cell? ⟨F, 0, none⟩ = some (.int .i64 x) := by rw [cell_of_row _ _ _ _ _ _ h]; rfl
theorem FC.c1 {W : World} {F : Nat} {x y : Int} (h : FC W F x y) : W.cell? ⟨F, 1, none⟩ = some (.int .i64 y) := by rw [cell_of_row _ _ _ _ _ _ h]; rfl
theorem FC.fz {W : World} {F : Nat} {x y : Int} (h : FC W F x y) (o : Nat) : W.frozen? ⟨F, o, none⟩ = false := frozen_of_row _ _ _ _ _ h
theorem FC.new (w : World) : FC (w.alloc (.cells #[.int .i64 0, .int .i64 0] 46)) w.heap.size 0 0 := heap_alloc_new _ _
theorem FC.set {W : World} {F : Nat} {x y : Int} (h : FC W F x y) (a b : Int) : FC ((W.setCell ⟨F, 0, none⟩ (.int .i64 a)).setCell ⟨F, 1, none⟩ (.int .i64 b)) F a b := by
  have h1 : (W.setCell ⟨F, 0, none⟩ (.int .i64 a)).heap[F]? = some (.cells #[.int .i64 a, .int .i64 y] 46 (0, 0)) := by
    rw [heap_setCell_same _ _ _ _ _ _ h]; rfl
  show _ = _
  rw [heap_setCell_same _ _ _ _ _ _ h1]; rfl

set_option maxRecDepth 100000 in
set_option maxHeartbeats 2000000 in
theorem dataOf_full (q : Option Addr) (n cap : Nat) (w : World) (hn : 40 < n) (hl : n ≤ maxLen) :
    Calls Tryz.prog 33 #[.slice q n cap] w fun e w' => e = .returned (.tuple #[.string ⟨#[]⟩, .agg #[.int .i64 8, .int .i64 (-1)]]) ∧ Below w.heap.size w w' := by
  unfold maxLen at hl
  have hi : (40 : Int) < (n : Int) := by omega
  have hf0 := FC.new w
  have hbr := fun W => bare_of 8 W
  have hal : Below w.heap.size w (w.alloc (.cells #[.int .i64 0, .int .i64 0] 46)) := (Below.refl _ _).alloc (Nat.le_refl _) _
  go_enter Tryz.func33, Tryz.ntmps33
  go_wp2_with fail
  refine (hbr _).mono ?_
  rintro e w1 ⟨rfl, hb1⟩
  clear hbr
  have hf1 := hf0.below hb1
  have hB1 : Below w.heap.size w w1 := hal.trans (hb1.mono hal.size)
  have j0 := hf1.c0
  have j1 := hf1.c1
  have jz := hf1.fz
  clear hf0 hal hb1
  go_wp2
  refine bodyPost_ret (v := .tuple #[.string ⟨#[]⟩, .agg #[.int .i64 8, .int .i64 (-1)]]) (by simp [results, Tryz.results33, go_sem, j0, j1]) rfl ⟨rfl, ?_⟩
  exact (hB1.setCell (by simp) _).setCell (by simp) _

theorem lines_take (xs : List Rw) (n : Nat) (h : n < xs.length) : linesL (xs.take (n + 1)) = linesL (xs.take n) ++ (textL xs[n] ++ [10]) := by
  rw [← List.take_append_getElem h, lines_snoc]

set_option maxRecDepth 100000 in
set_option maxHeartbeats 4000000 in
theorem dataOf_any (q : Option Addr) (cap : Nat) (xs : List Rw) (w : World) (hx : RowsAt w (.slice q xs.length cap) xs) (hl : xs.length ≤ 40) (hp : ∀ x ∈ xs, x.1.size ≤ 30)
    (m : Nat) (hm : m ≤ xs.length) (hgood : ∀ i (h : i < xs.length), i < m → rowE xs[i] = 0) (hend : ∀ (h : m < xs.length), rowE xs[m] ≠ 0) :
    Calls Tryz.prog 33 #[.slice q xs.length cap] w fun e w' => (m = xs.length ∧ e = .returned (.tuple #[.string (bytesOf (fileOf (sortR xs))), .agg #[.int .i64 0, .int .i64 (-1)]]) ∧ Below w.heap.size w w') ∨
      (∃ h : m < xs.length, e = .returned (.tuple #[.string ⟨#[]⟩, .agg #[.int .i64 (rowE xs[m]), .int .i64 m]]) ∧ Below w.heap.size w w') := by
  have HALL : Hid (m = xs.length → ∀ x ∈ xs, rowE x = 0) := fun e x hxm => by
    obtain ⟨i, hi, e'⟩ := List.mem_iff_getElem.1 hxm
    rw [← e']
    exact hgood i hi (by omega)
  obtain ⟨L, hL⟩ : ∃ L, xs.length = L := ⟨_, rfl⟩
  have HX : Hid (xs.length = L) := hL
  have HGOOD : Hid (∀ i (h : i < xs.length), i < m → rowE xs[i] = 0) := hgood
  have HEND : Hid (∀ (h : m < xs.length), rowE xs[m] ≠ 0) := hend
  have hsl : (sortR xs).length = L := by rw [(sortR_perm xs).length_eq, hL]
  have hkl : (keysR xs).length = L := by simp [keysG, hL]
  have HKS : Hid (endsZ (keysR (sortR xs)) = endsZ (keysR xs)) := keys_perm (sortR_perm xs)
  have HP : Hid (∀ x ∈ xs, x.1.size ≤ 30) := hp
  have hso := fun W (hr : RowsAt W (.slice q xs.length cap) xs) => sortRows_at (.slice q xs.length cap) xs W hr (by omega)
  have hko := fun W (hr : RowsAt W (.slice q xs.length cap) xs) => keysOf_any (.slice q xs.length cap) xs W hr (by omega)
  rw [hL] at hx hl hm
  simp only [hL] at hso hko
  have harg : (Value.slice q xs.length cap) = .slice q L cap := by rw [hL]
  rw [harg]
  have hi40 : ¬ (40 : Int) < (L : Int) := by omega
  have hf0 := FC.new w
  have hal : Below w.heap.size w (w.alloc (.cells #[.int .i64 0, .int .i64 0] 46)) := (Below.refl _ _).alloc (Nat.le_refl _) _
  clear hL hgood hend harg hp
  go_enter Tryz.func33, Tryz.ntmps33
  go_wp2
  generalize w.alloc (.cells #[.int .i64 0, .int .i64 0] 46) = w1 at hf0 hal ⊢
  have hx1 : ∀ W, Below w1.heap.size w1 W → RowsAt W (.slice q L cap) xs := fun W hW => hx.below (hal.trans (hW.mono hal.size))
  clear hx
  go_loopw [4] (fun k wr => ∃ n : Nat, n ≤ m ∧ k = .int .i64 n ∧ Below w1.heap.size w1 wr) (fun k _ => L - (intOf k).toNat)
  case atStart => exact ⟨0, by omega, rfl, Below.refl _ _⟩
  case round =>
    obtain ⟨n, hn, rfl, hb⟩ := hrel
    by_cases hlt : n < L
    · have hltx : n < xs.length := by rw [HX.out]; exact hlt
      have hrows := hx1 wr hb
      rcases hrows with ⟨_, _, e, e'⟩ | ⟨b, o, cap2, e, hcells⟩
      · exfalso; have := HX.out; rw [e'] at this; simp at this; omega
      injection e with e1 e2 e3
      subst e1
      clear e2 e3
      obtain ⟨c1, c2, c3⟩ := hcells n hltx
      clear hcells
      have hi : (n : Int) < (L : Int) := by omega
      have hi0 : (0 : Int) ≤ (n : Int) := by omega
      have hrp := HP.out xs[n] (List.getElem_mem _)
      have hre := rowError_any xs[n] wr (by unfold maxLen; omega)
      by_cases hltm : n < m
      · rw [HGOOD.out n hltx hltm] at hre
        generalize xs[n] = x at c1 c2 c3 hre
        obtain ⟨xp, xk, xv⟩ := x
        dsimp only at c1 c2 c3 hre
        clear hso hko hx1
        go_wp2_with fail
        refine hre.mono ?_
        rintro e w2 ⟨rfl, hb2⟩
        clear hre
        have hb3 : Below w1.heap.size w1 w2 := hb.trans (hb2.mono hb.size)
        go_wp2
        go_roundw
        case rel => exact ⟨n + 1, by omega, by go_num, hb3⟩
        case measure => simp [intOf]; omega
      · have hnm : n = m := by omega
        subst hnm
        have hE := HEND.out hltx
        obtain ⟨E, hEE⟩ : ∃ E, rowE xs[n] = E := ⟨_, rfl⟩
        have HEE : Hid (rowE xs[n] = E) := hEE
        rw [hEE] at hre hE
        have hEp : (0 : Int) < (E : Int) := by omega
        clear hEE hE hrp
        generalize xs[n].1 = xp at c1 hre
        generalize xs[n].2.1 = xk at c2 hre
        generalize xs[n].2.2 = xv at c3 hre
        clear hso hko hx1
        have hf2 := hf0.below hb
        go_wp2_with fail
        refine hre.mono ?_
        rintro e w2 ⟨rfl, hb2⟩
        clear hre
        have hb3 : Below w1.heap.size w1 w2 := hb.trans (hb2.mono hb.size)
        have hB : Below w.heap.size w w2 := hal.trans (hb3.mono hal.size)
        have hf3 := hf2.below hb2
        have j0 := hf3.c0
        have j1 := hf3.c1
        have jz := hf3.fz
        clear hf0 hf2 c1 c2 c3
        go_wp2
        refine bodyPost_ret (v := .tuple #[.string ⟨#[]⟩, .agg #[.int .i64 E, .int .i64 n]]) (by simp [results, Tryz.results33, go_sem, j0, j1]) rfl (Or.inr ⟨hltx, by rw [HEE.out], ?_⟩)
        exact (hB.setCell (by simp) _).setCell (by simp) _
    · have hn' : n = L := by omega
      subst hn'
      have hmL : m = n := by omega
      have hall := HALL.out (by rw [HX.out]; exact hmL)
      have hso1 := hso wr (hx1 wr hb)
      clear hso
      go_wp2_with fail
      refine hso1.mono ?_
      rintro e w2 ⟨v2, rfl, hv2, hb2⟩
      clear hso1
      have hB2 : Below w1.heap.size w1 w2 := hb.trans (hb2.mono hb.size)
      obtain ⟨p2, c2, hv2f⟩ := hv2.form
      rw [hsl] at hv2f
      subst hv2f
      have hok := sort_ok hall
      have HOK : Hid (∀ x ∈ sortR xs, rowE x = 0) := hok
      have HLL : Hid (∀ k, (linesL ((sortR xs).take k)).length ≤ 33 * k) := fun k => by
        have h1 := lines_len ((sortR xs).take k) (fun x hxx => hok x (List.mem_of_mem_take hxx))
        rw [List.length_take] at h1
        omega
      have HPS : Hid (∀ x ∈ sortR xs, x.1.size ≤ 30) := fun x hxx => HP.out x ((sortR_perm xs).mem_iff.1 hxx)
      have hinE := ends_in hall
      have HFL : Hid (bytesOf (headL (⟨#[100, 97, 116, 97]⟩ : ByteArray).data.toList (keysR xs).length (endsZ (keysR xs)).1 (endsZ (keysR xs)).2 (sumL (linesL (sortR xs))) ++ 10 :: linesL (sortR xs)) = bytesOf (fileOf (sortR xs))) := by
        show _ = _
        have e : fileOf (sortR xs) = headL kData (sortR xs).length (endsZ (keysR (sortR xs))).1 (endsZ (keysR (sortR xs))).2 (sumL (linesL (sortR xs))) ++ 10 :: linesL (sortR xs) := rfl
        rw [e, HKS.out, hkl, hsl]
        rfl
      clear hb2 hok hall
      generalize hSS : sortR xs = S at hv2 hsl HOK HLL HPS HFL
      have HSS : Hid (sortR xs = S) := hSS
      clear hSS
      go_wp2
      go_loopw [7, 8] (fun bd k w3 => ∃ i : Nat, i ≤ n ∧ k = .int .i64 i ∧ Below w2.heap.size w2 w3 ∧ bd = .string (bytesOf (linesL (S.take i)))) (fun _ k _ => n - (intOf k).toNat)
      case atStart => exact ⟨0, by omega, rfl, Below.refl _ _, rfl⟩
      case round =>
        obtain ⟨i, hin, rfl, hb3, rfl⟩ := hrel
        by_cases hilt : i < n
        · have hix : i < S.length := by rw [hsl]; exact hilt
          have hrows := hv2.below hb3
          rcases hrows with ⟨_, _, e, e'⟩ | ⟨b, o, cap2, e, hcells⟩
          · exfalso; rw [e'] at hsl; simp at hsl; omega
          injection e with e1 e2 e3
          subst e1
          clear e2 e3
          obtain ⟨d1, d2, d3⟩ := hcells i hix
          clear hcells
          have hi : (i : Int) < (n : Int) := by omega
          have hi0 : (0 : Int) ≤ (i : Int) := by omega
          have hrp := HPS.out S[i] (List.getElem_mem _)
          have hr0 := HOK.out S[i] (List.getElem_mem _)
          have hrt := rowText_any S[i] wr (by unfold maxLen; omega)
          have htl : (textB S[i]).size ≤ 32 := by
            rw [← size_list, textB_ok _ hr0]; exact text_len _ hr0
          have hbl : (bytesOf (linesL (S.take i))).size ≤ 33 * i := by rw [bytesOf_size]; exact HLL.out i
          have HT : Hid (bytesOf (linesL (S.take i)) ++ textB S[i] ++ ⟨#[10]⟩ = bytesOf (linesL (S.take (i + 1)))) := by
            show _ = _
            apply part_ext
            rw [lines_take S i hix]
            simp [bytesOf, ByteArray.data_append, textB_ok _ hr0]
          generalize bytesOf (linesL (S.take i)) = B0 at hbl HT ⊢
          generalize S[i] = x at d1 d2 d3 hrt htl HT
          generalize textB x = tx at hrt htl HT
          obtain ⟨xp, xk, xv⟩ := x
          dsimp only at d1 d2 d3 hrt
          clear hix hrp hr0 hko hx1
          go_wp2_with fail
          refine hrt.mono ?_
          rintro e w4 ⟨rfl, hb4⟩
          clear hrt
          have hb5 : Below w2.heap.size w2 w4 := hb3.trans (hb4.mono hb3.size)
          go_wp2
          go_roundw
          case rel => exact ⟨i + 1, by omega, by go_num, hb5, by rw [HT.out]⟩
          case measure => simp [intOf]; omega
        · have hin' : i = n := by omega
          subst hin'
          have hta : S.take i = S := List.take_of_length_le (by rw [hsl]; exact Nat.le_refl _)
          have hll := HLL.out i
          rw [hta] at hll ⊢
          have hB3 : Below w1.heap.size w1 wr := hB2.trans (hb3.mono hB2.size)
          have hk3 := hko wr (hx1 wr hB3)
          have hwt := fun W (v : Value) (hz : KeysAt W v (keysR xs)) => wholeText_any ⟨#[100, 97, 116, 97]⟩ (by decide) v (keysR xs) (bytesOf (linesL S)) W hz (by omega) (by rw [bytesOf_size]; omega) (by have := hinE.1; simp only [inNum, Bool.and_eq_true, decide_eq_true_eq] at this; omega) (by have := hinE.2; simp only [inNum, Bool.and_eq_true, decide_eq_true_eq] at this; omega)
          have eBd : (bytesOf (linesL S)).data.toList = linesL S := by simp [bytesOf]
          simp only [eBd, HFL.out] at hwt
          generalize hTT : bytesOf (fileOf S) = T at hwt
          have HTT : Hid (bytesOf (fileOf S) = T) := hTT
          clear hTT
          generalize bytesOf (linesL S) = BD at hwt ⊢
          clear hko hx1 hta hll hinE eBd hv2
          go_wp2_with fail
          refine hk3.mono ?_
          rintro e w5 ⟨v5, rfl, hv5, hb5⟩
          clear hk3
          have hw5 := hwt w5 v5 hv5
          clear hwt
          go_wp2_with fail
          refine hw5.mono ?_
          rintro e w6 ⟨rfl, hb6⟩
          clear hw5
          have hfin := fine_of w6
          go_wp2_with fail
          refine hfin.mono ?_
          rintro e w7 ⟨rfl, hb7⟩
          clear hfin
          have hB5 : Below w1.heap.size w1 w5 := hB3.trans (hb5.mono hB3.size)
          have hB6 : Below w1.heap.size w1 w6 := hB5.trans (hb6.mono hB5.size)
          have hB7 : Below w1.heap.size w1 w7 := hB6.trans (hb7.mono hB6.size)
          have hB : Below w.heap.size w w7 := hal.trans (hB7.mono hal.size)
          have hf7 := hf0.below hB7
          have j0 := hf7.c0
          have j1 := hf7.c1
          have jz := hf7.fz
          clear hf0
          go_wp2
          refine bodyPost_ret (v := .tuple #[.string T, .agg #[.int .i64 0, .int .i64 (-1)]]) (by simp [results, Tryz.results33, go_sem, j0, j1]) rfl (Or.inl ⟨by rw [HX.out]; exact hmL, by rw [HSS.out, HTT.out], ?_⟩)
          exact (hB.setCell (by simp) _).setCell (by simp) _
end Go.Proofs.YtdhkdjlgmbejnaaGreatDoor
namespace Go.Proofs.YtdhkdjlgmbejnaaGreatDoor
open Go.RowKit Go.Extern.Stop Go.Stop Go.Extern Go.Sort Go.Shelf Go.Lib

def ahead (fs : List Fl) : Nat → Int
  | 0 => 0
  | n + 1 => match fs[n]? with
    | some f => fk f
    | none => 0

theorem ahead_succ {fs : List Fl} {n : Nat} (h : n < fs.length) : ahead fs (n + 1) = fk fs[n] := by
  show (match fs[n]? with
    | some f => fk f
    | none => 0) = _
  rw [List.getElem?_eq_getElem h]

def LeftG (fs : List Fl) (n : Nat) : Prop := lstG 0 fs 0 = lstG (ahead fs n) (fs.drop n) n

theorem left_zero (fs : List Fl) : LeftG fs 0 := rfl
theorem left_bad {fs : List Fl} {n : Nat} (h : LeftG fs n) (hn : n < fs.length) (he : fileE fs[n] ≠ 0) : lstG 0 fs 0 = (fileE fs[n], some n) := by
  unfold LeftG at h
  rw [h, List.drop_eq_getElem_cons hn]
  unfold lstG
  rw [if_pos he]
theorem left_order {fs : List Fl} {n : Nat} (h : LeftG fs n) (hn : n < fs.length) (he : fileE fs[n] = 0) (ho : fk fs[n] ≤ ahead fs n) : lstG 0 fs 0 = (9, some n) := by
  unfold LeftG at h
  rw [h, List.drop_eq_getElem_cons hn]
  unfold lstG
  rw [if_neg (by simp [he]), if_pos ho]
theorem left_succ {fs : List Fl} {n : Nat} (h : LeftG fs n) (hn : n < fs.length) (he : fileE fs[n] = 0) (ho : ahead fs n < fk fs[n]) : LeftG fs (n + 1) := by
  unfold LeftG at h ⊢
  rw [h, ahead_succ hn]
  conv => lhs; rw [List.drop_eq_getElem_cons hn]
  conv => lhs; unfold lstG
  rw [if_neg (by simp [he]), if_neg (by omega)]
theorem left_all {fs : List Fl} (h : LeftG fs fs.length) : lstG 0 fs 0 = (0, none) := by
  unfold LeftG at h
  rw [h, List.drop_length]
  rfl

end Go.Proofs.YtdhkdjlgmbejnaaGreatDoor
