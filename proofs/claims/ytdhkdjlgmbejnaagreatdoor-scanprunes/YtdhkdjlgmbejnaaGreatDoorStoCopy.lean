/-
  The contract of the program's Copy.
-/
import Derived.Test.YtdhkdjlgmbejnaaGreatDoorStoMeth1
import Derived.Deep.RegionWith
import Derived.RangeFuncFrom
import Derived.RangeFuncWrites
import Derived.RangeFuncBox
namespace Go.Proofs.YtdhkdjlgmbejnaaGreatDoor
open Go.RowKit Go.Extern.Stop Go.Stop Go.Extern Go.Sort Go.Shelf Go.Lib

theorem MapAt.look {w : World} {mo : Option Nat} {q : ByteArray → Nat} {l : List Ob} (h : MapAt w mo q l) {n : ByteArray} (hn : n.size ≤ maxLen) :
    (Instr.lookup 123 (.map mo) (.string n) false).run Tryz.prog w = .ok (lookP q l n) w := by
  rcases h with ⟨rfl, rfl⟩ | ⟨mb, rfl, h⟩
  · exact Maps.look_nil false Tryz.keyedS Tryz.underlying123 (Tryz.zeroObj w) (keyOf_name hn)
  · exact h.look hn
theorem MapAt.len {w : World} {mo : Option Nat} {q : ByteArray → Nat} {l : List Ob} (h : MapAt w mo q l) (ty : TypeId) :
    (Builtin.len_ #[123] ty #[.map mo]).run Tryz.prog w = .ok (.int .i64 l.length) w := by
  rcases h with ⟨rfl, rfl⟩ | ⟨mb, rfl, h⟩
  · exact Maps.len_nil Tryz.underlying123 ty
  · exact h.len ty
theorem lookP_some {q : ByteArray → Nat} {l : List Ob} {n : ByteArray} (h : (getO l n).isSome = true) : lookP q l n = ptrV (q n) := by unfold lookP; rw [if_pos h]
theorem lookP_none {q : ByteArray → Nat} {l : List Ob} {n : ByteArray} (h : getO l n = none) : lookP q l n = .pointer none := by unfold lookP; rw [h]; rfl
theorem ObjsAt.get {W : World} {q : ByteArray → Nat} {l : List Ob} (h : ObjsAt W q l) {n : ByteArray} {o : Ob} (hg : getO l n = some o) : W.cell? ⟨q n, 0, none⟩ = some (.string o.2.1) ∧ W.cell? ⟨q n, 1, none⟩ = some (.int .i64 o.2.2) := by
  obtain ⟨ho, rfl⟩ := getO_some hg
  exact h.cells ho

section
variable {w : World} {b : Nat} {mo : Option Nat} {q : ByteArray → Nat} {s : St}
def GetP (a : Nat → Addr) (w : World) (l : List Ob) (n : ByteArray) (e : Ending) (w' : World) : Prop := e = .returned (.tuple #[.string (getT l n).1, errV a (getT l n).2]) ∧ Below w.heap.size w w'
set_option maxRecDepth 100000 in
set_option maxHeartbeats 1000000 in
theorem sget_any (h : SIn w b mo q s) {a : Nat → Addr} (he : EnvO w a) (n : ByteArray) (hn : n.size ≤ maxLen) : Calls Tryz.prog 93 #[.pointer (some ⟨b, 0, none⟩), .string n] w (GetP a w s.obs n) := by
  have c0 := h.block.cells.1
  have hl := h.map.look hn
  have e1 := he.miss
  cases hg : getO s.obs n with
  | none =>
    have HG : Hid (∀ w', Below w.heap.size w w' → GetP a w s.obs n (.returned (.tuple #[.string ⟨#[]⟩, errV a 6])) w') := fun w' hb => by unfold GetP getT; rw [hg]; exact ⟨rfl, hb⟩
    rw [lookP_none hg] at hl
    clear h he hg hn
    go_enter Tryz.func93, Tryz.ntmps93
    go_wp2
    go_quiet (fail)
    go_wp2
    go_ret2
    exact HG.out _ (below_drewN (Below.refl _ _) nq)
  | some o =>
    have HG : Hid (GetP a w s.obs n (.returned (.tuple #[.string o.2.1, .nilIface])) w) := by unfold GetP getT; rw [hg]; exact ⟨rfl, Below.refl _ _⟩
    rw [lookP_some (by rw [hg]; rfl)] at hl
    obtain ⟨k0, _⟩ := h.objs.get hg
    generalize q n = k at hl k0
    clear h he hg hn
    go_enter Tryz.func93, Tryz.ntmps93
    go_wp2
    go_ret2
    exact HG.out
def WrtP (a : Nat → Addr) (w : World) (b : Nat) (mo : Option Nat) (s : St) (t : ByteArray) (e : Ending) (w' : World) : Prop :=
  e = .returned (.tuple #[.string (t.extract 0 (wrtS s t.size).1), errV a (if (wrtS s t.size).2.off = true then 12 else 0)]) ∧ SC w' b mo s.head s.day (wrtS s t.size).2.off (waitsB (wrtS s t.size).2) (leftI (wrtS s t.size).2) ∧ But (fun k => k = b) w w'
theorem extract_all (t : ByteArray) : t.extract 0 t.size = t := by rw [ext_bytes, List.take_of_length_le (by rw [size_list]; exact Nat.le_refl _), bytesOf_data]
set_option maxRecDepth 100000 in
set_option maxHeartbeats 1000000 in
theorem swrite_any (h : SC w b mo s.head s.day s.off (waitsB s) (leftI s)) {a : Nat → Addr} (he : EnvO w a) (t : ByteArray) (ht : t.size ≤ maxLen) (ho : s.off = false) (hcut : s.cut ≤ 9223372036854775807) : Calls Tryz.prog 86 #[.pointer (some ⟨b, 3, none⟩), .string t] w (WrtP a w b mo s t) := by
  obtain ⟨c0, c1, c2, c3, c4, c5, hf⟩ := h.cells
  have f3 := hf 3
  have f4 := hf 4
  have f5 := hf 5
  have e2 := he.off
  unfold maxLen at ht
  by_cases hc : s.cut < 0
  · have hw : wrtS s t.size = (t.size, s) := by unfold wrtS; rw [if_pos hc]
    have hwt : waitsB s = false := by unfold waitsB; rw [ho, decide_eq_false (by omega)]; rfl
    have HW : Hid (WrtP a w b mo s t (.returned (.tuple #[.string t, .nilIface])) w) := by
      unfold WrtP
      rw [hw]
      dsimp only
      rw [ho, extract_all]
      rw [ho] at h
      exact ⟨rfl, h, But.refl _ _⟩
    rw [hwt] at c4
    clear h hf he hw hwt hc hcut
    go_enter Tryz.func86, Tryz.ntmps86
    go_wp2
    go_ret2
    exact HW.out
  · have hwt : waitsB s = true := by unfold waitsB; rw [ho, decide_eq_true (by omega)]; rfl
    have hli : leftI s = s.cut := by unfold leftI; rw [hwt]; rfl
    obtain ⟨k, hk⟩ : ∃ k : Nat, s.cut = k := ⟨s.cut.toNat, by omega⟩
    rw [hli, hk] at c5
    rw [hwt] at c4
    by_cases hlt : k < t.size
    · have hw : wrtS s t.size = (k, { s with off := true }) := by unfold wrtS; rw [if_neg hc, if_pos (by omega), hk]; rfl
      have HW : Hid (∀ w', Below w.heap.size (powW w b true false 0) w' → WrtP a w b mo s t (.returned (.tuple #[.string (t.extract 0 k), errV a 12])) w') := fun w' hb => by
        unfold WrtP
        rw [hw]
        dsimp only
        have hsz : (powW w b true false 0).heap.size = w.heap.size := by simp [powW, World.setCell]
        have hpw := h.pow true false 0
        refine ⟨rfl, ?_, (powW_but w b true false 0).trans (Q := fun _ => False) (But.of_below (by show Below _ _ _; rw [hsz]; exact hb)) fun i hi => hi.elim⟩
        exact (hb.block b h.lt).trans hpw
      have hd : decide ((k : Int) < (t.size : Int)) = true := decide_eq_true (by omega)
      have hk5 : (k : Int) ≤ 9223372036854775807 := by omega
      have hglob : (powW w b true false 0).cell? ⟨11, 0, none⟩ = some (.iface 327 (.pointer (some (a 11)))) := by
        have hne : b ≠ 11 := by
          rintro rfl
          rw [c0] at e2
          cases e2
        exact (powW_but w b true false 0).keep (fun e => hne e.symm) e2
      unfold powW at hglob
      have HB : Hid (∀ nq, Below w.heap.size (powW w b true false 0) ((((w.setCell ⟨b, 3, none⟩ (.bool true)).setCell ⟨b, 4, none⟩ (.bool false)).setCell ⟨b, 5, none⟩ (.int .i64 0)).drewN nq)) := fun nq => below_drewN (Below.refl _ _) nq
      have hle : k ≤ t.size := by omega
      clear h hf he hw hwt hc hcut hli hk
      go_enter Tryz.func86, Tryz.ntmps86
      go_wp2
      go_quiet (fail)
      go_wp2
      go_ret2
      exact HW.out _ (HB.out _)
    · have hw : wrtS s t.size = (t.size, { s with cut := s.cut - t.size }) := by unfold wrtS; rw [if_neg hc, if_neg (by omega)]
      have hd : decide ((k : Int) < (t.size : Int)) = false := decide_eq_false (by omega)
      have hk5 : (k : Int) ≤ 9223372036854775807 := by omega
      have HW : Hid (WrtP a w b mo s t (.returned (.tuple #[.string t, .nilIface])) (w.setCell ⟨b, 5, none⟩ (.int .i64 ((k : Int) - (t.size : Int))))) := by
        unfold WrtP
        rw [hw]
        dsimp only
        have hw2 : waitsB { s with cut := s.cut - (t.size : Int) } = true := by unfold waitsB; dsimp only; rw [ho, decide_eq_true (by omega)]; rfl
        have hl2 : leftI { s with cut := s.cut - (t.size : Int) } = (k : Int) - t.size := by unfold leftI; rw [hw2]; dsimp only; rw [if_pos rfl, hk]
        rw [hw2, hl2, extract_all, ho]
        refine ⟨rfl, ?_, set_but _ _ _ _⟩
        rw [ho, hwt] at h
        unfold SC at *
        rw [heap_setCell_same _ _ _ _ _ _ h]; rfl
      clear h hf he hw hwt hc hcut hli hk
      go_enter Tryz.func86, Tryz.ntmps86
      go_wp2
      go_ret2
      exact HW.out
end
end Go.Proofs.YtdhkdjlgmbejnaaGreatDoor
namespace Go.Proofs.YtdhkdjlgmbejnaaGreatDoor
open Go.RowKit Go.Maps Go.Sort Go.Shelf
attribute [local go_sem] Oper.semAt_some

theorem bytesS_perm {l m : List Ob} (h : l.Perm m) : bytesS l = bytesS m := (h.map _).sum_nat
theorem bytesS_le {l : List Ob} (h : ∀ o ∈ l, o.2.1.size ≤ 20000) : bytesS l ≤ 20000 * l.length := by
  induction l with
  | nil => simp [bytesS]
  | cons o l ih =>
    have := ih fun p hp => h p (List.mem_cons_of_mem _ hp)
    have := h o (by simp)
    simp only [bytesS, List.map_cons, List.sum_cons, List.length_cons] at *
    omega
theorem bytesS_snoc {l : List Ob} (ps : List (OneOf l)) (o : OneOf l) : bytesS ((ps ++ [o]).map (·.1)) = bytesS (ps.map (·.1)) + o.1.2.1.size := by
  simp [bytesS]

set_option maxRecDepth 100000 in
set_option maxHeartbeats 2000000 in
theorem ssize_any {w : World} {b : Nat} {mo : Option Nat} {q : ByteArray → Nat} {s : St} (h : SIn w b mo q s) (hk : Keeps s) :
    Calls Tryz.prog 135 #[.pointer (some ⟨b, 0, none⟩)] w fun e w' => e = .returned (.int .i64 (bytesS s.obs)) ∧ Below w.heap.size w w' := by
  have c0 := h.block.cells.1
  refine (callsIn_wide (n := 5)).1 ?_
  refine callsIn_of_wp_marks Tryz.func135 rfl trivial ?_ rfl
  simp only [Tryz.ntmps135, List.size_toArray, List.length_cons, List.length_nil, Nat.reduceAdd, Nat.reduceSub, Array.replicate_succ, Array.replicate_zero, List.push_toArray, List.append_toArray, List.nil_append, List.cons_append]
  have c0' : (w.alloc (.cells #[.int .i64 0] 3)).cell? ⟨b, 0, none⟩ = some (.map mo) := below_keep ((Below.refl w.heap.size w).alloc (Nat.le_refl _) _) c0
  gi_wp2_with (refine ⟨trivial, ?_⟩; gi_at_call 181; refine (values_any _ _ _).mono ?_; rintro e w' ⟨rfl, rfl⟩)
  have hB0 : Below w.heap.size w ((w.alloc (.cells #[.int .i64 0] 3)).alloc (.cells #[.map mo] 123)) := ((Below.refl w.heap.size w).alloc (Nat.le_refl _) _).alloc (by simp) _
  have h2 := h.below hB0
  have hbx := Boxed.new (w.alloc (.cells #[.int .i64 0] 3)) 123 (.map mo)
  have hb0 := (Boxed.new w 3 (.int .i64 0)).alloc (.cells #[.map mo] 123)
  simp only [World.size_alloc] at hbx
  refine wpIn_rangeFunc_ownG (F := Fence.wide) rfl (by decide) (gf := 217) (lb := #[.pointer (some ⟨w.heap.size + 1, 0, none⟩)]) rfl trivial (enters_of Tryz.func217 (by kernel_rfl) rfl)
    (values_seq _ (by decide) (w.heap.size + 1) mo q s.obs h.rise _ hbx.cell h2.map) walksK_t walksK_b (Below.refl _ _) (fun _ => rfl)
    (fun pre W => Boxed W w.heap.size 3 (.int .i64 (bytesS (pre.map (·.1)))) ∧ Below w.heap.size w W)
    (fun _ _ _ => False)
    (OwnFrom.and (Own.from (boxed_own w.heap.size 3 (fun pre : List (OneOf s.obs) => Value.int .i64 (bytesS (pre.map (·.1))))) _) (ownFrom_below (Nat.le_refl _) (by simp; omega)))
    (fun _ _ _ _ _ hs _ _ => hs.elim) ?start ?a1 ?assign ?body ?done ?stop
  case assign =>
    intro l x W K hK
    gi_wp2
    exact hK
  case start => exact ⟨hb0, hB0⟩
  case stop =>
    rintro D' c pre W _ _ hf _
    exact hf.elim
  case body =>
    rintro l pre x W ⟨hv, hB⟩ hlen
    have hc := hv.cell
    have hf := hv.frozen
    have k0 := below_keep hB (h.objs.cells x.2).1
    have hsum : bytesS (pre.map (·.1)) ≤ 20000 * pre.length := by
      have := bytesS_le (l := pre.map (·.1)) fun o ho => by
        obtain ⟨p, _, rfl⟩ := List.mem_map.1 ho
        exact hk.texts _ p.2
      simpa using this
    have hmany := hk.many
    have hx := hk.texts _ x.2
    have HSN : Hid (((bytesS ((pre ++ [x]).map (·.1)) : Nat) : Int) = (bytesS (pre.map (·.1)) : Int) + (x.1.2.1.size : Int)) := by rw [bytesS_snoc]; rfl
    obtain ⟨A, hA⟩ : ∃ A, bytesS (pre.map (·.1)) = A := ⟨_, rfl⟩
    rw [hA] at hc hv hsum HSN
    have HV : Hid (Boxed W w.heap.size 3 (.int .i64 A)) := hv
    have HB : Hid (Below w.heap.size w W) := hB
    have hA2 : A ≤ 4000000 := by omega
    generalize x.1.2.1 = tx at k0 hx HSN
    generalize q x.1.1 = kx at k0 ⊢
    clear hv hB hA hsum hlen hmany hb0 h2 hB0 h hk c0 c0' hbx
    have hwr : IntKind.i64.wrap ((A : Int) + (tx.size : Int)) = (A : Int) + (tx.size : Int) := IntWalk.i64_in _ (by omega)
    gi_wp2
    gi_region
    all_goals gi_wp2
    all_goals (try rw [hwr])
    all_goals exact ⟨((KeepsOthers.setCell _ _ _).trans (KeepsOthers.drew _)).from _, ((KeepsOthers.setCell _ _ _).trans (KeepsOthers.drew _)).walks, by rw [HSN.out]; exact HV.out.set _, ((HB.out.setCell (p := ⟨w.heap.size, 0, none⟩) (Nat.le_refl _) _).drew)⟩
  case done =>
    rintro D' xs W hD hS ⟨hv, hB⟩ hK
    have hc := hv.cell
    rw [bytesS_perm hS] at hc
    have hB2 : Below w.heap.size w (W.putObj D' (.deferred none)) := hB.trans (belowK_b (w := w) (Nat.le_refl _) W D' _ _ (by simp at hD; omega) hK rfl rfl)
    gi_wp2
    refine ⟨by simp, .inl ⟨_, _, rfl, run_takeDeferred hK, ?_⟩⟩
    exact ⟨_, results_tmp rfl _ _ _, rfl, hB2⟩
end Go.Proofs.YtdhkdjlgmbejnaaGreatDoor
namespace Go.Proofs.YtdhkdjlgmbejnaaGreatDoor
open Go.RowKit Go.Extern.Stop Go.Stop Go.Extern Go.Sort Go.Shelf Go.Lib

section
variable {w : World} {b : Nat} {mo : Option Nat} {q : ByteArray → Nat} {s : St}
set_option maxRecDepth 100000 in
set_option maxHeartbeats 2000000 in
theorem mayPut_any (h : SIn w b mo q s) (hk : Keeps s) {a : Nat → Addr} (he : EnvO w a) (n t : ByteArray) (hn : n.size ≤ 1000) (ht : t.size ≤ 100000) :
    Calls Tryz.prog 85 #[.pointer (some ⟨b, 0, none⟩), .string n, .string t] w fun e w' => e = .returned (errV a (putE s n t)) ∧ Below w.heap.size w w' := by
  have hnm : n.size ≤ maxLen := by unfold maxLen; omega
  have hcn := oName_any n w hnm
  have HS : Hid (SIn w b mo q s) := h
  have HK : Hid (Keeps s) := hk
  have HE : Hid (EnvO w a) := he
  have hbs := bytesS_le hk.texts
  have hmany := hk.many
  unfold putE
  clear h hk he
  cases ho : objB n.data.toList with
  | false =>
    rw [ho] at hcn
    simp only [if_true]
    clear ho
    go_enter Tryz.func85, Tryz.ntmps85
    go_wp2_with (go_at_call 134; refine hcn.mono ?_; rintro e w1 ⟨rfl, hb⟩; have e1 := (HE.out.below hb).name)
    go_ret
    exact ⟨rfl, hb⟩
  | true =>
    rw [ho] at hcn
    rw [if_neg (by decide)]
    clear ho
    by_cases h1 : 20000 < t.size
    · rw [if_pos h1]
      have d1 : decide ((20000 : Int) < (t.size : Int)) = true := decide_eq_true (by omega)
      go_enter Tryz.func85, Tryz.ntmps85
      go_wp2_with (go_at_call 134; refine hcn.mono ?_; rintro e w1 ⟨rfl, hb⟩; have e1 := (HE.out.below hb).bound)
      go_ret
      exact ⟨rfl, hb⟩
    · rw [if_neg h1]
      have d1 : decide ((20000 : Int) < (t.size : Int)) = false := decide_eq_false (by omega)
      rcases Bool.eq_false_or_eq_true s.off with hoff | hoff
      · rw [if_pos hoff]
        go_enter Tryz.func85, Tryz.ntmps85
        go_wp2_with (go_at_call 134; refine hcn.mono ?_; rintro e w1 ⟨rfl, hb⟩; have e1 := (HE.out.below hb).off; have c3 := (HS.out.below hb).block.cells.2.2.2.1; rw [hoff] at c3)
        go_ret
        exact ⟨rfl, hb⟩
      · rw [if_neg (by rw [hoff]; decide)]
        cases hg : getO s.obs n with
        | some o =>
          have hl : ∀ w1, Below w.heap.size w w1 → (Instr.lookup 123 (.map mo) (.string n) false).run Tryz.prog w1 = .ok (ptrV (q n)) w1 := fun w1 hb => by
            have := (HS.out.below hb).map.look hnm
            rw [lookP_some (by rw [hg]; rfl)] at this
            exact this
          have HL : Hid _ := hl
          rw [if_pos (by rfl)]
          clear hl
          go_enter Tryz.func85, Tryz.ntmps85
          go_wp2_with (go_at_call 134; refine hcn.mono ?_; rintro e w1 ⟨rfl, hb⟩; have e1 := (HE.out.below hb).exist; obtain ⟨c0, _, _, c3, _⟩ := (HS.out.below hb).block.cells; rw [hoff] at c3; have hl := HL.out w1 hb)
          go_ret
          exact ⟨rfl, hb⟩
        | none =>
          have hl : ∀ w1, Below w.heap.size w w1 → (Instr.lookup 123 (.map mo) (.string n) false).run Tryz.prog w1 = .ok (.pointer none) w1 := fun w1 hb => by
            have := (HS.out.below hb).map.look hnm
            rw [lookP_none hg] at this
            exact this
          have HL : Hid _ := hl
          rw [if_neg (by decide)]
          clear hl hg
          by_cases h2 : 200 ≤ s.obs.length
          · rw [if_pos (Or.inl h2)]
            have d2 : decide ((200 : Int) ≤ (s.obs.length : Int)) = true := decide_eq_true (by omega)
            have HN : Hid (∀ w1, Below w.heap.size w w1 → ∀ ty, (Builtin.len_ #[123] ty #[.map mo]).run Tryz.prog w1 = .ok (.int .i64 s.obs.length) w1) := fun w1 hb ty => (HS.out.below hb).map.len ty
            generalize s.obs.length = L at d2 HN hmany hbs h2
            go_enter Tryz.func85, Tryz.ntmps85
            go_wp2_with (go_at_call 134; refine hcn.mono ?_; rintro e w1 ⟨rfl, hb⟩; have e1 := (HE.out.below hb).full; obtain ⟨c0, _, _, c3, _⟩ := (HS.out.below hb).block.cells; rw [hoff] at c3; have hl := HL.out w1 hb; have hln := HN.out w1 hb)
            go_ret
            exact ⟨rfl, hb⟩
          · have d2 : decide ((200 : Int) ≤ (s.obs.length : Int)) = false := decide_eq_false (by omega)
            have HN : Hid (∀ w1, Below w.heap.size w w1 → ∀ ty, (Builtin.len_ #[123] ty #[.map mo]).run Tryz.prog w1 = .ok (.int .i64 s.obs.length) w1) := fun w1 hb ty => (HS.out.below hb).map.len ty
            have HZ : Hid (∀ w1, Below w.heap.size w w1 → Calls Tryz.prog 135 #[.pointer (some ⟨b, 0, none⟩)] w1 fun e w' => e = .returned (.int .i64 (bytesS s.obs)) ∧ Below w1.heap.size w1 w') := fun w1 hb => ssize_any (HS.out.below hb) HK.out
            generalize hL : s.obs.length = L at d2 HN hmany hbs h2 ⊢
            generalize bytesS s.obs = Z at HZ hbs ⊢
            have hZ2 : (Z : Int) + (t.size : Int) ≤ 9223372036854775807 := by omega
            by_cases h3 : 262144 < Z + t.size
            · rw [if_pos (Or.inr h3)]
              have d3 : decide ((262144 : Int) < (Z : Int) + (t.size : Int)) = true := decide_eq_true (by omega)
              clear h3 h2 hbs hmany h1 hL
              go_enter Tryz.func85, Tryz.ntmps85
              go_wp2_with (first | (go_at_call 134; refine hcn.mono ?_; rintro e w1 ⟨rfl, hb⟩; obtain ⟨c0, _, _, c3, _⟩ := (HS.out.below hb).block.cells; rw [hoff] at c3; have hl := HL.out w1 hb; have hln := HN.out w1 hb; have hz := HZ.out w1 hb) | (go_at_call 135; refine hz.mono ?_; rintro e w2 ⟨rfl, hb2⟩; have hb3 : Below w.heap.size w w2 := hb.trans (hb2.mono hb.size); have e1 := (HE.out.below hb3).full))
              go_ret
              exact ⟨rfl, hb3⟩
            · rw [if_neg (by omega)]
              have d3 : decide ((262144 : Int) < (Z : Int) + (t.size : Int)) = false := decide_eq_false (by omega)
              clear h3 h2 hbs hmany h1 hL
              go_enter Tryz.func85, Tryz.ntmps85
              go_wp2_with (first | (go_at_call 134; refine hcn.mono ?_; rintro e w1 ⟨rfl, hb⟩; obtain ⟨c0, _, _, c3, _⟩ := (HS.out.below hb).block.cells; rw [hoff] at c3; have hl := HL.out w1 hb; have hln := HN.out w1 hb; have hz := HZ.out w1 hb) | (go_at_call 135; refine hz.mono ?_; rintro e w2 ⟨rfl, hb2⟩; have hb3 : Below w.heap.size w w2 := hb.trans (hb2.mono hb.size)))
              go_ret
              exact ⟨rfl, hb3⟩
end
end Go.Proofs.YtdhkdjlgmbejnaaGreatDoor
namespace Go.Proofs.YtdhkdjlgmbejnaaGreatDoor
open Go.RowKit Go.Extern.Stop Go.Stop Go.Extern Go.Sort Go.Shelf Go.Lib

theorem wrtS_cut1 {s : St} {n : Nat} (h : s.cut ≤ 9223372036854775807) : (wrtS s n).2.cut ≤ 9223372036854775807 := by
  unfold wrtS
  split
  · exact h
  · split
    · exact h
    · dsimp only; omega

section
variable {w : World} {b : Nat} {mo : Option Nat} {q : ByteArray → Nat} {s : St}
theorem SIn.added {w' : World} {mb k : Nat} {n t : ByteArray} {d : Int} {s1 : St} (h : SIn w b mo q s) (hn : ∀ p ∈ s.obs, p.1 ≠ n) (hb : SC w' b (some mb) s1.head s1.day s1.off (waitsB s1) (leftI s1)) (hc : s1.cut ≤ 9223372036854775807)
    (hm : PtrMap w' mb (setQ q n k) (insO s.obs (n, t, d))) (hx : w'.heap[k]? = some (.cells #[.string t, .int .i64 d] 142 (0, 0))) (ho : ∀ o ∈ s.obs, w'.heap[q o.1]? = w.heap[q o.1]?) : SIn w' b (some mb) (setQ q n k) { s1 with obs := insO s.obs (n, t, d) } := by
  refine ⟨hb, Or.inr ⟨mb, rfl, hm⟩, fun o hm' => ?_, insO_rise (o := (n, t, d)) h.rise hn, hc⟩
  rcases insO_mem.1 hm' with rfl | hmo
  · rw [setQ_same]; exact hx
  · rw [setQ_other _ _ (hn o hmo)]
    exact (ho o hmo).trans (h.objs o hmo)
end
end Go.Proofs.YtdhkdjlgmbejnaaGreatDoor
namespace Go.Proofs.YtdhkdjlgmbejnaaGreatDoor
open Go.RowKit Go.Extern.Stop Go.Stop Go.Extern Go.Sort Go.Shelf Go.Lib

section
variable {w : World} {b : Nat} {mo : Option Nat} {q : ByteArray → Nat} {s : St}

theorem put_end {a : Nat → Addr} {n t : ByteArray} (h : SIn w b mo q s) (hg : getO s.obs n = none) (hl : s.obs.length < 200) (hn : n.size ≤ maxLen) (hE : putE s n t = 0) {w2 w3 : World} {mb : Nat} {e : Ending} (h2 : SIn w2 b (some mb) q s) (hB2 : But (fun k => k = b) w w2) (hmb : mo = some mb ∨ w.heap.size ≤ mb) (hp : WrtP a w2 b (some mb) s t e w3) :
    ∃ w4, (Instr.mapUpdate 123 (.map (some mb)) (.string n) (.pointer (some ⟨w3.heap.size, 0, none⟩))).run Tryz.prog (w3.alloc (.cells #[.string (t.extract 0 (wrtS s t.size).1), .int .i64 s.day] 142)).drew = .ok () w4 ∧
      w3.cell? ⟨b, 0, none⟩ = some (.map (some mb)) ∧ w3.cell? ⟨b, 2, none⟩ = some (.int .i64 s.day) ∧ (w3.alloc (.cells #[.string (t.extract 0 (wrtS s t.size).1), .int .i64 s.day] 142)).drew.cell? ⟨b, 0, none⟩ = some (.map (some mb)) ∧ (w3.alloc (.cells #[.string (t.extract 0 (wrtS s t.size).1), .int .i64 s.day] 142)).drew.cell? ⟨b, 2, none⟩ = some (.int .i64 s.day) ∧ ∀ w5, Below w4.heap.size w4 w5 → SPost SAtP w (.pointer (some ⟨b, 0, none⟩)) (fpS b mo q s.obs) (putS s n t) w5 := by
  obtain ⟨_, hsc, hB3⟩ := hp
  obtain ⟨g1, g2, g3⟩ := wrtS_obs s t.size
  have hne := getO_none.1 hg
  obtain ⟨mb', e', hm2⟩ : ∃ mb', some mb = some mb' ∧ PtrMap w2 mb' q s.obs := by
    rcases h2.map with ⟨e, _⟩ | h
    · cases e
    · exact h
  cases e'
  have hmb2 : mb ≠ b := sc_off_map h2.block hm2
  have hm3 : PtrMap w3 mb q s.obs := hm2.keep (hB3.block mb hm2.lt hmb2)
  have hal : Below w3.heap.size w3 (w3.alloc (.cells #[.string (t.extract 0 (wrtS s t.size).1), .int .i64 s.day] 142)).drew := ((Below.refl _ _).alloc (Nat.le_refl _) _).drew
  have hm3' : PtrMap (w3.alloc (.cells #[.string (t.extract 0 (wrtS s t.size).1), .int .i64 s.day] 142)).drew mb q s.obs := hm3.keep (hal.block mb hm3.lt)
  obtain ⟨w4, hrun, hm4, hturn⟩ := hm3'.store h.rise (by unfold maxLen; omega) hn hne (t.extract 0 (wrtS s t.size).1) s.day w3.heap.size
  have hB4 := But.of_turned hturn
  refine ⟨w4, hrun, hsc.cells.1, hsc.cells.2.2.1, below_keep hal hsc.cells.1, below_keep hal hsc.cells.2.2.1, fun w5 hb5 => ?_⟩
  have hbl3 := hsc.lt
  have hml3 := hm3.lt
  have old4 : ∀ k, k < w3.heap.size → k ≠ mb → w4.heap[k]? = w3.heap[k]? := fun k hk hne => (hB4.block k (Nat.lt_of_lt_of_le hk hal.size) hne).trans (hal.block k hk)
  have hin : SIn w4 b (some mb) (setQ q n w3.heap.size) { (wrtS s t.size).2 with obs := insO s.obs (n, t.extract 0 (wrtS s t.size).1, s.day) } := by
    refine h2.added hne ?_ (wrtS_cut1 h.cut) hm4 ?_ fun o ho => ?_
    · rw [g2, g3]
      exact (old4 b hbl3 (fun e => hmb2 e.symm)).trans hsc
    · exact (hB4.block w3.heap.size (by simp [World.drew]) (fun e => by omega)).trans (heap_alloc_new w3 _)
    · have hl2 := h2.objs.lt ho
      have h3 := hB3.block _ hl2 (sc_off_obj h2.block h2.objs ho)
      exact (old4 _ (Nat.lt_of_lt_of_le hl2 hB3.size) (map_off_obj hm2 h2.objs ho)).trans h3
  have hS : putS s n t = { (wrtS s t.size).2 with obs := insO s.obs (n, t.extract 0 (wrtS s t.size).1, s.day) } := by
    unfold putS
    rw [hE, if_neg (by decide), ext_bytes]
  rw [hS]
  have hsz : w.heap.size ≤ w3.heap.size := Nat.le_trans hB2.size hB3.size
  have hbut : But (fpS b mo q s.obs) w w4 := by
    have c1 : But (fpS b mo q s.obs) w w2 := hB2.mono fun k e => Or.inl e
    have c2 : But (fpS b mo q s.obs) w w3 := c1.trans hB3 fun i e _ => Or.inl e
    have c3 : But (fpS b mo q s.obs) w (w3.alloc (.cells #[.string (t.extract 0 (wrtS s t.size).1), .int .i64 s.day] 142)).drew := c2.trans (Q := fun _ => False) (But.of_below hal) fun _ e => e.elim
    refine c3.trans hB4 fun i e hi => ?_
    rcases hmb with hmb | hmb
    · exact Or.inr (Or.inl (by rw [hmb, e]))
    · omega
  refine spost_of (hin.below hb5) (hbut.trans (Q := fun _ => False) (But.of_below hb5) fun _ e => e.elim) fun k hk => ?_
  rcases hk with hk | hk | ⟨o, ho, hk⟩
  · exact Or.inl (Or.inl hk)
  · rcases hmb with hmb | hmb
    · exact Or.inl (Or.inr (Or.inl (by rw [hmb]; exact hk)))
    · cases hk
      exact Or.inr hmb
  · rcases insO_mem.1 ho with rfl | hmo
    · rw [setQ_same] at hk
      exact Or.inr (by omega)
    · rw [setQ_other _ _ (hne o hmo)] at hk
      exact Or.inl (Or.inr (Or.inr ⟨o, hmo, hk⟩))

theorem putE_zero {n t : ByteArray} (h : putE s n t = 0) : s.off = false ∧ getO s.obs n = none ∧ s.obs.length < 200 := by
  unfold putE at h
  split at h
  · cases h
  · split at h
    · cases h
    · split at h
      · cases h
      · rename_i h1
        split at h
        · cases h
        · rename_i h2
          split at h
          · cases h
          · rename_i h3
            refine ⟨by simpa using h1, by simpa using h2, ?_⟩
            omega

theorem EnvO.but {w w' : World} {a : Nat → Addr} {mo : Option Nat} (h : EnvO w a) (hB : But (fun k => k = b) w w') (hc : w.cell? ⟨b, 0, none⟩ = some (.map mo)) : EnvO w' a := by
  have g : ∀ {g : Nat} {t : TypeId} {x : Value}, w.cell? ⟨g, 0, none⟩ = some (.iface t x) → w'.cell? ⟨g, 0, none⟩ = some (.iface t x) := fun {g t x} h => hB.keep (fun e => by subst e; rw [hc] at h; cases h) h
  exact {
    bound := g h.bound
    name := g h.name
    miss := g h.miss
    exist := g h.exist
    full := g h.full
    off := g h.off }
theorem SIn.made {w : World} (h : SIn w b none q s) : SIn ((w.alloc (.map #[] 0)).setCell ⟨b, 0, none⟩ (.map (some w.heap.size))) b (some w.heap.size) q s ∧ But (fun k => k = b) w ((w.alloc (.map #[] 0)).setCell ⟨b, 0, none⟩ (.map (some w.heap.size))) := by
  have hl := h.block.lt
  have hB0 : But (fun k => k = b) w (w.alloc (.map #[] 0)) := But.of_below ((Below.refl _ _).alloc (Nat.le_refl _) _)
  have hsc : SC (w.alloc (.map #[] 0)) b none s.head s.day s.off (waitsB s) (leftI s) := (Below.heap_alloc _ _ b hl).trans h.block
  have ho : s.obs = [] := by
    rcases h.map with ⟨_, e⟩ | ⟨mb, e, _⟩
    · exact e
    · cases e
  refine ⟨⟨hsc.objs _, Or.inr ⟨_, rfl, ?_⟩, by rw [ho]; exact fun _ h => (nomatch h), h.rise, h.cut⟩, hB0.setCell (Or.inl rfl) _⟩
  rw [ho]
  refine (PtrMap.made w q).keep ?_
  exact Below.heap_setCell _ ⟨b, 0, none⟩ _ _ (by show w.heap.size ≠ b; omega)

theorem eq_map0 (w : World) : (binOp .eql 123 (.map none) (.map none)).run Tryz.prog w = .ok (.bool true) w := by
  kernel_rfl
theorem eq_map1 (w : World) (k : Nat) : (binOp .eql 123 (.map (some k)) (.map none)).run Tryz.prog w = .ok (.bool false) w := by
  kernel_rfl
set_option maxRecDepth 100000 in
set_option maxHeartbeats 4000000 in
theorem sput_any (h : SIn w b mo q s) (hk : Keeps s) {a : Nat → Addr} (he : EnvO w a) (n t : ByteArray) (hn : n.size ≤ 1000) (ht : t.size ≤ 100000) :
    Calls Tryz.prog 37 #[.pointer (some ⟨b, 0, none⟩), .string n, .string t] w fun e w' => e = .returned (errV a (putC s n t)) ∧ SPost SAtP w (.pointer (some ⟨b, 0, none⟩)) (fpS b mo q s.obs) (putS s n t) w' := by
  have hmp := mayPut_any h hk he n t hn ht
  by_cases hE : putE s n t = 0
  · obtain ⟨hoff, hg, hl⟩ := putE_zero hE
    have hC : putC s n t = if (wrtS s t.size).2.off = true then 12 else 0 := by unfold putC; rw [hE]; rfl
    rw [hC]
    rw [hE] at hmp
    have HE : Hid (EnvO w a) := he
    have HH : Hid (SIn w b mo q s) := h
    have HEND : Hid (∀ (w2 w3 : World) (mb : Nat) (e : Ending), SIn w2 b (some mb) q s → But (fun k => k = b) w w2 → (mo = some mb ∨ w.heap.size ≤ mb) → WrtP a w2 b (some mb) s t e w3 → ∃ w4, (Instr.mapUpdate 123 (.map (some mb)) (.string n) (.pointer (some ⟨w3.heap.size, 0, none⟩))).run Tryz.prog (w3.alloc (.cells #[.string (t.extract 0 (wrtS s t.size).1), .int .i64 s.day] 142)).drew = .ok () w4 ∧
      w3.cell? ⟨b, 0, none⟩ = some (.map (some mb)) ∧ w3.cell? ⟨b, 2, none⟩ = some (.int .i64 s.day) ∧ (w3.alloc (.cells #[.string (t.extract 0 (wrtS s t.size).1), .int .i64 s.day] 142)).drew.cell? ⟨b, 0, none⟩ = some (.map (some mb)) ∧ (w3.alloc (.cells #[.string (t.extract 0 (wrtS s t.size).1), .int .i64 s.day] 142)).drew.cell? ⟨b, 2, none⟩ = some (.int .i64 s.day) ∧ ∀ w5, Below w4.heap.size w4 w5 → SPost SAtP w (.pointer (some ⟨b, 0, none⟩)) (fpS b mo q s.obs) (putS s n t) w5) := fun w2 w3 mb e h2 hB2 hmb hp => put_end h hg hl (by unfold maxLen; omega) hE h2 hB2 hmb hp
    have HWR : Hid (∀ (w2 : World) (mb : Nat), SIn w2 b (some mb) q s → EnvO w2 a → Calls Tryz.prog 86 #[.pointer (some ⟨b, 3, none⟩), .string t] w2 (WrtP a w2 b (some mb) s t)) := fun w2 mb h2 he2 => swrite_any h2.block he2 t (by unfold maxLen; omega) hoff h2.cut
    have HX : Hid (∀ (w2 : World) (mb : Nat), SIn w2 b (some mb) q s → EnvO w2 a → But (fun k => k = b) w w2 → (mo = some mb ∨ w.heap.size ≤ mb) → Calls Tryz.prog 86 #[.pointer (some ⟨b, 3, none⟩), .string t] w2 fun e w3 => e = .returned (.tuple #[.string (t.extract 0 (wrtS s t.size).1), errV a (if (wrtS s t.size).2.off = true then 12 else 0)]) ∧ ∃ w4, (Instr.mapUpdate 123 (.map (some mb)) (.string n) (.pointer (some ⟨w3.heap.size, 0, none⟩))).run Tryz.prog (w3.alloc (.cells #[.string (t.extract 0 (wrtS s t.size).1), .int .i64 s.day] 142)).drew = .ok () w4 ∧
      w3.cell? ⟨b, 0, none⟩ = some (.map (some mb)) ∧ w3.cell? ⟨b, 2, none⟩ = some (.int .i64 s.day) ∧ (w3.alloc (.cells #[.string (t.extract 0 (wrtS s t.size).1), .int .i64 s.day] 142)).drew.cell? ⟨b, 0, none⟩ = some (.map (some mb)) ∧ (w3.alloc (.cells #[.string (t.extract 0 (wrtS s t.size).1), .int .i64 s.day] 142)).drew.cell? ⟨b, 2, none⟩ = some (.int .i64 s.day) ∧ ∀ w5, Below w4.heap.size w4 w5 → SPost SAtP w (.pointer (some ⟨b, 0, none⟩)) (fpS b mo q s.obs) (putS s n t) w5) := fun w2 mb h2 he2 hB2 hmb => (HWR.out w2 mb h2 he2).mono fun e w3 hp => ⟨hp.1, HEND.out w2 w3 mb e h2 hB2 hmb hp⟩
    generalize putS s n t = SP at HX ⊢
    generalize errV a (if (wrtS s t.size).2.off = true then 12 else 0) = ev at HX ⊢
    generalize t.extract 0 (wrtS s t.size).1 = tx at HX
    generalize s.day = dd at HX
    have hmm := @run_makeMap Tryz.prog
    have hq0 := eq_map0
    have hq1 := eq_map1
    have hmp2 : Calls Tryz.prog 85 #[.pointer (some ⟨b, 0, none⟩), .string n, .string t] w fun e w' => e = .returned .nilIface ∧ Below w.heap.size w w' := hmp
    clear hmp hk h he hE hC hoff hg hl HEND HWR hn ht
    cases mo with
    | none =>
      go_enter Tryz.func37, Tryz.ntmps37
      go_wp2_with (first | (go_at_call 85; refine hmp2.mono ?_; rintro e w1 ⟨rfl, hb⟩; have h1 := HH.out.below hb; obtain ⟨c0, _, _, _, _, _, hf⟩ := h1.block.cells; have f0 := hf 0; have e1 := HE.out.below hb; obtain ⟨h2, hB2⟩ := h1.made; have hcw := HX.out _ _ h2 (e1.but hB2 c0) ((But.of_below hb).trans hB2 fun _ e _ => e) (Or.inr hb.size); have hsc' := (h1.below ((Below.refl _ _).alloc (Nat.le_refl _) (.map #[] 0))).block.cells; have c0' := hsc'.1; have f0' := hsc'.2.2.2.2.2.2 0; clear hsc' h1 hf e1 h2 hB2) | (go_at_call 86; refine hcw.mono ?_; rintro e w3 ⟨rfl, w4, hrun, k0, k2, k0', k2', hfin⟩))
      go_region
      all_goals go_wp2
      all_goals go_ret
      all_goals exact ⟨rfl, hfin _ (Below.refl _ _)⟩
    | some mb =>
      go_enter Tryz.func37, Tryz.ntmps37
      go_wp2_with (first | (go_at_call 85; refine hmp2.mono ?_; rintro e w1 ⟨rfl, hb⟩; have h1 := HH.out.below hb; obtain ⟨c0, _, _, _, _, _, hf⟩ := h1.block.cells; have f0 := hf 0; have e1 := HE.out.below hb; have hcw := HX.out _ _ h1 e1 (But.of_below hb) (Or.inl rfl); clear h1 hf e1) | (go_at_call 86; refine hcw.mono ?_; rintro e w3 ⟨rfl, w4, hrun, k0, k2, k0', k2', hfin⟩))
      go_region
      all_goals go_wp2
      all_goals go_ret
      all_goals exact ⟨rfl, hfin _ (Below.refl _ _)⟩
  · obtain ⟨k, hk'⟩ : ∃ k, putE s n t = k + 1 := ⟨putE s n t - 1, by omega⟩
    have hC : putC s n t = k + 1 := by unfold putC; rw [if_pos hE, hk']
    have hT : putS s n t = s := by unfold putS; rw [if_pos hE]
    rw [hC, hT]
    rw [hk'] at hmp
    have hmp2 : Calls Tryz.prog 85 #[.pointer (some ⟨b, 0, none⟩), .string n, .string t] w fun e w' => e = .returned (.iface 327 (.pointer (some (a k)))) ∧ SPost SAtP w (.pointer (some ⟨b, 0, none⟩)) (fpS b mo q s.obs) s w' := hmp.mono fun e w' ⟨he', hb⟩ => ⟨he', spost_of (h.below hb) (But.of_below hb) fun k hk => Or.inl hk⟩
    clear hmp hk h he hE hC hT hk'
    go_enter Tryz.func37, Tryz.ntmps37
    go_wp2_with (go_at_call 85; refine hmp2.mono ?_; rintro e w1 ⟨rfl, hp⟩)
    go_ret
    exact ⟨rfl, hp⟩
end
end Go.Proofs.YtdhkdjlgmbejnaaGreatDoor
namespace Go.Proofs.YtdhkdjlgmbejnaaGreatDoor
open Go.RowKit Go.Maps Go.Sort Go.Shelf
attribute [local go_sem] Oper.semAt_some

def noDefer (ops : Array Oper) : Bool := ops.toList.all fun o => match o.op with
  | .defer _ => false
  | _ => true
theorem noDefer_spec {ops : Array Oper} (h : noDefer ops = true) {i : Nat} {o : Oper} (ho : ops[i]? = some o) : ∀ c, o.op ≠ .defer c := by
  intro c e
  have hm : o ∈ ops.toList := by
    rw [← Array.getElem?_toList] at ho
    exact List.mem_of_getElem? ho
  have := List.all_eq_true.1 h o hm
  rw [e] at this
  cases this
theorem oper_round {n : Nat} {P : Program} {o : Oper} {a : Act} {w : World} {K K' : Act → World → Prop} {Q : Exit → Act → World → Prop} (l : Nat) (hd : ∀ c, o.op ≠ .defer c) (hk : ∀ a w, K a w → K' a w) (h : Oper.wpIn Fence.wide n P o a w K Q) : Oper.wpIn (Fence.wide.inRound l) n P o a w K' Q := by
  have h' := Oper.wpIn_mono hk h
  unfold Oper.wpIn at h' ⊢
  refine ⟨fun _ _ => trivial, ?_⟩
  have h2 := h'.2
  rw [Oper.semAt_plain _ _ _ hd] at h2 ⊢
  exact h2
theorem any_round {n : Nat} {P : Program} {md : Region.Mode} {ops : Array Oper} {Q : Exit → Act → World → Prop} (l : Nat) (hd : noDefer ops = true) : ∀ (fuel : Nat) (listed : Array Bool) (a : Act) (w : World), wpAnyIn Fence.wide n P md ops Q fuel listed a w → wpAnyIn (Fence.wide.inRound l) n P md ops Q fuel listed a w
  | 0, _, _, _, h => h
  | fuel + 1, listed, a, w, h => by
    refine ⟨h.1, fun i hi => ?_⟩
    have hw := h.2 i hi
    unfold wpOpIn at hw ⊢
    cases ho : ops[i]? with
    | none =>
      rw [ho] at hw
      exact any_round l hd fuel _ a w hw
    | some o =>
      rw [ho] at hw
      dsimp only at hw ⊢
      split
      · rename_i hwa
        rw [if_pos hwa] at hw
        exact oper_round l (noDefer_spec hd ho) (fun a w h => any_round l hd fuel _ a w h) hw
      · rename_i hwa
        rw [if_neg hwa] at hw
        exact ⟨fun _ _ => trivial, any_round l hd fuel _ _ _ hw.2⟩

end Go.Proofs.YtdhkdjlgmbejnaaGreatDoor
