/-
  The contract of the program's size: the bytes of all objects' texts.
-/
import Derived.Test.YtmcfklkpdhgjdaaGreatDoorStoIter
import Derived.Test.YtmcfklkpdhgjdaaGreatDoorStoMeth2
import Derived.RangeFuncFrom
import Derived.RangeFuncWrites
import Derived.RangeFuncBox
namespace Go.Proofs.YtmcfklkpdhgjdaaGreatDoor
open Go.RowKit Go.Maps Go.Sort Go.Shelf
attribute [local go_sem] Oper.semAt_some

theorem bytesS_perm {l m : List Ob} (h : l.Perm m) : bytesS l = bytesS m := (h.map _).sum_nat
theorem bytesS_le {l : List Ob} (h : ∀ o ∈ l, o.2.1.size ≤ 20000) : bytesS l ≤ 20000 * l.length := by
  induction l with
  | nil => simp [bytesS]
  | cons o l ih =>
    have := ih fun p hp => h p (List.mem_cons_of_mem _ hp)
    have := h o (by simp)
    simp only [bytesS, List.map_cons, List.sum_cons, List.length_cons] at *
    omega
theorem bytesS_snoc {l : List Ob} (ps : List (OneOf l)) (o : OneOf l) : bytesS ((ps ++ [o]).map (·.1)) = bytesS (ps.map (·.1)) + o.1.2.1.size := by
  simp [bytesS]

set_option maxRecDepth 100000 in
set_option maxHeartbeats 2000000 in
theorem ssize_any {w : World} {b : Nat} {mo : Option Nat} {q : ByteArray → Nat} {s : St} (h : SIn w b mo q s) (hk : Keeps s) :
    Calls Tryz.prog 46 #[.pointer (some ⟨b, 0, none⟩)] w fun e w' => e = .returned (.int .i64 (bytesS s.obs)) ∧ Below w.heap.size w w' := by
  have c0 := h.block.cells.1
  refine (callsIn_wide (n := 5)).1 ?_
  refine callsIn_of_wp_marks Tryz.func46 rfl trivial ?_ rfl
  simp only [Tryz.ntmps46, List.size_toArray, List.length_cons, List.length_nil, Nat.reduceAdd, Nat.reduceSub, Array.replicate_succ, Array.replicate_zero, List.push_toArray, List.append_toArray, List.nil_append, List.cons_append]
  have c0' : (w.alloc (.cells #[.int .i64 0] 3)).cell? ⟨b, 0, none⟩ = some (.map mo) := below_keep ((Below.refl w.heap.size w).alloc (Nat.le_refl _) _) c0
  gi_wp2_with (refine ⟨trivial, ?_⟩; gi_at_call 55; refine (values_any _ _ _).mono ?_; rintro e w' ⟨rfl, rfl⟩)
  have hB0 : Below w.heap.size w ((w.alloc (.cells #[.int .i64 0] 3)).alloc (.cells #[.map mo] 48)) := ((Below.refl w.heap.size w).alloc (Nat.le_refl _) _).alloc (by simp) _
  have h2 := h.below hB0
  have hbx := Boxed.new (w.alloc (.cells #[.int .i64 0] 3)) 48 (.map mo)
  have hb0 := (Boxed.new w 3 (.int .i64 0)).alloc (.cells #[.map mo] 48)
  simp only [World.size_alloc] at hbx
  refine wpIn_rangeFunc_ownG (F := Fence.wide) rfl (by decide) (gf := 67) (lb := #[.pointer (some ⟨w.heap.size + 1, 0, none⟩)]) rfl trivial (enters_of Tryz.func67 (by kernel_rfl) rfl)
    (values_seq _ (by decide) (w.heap.size + 1) mo q s.obs h.rise _ hbx.cell h2.map) walksK_t walksK_b (Below.refl _ _) (fun _ => rfl)
    (fun pre W => Boxed W w.heap.size 3 (.int .i64 (bytesS (pre.map (·.1)))) ∧ Below w.heap.size w W)
    (fun _ _ _ => False)
    (OwnFrom.and (Own.from (boxed_own w.heap.size 3 (fun pre : List (OneOf s.obs) => Value.int .i64 (bytesS (pre.map (·.1))))) _) (ownFrom_below (Nat.le_refl _) (by simp; omega)))
    (fun _ _ _ _ _ hs _ _ => hs.elim) ?start ?a1 ?assign ?body ?done ?stop
  case assign =>
    intro l x W K hK
    gi_wp2
    exact hK
  case start => exact ⟨hb0, hB0⟩
  case stop =>
    rintro D' c pre W _ _ hf _
    exact hf.elim
  case body =>
    rintro l pre x W ⟨hv, hB⟩ hlen
    have hc := hv.cell
    have hf := hv.frozen
    have k0 := below_keep hB (h.objs.cells x.2).1
    have hsum : bytesS (pre.map (·.1)) ≤ 20000 * pre.length := by
      have := bytesS_le (l := pre.map (·.1)) fun o ho => by
        obtain ⟨p, _, rfl⟩ := List.mem_map.1 ho
        exact hk.texts _ p.2
      simpa using this
    have hmany := hk.many
    have hx := hk.texts _ x.2
    have HSN : Hid (((bytesS ((pre ++ [x]).map (·.1)) : Nat) : Int) = (bytesS (pre.map (·.1)) : Int) + (x.1.2.1.size : Int)) := by rw [bytesS_snoc]; rfl
    obtain ⟨A, hA⟩ : ∃ A, bytesS (pre.map (·.1)) = A := ⟨_, rfl⟩
    rw [hA] at hc hv hsum HSN
    have HV : Hid (Boxed W w.heap.size 3 (.int .i64 A)) := hv
    have HB : Hid (Below w.heap.size w W) := hB
    have hA2 : A ≤ 4000000 := by omega
    generalize x.1.2.1 = tx at k0 hx HSN
    generalize q x.1.1 = kx at k0 ⊢
    clear hv hB hA hsum hlen hmany hb0 h2 hB0 h hk c0 c0' hbx
    have hwr : IntKind.i64.wrap ((A : Int) + (tx.size : Int)) = (A : Int) + (tx.size : Int) := IntWalk.i64_in _ (by omega)
    gi_wp2
    gi_region
    all_goals gi_wp2
    all_goals (try rw [hwr])
    all_goals exact ⟨((KeepsOthers.setCell _ _ _).trans (KeepsOthers.drew _)).from _, ((KeepsOthers.setCell _ _ _).trans (KeepsOthers.drew _)).walks, by rw [HSN.out]; exact HV.out.set _, ((HB.out.setCell (p := ⟨w.heap.size, 0, none⟩) (Nat.le_refl _) _).drew)⟩
  case done =>
    rintro D' xs W hD hS ⟨hv, hB⟩ hK
    have hc := hv.cell
    rw [bytesS_perm hS] at hc
    have hB2 : Below w.heap.size w (W.putObj D' (.deferred none)) := hB.trans (belowK_b (w := w) (Nat.le_refl _) W D' _ _ (by simp at hD; omega) hK rfl rfl)
    gi_wp2
    refine ⟨by simp, .inl ⟨_, _, rfl, run_takeDeferred hK, ?_⟩⟩
    exact ⟨_, results_tmp rfl _ _ _, rfl, hB2⟩
end Go.Proofs.YtmcfklkpdhgjdaaGreatDoor
