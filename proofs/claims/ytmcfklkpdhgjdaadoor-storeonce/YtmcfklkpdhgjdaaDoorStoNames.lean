/-
  The contract of the program's Names.
-/
import Derived.Test.YtmcfklkpdhgjdaaDoorStoShelf
import Derived.Test.YtmcfklkpdhgjdaaDoorStoIter
import Derived.Test.YtmcfklkpdhgjdaaDoorRefStore3
namespace Go.Proofs.YtmcfklkpdhgjdaaDoor
open Go.RowKit Go.Maps Go.Sort Go.Shelf

/-- The sort of texts. -/
theorem Tryd.sortsIt (m : Nat) : AnyZ.SortsIn Tryd.prog Tryd.sortedIt_ren Fence.wide m :=
  ⟨fun blk off cap ss W hH hblk hsz => callsIn_wide.2 (AnyM.slices_Sort_string Tryd.sortIt blk off cap ss W hH hblk hsz),
   fun p cap W => callsIn_wide.2 (AnyM.slices_Sort_string_none Tryd.sortIt p cap W)⟩
/-- The keys' iterator. -/
theorem Tryd.mapsKeys (mb : Option Nat) (W : World) : CallsIn Fence.wide 5 Tryd.prog 29 #[.map mb] W fun e w' => e = .returned (.func (.func 36) #[] #[.pointer (some ⟨W.heap.size, 0, none⟩)]) ∧ w' = W.alloc (.cells #[.map mb] 47) :=
  AnyZ.keys_in Tryd.keysIt Fence.wide 5 trivial rfl mb W

/-- The names, as the keys are. -/
def namesL (l : List Ob) : List (List UInt8) := l.map fun o => o.1.data.toList
theorem keys_names (q : ByteArray → Nat) (l : List Ob) : strKeys (mapQ q l) = namesL l := by simp [strKeys, mapQ, namesL, keyL, strOf]
theorem names_sorted {l : List Ob} (hr : RiseO l) {ss : List (List UInt8)} (hs : ss.Perm (namesL l)) : ss.mergeSort (fun x y => decide (x ≤ y)) = namesL l := by
  have h1 : (namesL l).Pairwise fun x y => x ≤ y := by
    unfold namesL
    rw [List.pairwise_map]
    exact hr.imp fun h => List.le_of_lt h
  have h2 := List.pairwise_mergeSort (le := fun x y : List UInt8 => decide (x ≤ y)) (fun a b c h1 h2 => by simp only [decide_eq_true_eq] at *; exact List.le_trans h1 h2) (fun a b => by simp only [Bool.or_eq_true, decide_eq_true_eq]; exact List.le_total a b) ss
  have h3 : (ss.mergeSort (fun x y => decide (x ≤ y))).Pairwise fun x y => x ≤ y := h2.imp fun h => by simpa using h
  exact ((List.mergeSort_perm _ _).trans hs).eq_of_pairwise (fun a b _ _ h h' => List.le_antisymm h h') h3 h1
theorem names_enc (l : List Ob) : (namesL l).map encStr = (l.map fun o => o.1).map Value.string := by
  unfold namesL
  rw [List.map_map, List.map_map]
  apply List.map_congr_left
  intro o _
  simp [encStr]

set_option maxHeartbeats 1000000 in
theorem sorted_any (mo : Option Nat) (q : ByteArray → Nat) (l : List Ob) (w : World) (h : MapAt w mo q l) (hr : RiseO l) (hl : l.length ≤ 200) :
    CallsIn Fence.wide 5 Tryd.prog 28 #[.func (.func 36) #[] #[.pointer (some ⟨w.heap.size, 0, none⟩)]] (w.alloc (.cells #[.map mo] 47)) fun e w' => ∃ v, e = .returned v ∧ TxsAt w' v (l.map fun o => o.1) ∧ Below w.heap.size w w' := by
  have hal : Below w.heap.size w (w.alloc (.cells #[.map mo] 47)) := (Below.refl _ _).alloc (Nat.le_refl _) _
  have hseq : ∃ N, N ≤ 200 ∧ SeqGives Fence.wide 2 Tryd.prog 36 #[.pointer (some ⟨w.heap.size, 0, none⟩)] encStr (fun ss => ss.Perm (namesL l)) N (w.alloc (.cells #[.map mo] 47)) := by
    rcases h with ⟨rfl, rfl⟩ | ⟨b, rfl, hown⟩
    · refine ⟨0, by decide, ?_⟩
      have g : SeqGives Fence.wide 2 Tryd.prog 36 #[.pointer (some ⟨w.heap.size, 0, none⟩)] encStr (fun ss : List (List UInt8) => ss = []) 0 (w.alloc (.cells #[.map none] 47)) :=
        AnyZ.keys_gives_nil (ρ := Tryd.keysIt_ren) { Tryd.keysIt with } Fence.wide _ trivial rfl w.heap.size _ (by simp) (by simp)
      intro r J W hW hJ hY h0
      refine (g r J W hW hJ hY h0).mono ?_
      rintro e W' ⟨hv, ss, rfl, hJ'⟩
      exact ⟨hv, [], List.Perm.nil, hJ'⟩
    · refine ⟨Maps.size (mapQ q l), by rw [mapQ_size]; exact hl, ?_⟩
      rw [← keys_names q l]
      exact AnyZ.keys_gives (ρ := Tryd.keysIt_ren) { Tryd.keysIt with } Fence.wide _ trivial rfl (by omega) w.heap.size b l.length (mapQ q l) _ (by simp) (by simp) (hown.keep (Below.heap_alloc _ _ b hown.lt))
  obtain ⟨N, hN, hseq⟩ := hseq
  have cS := AnyZ.sorted_in Tryd.sortedIt Fence.wide 5 trivial trivial trivial trivial rfl (by omega) (Tryd.sortsIt _) (enters_of Tryd.func35 (by kernel_rfl) rfl) 36 #[.pointer (some ⟨w.heap.size, 0, none⟩)] trivial (enters_of Tryd.func36 (by kernel_rfl) rfl) _ N (by unfold maxLen; omega) (by omega) _ hseq
  change CallsIn _ _ Tryd.prog 28 _ _ _ at cS
  refine cS.mono ?_
  rintro e w' ⟨v, ss, rfl, hS, hrow, hnil, hb⟩
  refine ⟨v, rfl, ?_, hal.trans (hb.mono (by simp))⟩
  rw [names_sorted hr hS, names_enc] at hrow
  have hlen : ss.length = (l.map fun o => o.1).length := by rw [hS.length_eq]; simp [namesL]
  rw [hlen] at hrow
  exact txs_of_own hrow

set_option maxRecDepth 100000 in
set_option maxHeartbeats 1000000 in
theorem snames_any {w : World} {b : Nat} {mo : Option Nat} {q : ByteArray → Nat} {s : St} (h : SIn w b mo q s) (hk : Keeps s) : Calls Tryd.prog 20 #[.pointer (some ⟨b, 0, none⟩)] w fun e w' => ∃ v, e = .returned v ∧ TxsAt w' v (s.obs.map fun o => o.1) ∧ Below w.heap.size w w' := by
  have c0 := h.block.cells.1
  have cS := sorted_any mo q s.obs w h.map h.rise hk.many
  have cK := Tryd.mapsKeys mo w
  refine (callsIn_wide (n := 6)).1 ?_
  have hfK : Fence.wide.fn 29 := trivial
  have hfS : Fence.wide.fn 28 := trivial
  refine callsIn_of_wp Tryd.func20 rfl trivial ?_ rfl
  simp only [Tryd.ntmps20, List.size_toArray, List.length_cons, List.length_nil, Nat.reduceAdd, Nat.reduceSub, Array.replicate_succ, Array.replicate_zero, List.push_toArray, List.append_toArray, List.nil_append, List.cons_append]
  clear h hk
  gi_wp2_with (first
    | (gi_at_call 29; refine cK.mono ?_; rintro e w' ⟨rfl, rfl⟩)
    | (gi_at_call 28; refine cS.mono ?_; rintro e w' ⟨v, rfl, hT, hb⟩))
  go_ret
  exact ⟨v, rfl, hT, hb⟩
end Go.Proofs.YtmcfklkpdhgjdaaDoor
