/-
  The contract of part.rising's iterator: the names of the map, rising, each with its rows.
-/
import Derived.Test.YtgffkkijfmoooaaGreatDoorPartSplit0
import Derived.Test.YtgffkkijfmoooaaGreatDoorPartIter
import Derived.RangeFuncNested
import Derived.RangeFuncBound
import Derived.RangeFuncCalls
import Derived.RangeFuncLeaves
import Derived.OwnWalkIn
import Derived.TacticsInMore
import Derived.LoopNIn
import Derived.LoopIn
namespace Go.Proofs.YtgffkkijfmoooaaGreatDoor
open Go.RowKit Go.Extern.Stop Go.Stop Go.Extern Go.Sort Go.Shelf Go.Lib
attribute [local go_sem] Oper.semAt_some

/-- What a round keeps: all below B, and every block of texts or of maps' names. -/
def KpT (B : Nat) (W W' : World) : Prop :=
  W.heap.size ≤ W'.heap.size ∧ ∀ k, k < W.heap.size → (k < B ∨ ∃ cs t fz, W.heap[k]? = some (.cells cs t fz) ∧ (t = 9 ∨ t = 92)) → W'.heap[k]? = W.heap[k]?

theorem KpT.refl (B : Nat) (W : World) : KpT B W W := ⟨Nat.le_refl _, fun _ _ _ => rfl⟩
theorem KpT.trans {B : Nat} {A C E : World} (h : KpT B A C) (k : KpT B C E) : KpT B A E :=
  ⟨Nat.le_trans h.1 k.1, fun i hi hc => by
    have e := h.2 i hi hc
    rw [← e]
    refine k.2 i (Nat.lt_of_lt_of_le hi h.1) ?_
    rcases hc with hc | ⟨cs, t, fz, h1, h2⟩
    · exact Or.inl hc
    · exact Or.inr ⟨cs, t, fz, e.trans h1, h2⟩⟩

theorem grown_of_below {W W' : World} (h : Below W.heap.size W W') : W.grownBy W' none := ⟨h.os, h.tape, h.output, h.size, fun k hk _ => h.block k hk⟩

theorem own_form {W : World} {base : Nat} {e : TypeId} {size : Nat} {v : Value} {n : Nat} {xs : List Value} (h : W.ownsRow base e size v n xs) : ∃ q c, v = .slice q n c := by
  rcases h.2 with ⟨e, h0⟩ | ⟨g, cap, cur, e, _⟩
  · exact ⟨none, 0, by rw [e, h0]⟩
  · exact ⟨_, _, e⟩

theorem map_look {W : World} {bm nn : Nat} {D : DataW Unit} {hv : List UInt8 → Value} (h : W.ownsMap Tryz.prog 9 hdrR bm nn D) (hhd : ∀ nm, hdrR (hv nm) = some (D.atKey (.string nm) .nil, [])) (key : ByteArray) (hk : key.size ≤ maxLen) :
    (Instr.lookup 92 (.map (some bm)) (.string key) false).run Tryz.prog W = .ok (hv key.data.toList) W := by
  obtain ⟨v, ps, hrun, hR⟩ := h.lookup (Maps.string_keyed Tryz.underlying9) Tryz.underlying92 (Tryz.zeroRows W) (zd := .nil) (zp := []) rfl (Go.WideMaps.keyOf_string_mk Tryz.underlying9 hk)
  have hp := hdrR_places hR
  simp only at hp
  subst hp
  rw [hrun, hdrR_inj hR (hhd key.data.toList)]

theorem strKeys_len (D : DataW Unit) (h : Maps.IsMap D) : (strKeys D).length = Maps.size D := by
  obtain ⟨es, rfl⟩ := h
  simp [strKeys, Maps.size]

set_option maxRecDepth 100000 in
set_option maxHeartbeats 4000000 in
theorem rising_stops (bm bx B nn : Nat) (D0 : DataW Unit) (hv : List UInt8 → Value) (w : World) (hown : w.ownsMap Tryz.prog 9 hdrR bm nn D0) (hhd : ∀ nm, hdrR (hv nm) = some (D0.atKey (.string nm) .nil, []))
    (hkey : ∀ nm ∈ strKeys D0, nm.length ≤ 1000) (hmax : Maps.size D0 ≤ 1000) (hbm : bm < B) (hbx : w.heap[bx]? = some (.cells #[.map (some bm)] 92 (0, 0))) :
    SeqStopsK Fence.wide 8 Tryz.prog 94 #[.pointer (some ⟨bx, 0, none⟩)] (fun nm : List UInt8 => #[encStr nm, hv nm]) (KpT B) (fun xs => ∃ ss : List (List UInt8), ss.Perm (strKeys D0) ∧ xs = ss.mergeSort (fun x y => decide (x ≤ y))) (fun _ => True) (Maps.size D0) w := by
  intro l J Jx W hW hJ hJx hY h0
  have hbxl : bx < w.heap.size := (Array.getElem?_eq_some_iff.1 hbx).1
  have hbxW : W.heap[bx]? = some (.cells #[.map (some bm)] 92 (0, 0)) := (hW.block bx hbxl).trans hbx
  have hownW : W.ownsMap Tryz.prog 9 hdrR bm nn D0 := by
    have hlt := hown.lt
    obtain ⟨es, clock, hm, r⟩ := hown
    exact ⟨es, clock, (hW.block bm hlt).trans hm, r⟩
  have hcx : W.cell? ⟨bx, 0, none⟩ = some (.map (some bm)) := by simp [World.cell?, hbxW]
  refine callsIn_of_wp Tryz.func94 rfl trivial ?_ rfl
  simp only [Tryz.ntmps94, List.size_toArray, List.length_cons, List.length_nil, Nat.reduceAdd, Nat.reduceSub, Array.replicate_succ, Array.replicate_zero, List.push_toArray, List.append_toArray, List.nil_append, List.cons_append]
  have hfK : Fence.wide.fn 96 := trivial
  have hfS : Fence.wide.fn 95 := trivial
  gi_wp2_with (first
    | (gi_at_call 96; refine (callsIn_wide.2 (callsIn_wide.1 (Tryz.mapsKeys _ _))).mono ?_; rintro e w' ⟨rfl, rfl⟩)
    | (gi_at_call 95; refine (callsIn_wide.2 (callsIn_wide.1 (Tryz.sortedKeys bm nn D0 hdrR W hownW (by unfold maxLen; omega) (by omega)))).mono ?_; rintro e w2 ⟨sv, ss, rfl, hS, hrow, hnil, hb2⟩; obtain ⟨sq, sc, rfl⟩ := own_form hrow))
  have hsl : (ss.mergeSort (fun x y => decide (x ≤ y))).length = ss.length := List.length_mergeSort _
  have hnn : ss.length = Maps.size D0 := by
    rw [hS.length_eq]
    refine strKeys_len D0 ?_
    obtain ⟨es, clock, _, _, _, e⟩ := hownW
    exact ⟨_, e⟩
  have hSP : Hid (ss.Perm (strKeys D0)) := hS
  obtain ⟨ts, hts⟩ : ∃ ts, ss.mergeSort (fun x y => decide (x ≤ y)) = ts := ⟨_, rfl⟩
  have HTS : Hid (ts = ss.mergeSort (fun x y => decide (x ≤ y))) := hts.symm
  have hmem : ∀ t ∈ ts, t.length ≤ 1000 := fun t ht => hkey t (hS.mem_iff.1 ((List.mergeSort_perm _ _).mem_iff.1 (by rw [hts]; exact ht)))
  rw [hts] at hrow hsl
  clear hts
  obtain ⟨M, hM⟩ : ∃ M, ss.length = M := ⟨_, rfl⟩
  rw [hM] at hrow hsl hnn hnil ⊢
  have HSL : Hid (ts.length = M) := hsl
  have HNN : Hid (M = Maps.size D0) := hnn
  have hM1 : M ≤ 1000 := by omega
  clear hsl hM hS hnn
  have hal : Below W.heap.size W (W.alloc (.cells #[.map (some bm)] 92)) := (Below.refl _ _).alloc (Nat.le_refl _) _
  have hW2 : Below W.heap.size W w2 := hal.trans (hb2.mono hal.size)
  have hJ2 : J [] w2 := hJ [] W w2 none h0 (grown_of_below hW2) (fun r e => by cases e)
  have hbxl2 : bx < W.heap.size := Nat.lt_of_lt_of_le hbxl hW.size
  have hbx2 : w2.heap[bx]? = some (.cells #[.map (some bm)] 92 (0, 0)) := (hW2.block bx hbxl2).trans hbxW
  have hbml : bm < W.heap.size := hownW.lt
  have hown2 : w2.ownsMap Tryz.prog 9 hdrR bm nn D0 := by
    obtain ⟨es, clock, hm, r⟩ := hownW
    exact ⟨es, clock, (hW2.block bm hbml).trans hm, r⟩
  have hlen2 : Hid (bm < w2.heap.size ∧ bx < w2.heap.size) := ⟨hown2.lt, Nat.lt_of_lt_of_le hbxl2 hW2.size⟩
  clear hownW hcx hbxW h0 hfK hfS hnil hal hb2
  have HROW : Hid (w2.ownsRow (W.alloc (.cells #[.map (some bm)] 92)).heap.size 9 1 (.slice sq M sc) M (ts.map encStr)) := hrow
  clear hrow
  gi_loopw [9] (fun i wr => ∃ k : Nat, k ≤ M ∧ i = .int .i64 k ∧ J (ts.take k) wr ∧ KpT B w2 wr) (fun i _ => M - (intOf i).toNat)
  case atStart => exact ⟨0, Nat.zero_le _, rfl, by simpa using hJ2, KpT.refl _ _⟩
  case round =>
    obtain ⟨k, hk, rfl, hJs, hkp⟩ := hrel
    by_cases hlt : k < M
    · have hkt : k < ts.length := by rw [HSL.out]; exact hlt
      have htk : ts.take (k + 1) = ts.take k ++ [ts[k]] := by rw [List.take_append_getElem hkt]
      have hml := hmem ts[k] (List.getElem_mem _)
      obtain ⟨fn, tmps, assign, body, hy, hR⟩ := hY (ts.take k) ts[k] wr hJs (by rw [List.length_take, HSL.out, ← HNN.out]; omega)
      have hwrm : wr.ownsMap Tryz.prog 9 hdrR bm nn D0 := by
        have := hkp.2 bm hlen2.out.1 (Or.inl hbm)
        obtain ⟨es, clock, hm, r⟩ := hown2
        exact ⟨es, clock, this.trans hm, r⟩
      have hwrx : wr.heap[bx]? = some (.cells #[.map (some bm)] 92 (0, 0)) := (hkp.2 bx hlen2.out.2 (Or.inr ⟨_, _, _, hbx2, Or.inr rfl⟩)).trans hbx2
      have hcx : wr.cell? ⟨bx, 0, none⟩ = some (.map (some bm)) := by simp [World.cell?, hwrx]
      have hlook : (Instr.lookup 92 (.map (some bm)) (.string ⟨ts[k].toArray⟩) false).run Tryz.prog wr = .ok (hv ts[k]) wr := by
        have := map_look hwrm hhd ⟨ts[k].toArray⟩ (by rw [← size_list]; unfold maxLen; simp; omega)
        simpa using this
      have hcell : ∃ gs, sq = some ⟨gs, 0, none⟩ ∧ wr.cell? ⟨gs, k, none⟩ = some (encStr ts[k]) := by
        rcases HROW.out.2 with ⟨_, h0⟩ | ⟨gs, cap', cur, e, _, hg, _, _, _, htake⟩
        · omega
        · injection e with e1 e2 e3
          refine ⟨gs, e1, ?_⟩
          have hgl : gs < w2.heap.size := (Array.getElem?_eq_some_iff.1 hg).1
          have hgw := (hkp.2 gs hgl (Or.inr ⟨_, _, _, hg, Or.inl rfl⟩)).trans hg
          have hu : (ts.map encStr)[k]? = some (encStr ts[k]) := by simp [hkt]
          rw [← htake, List.getElem?_take, if_pos (by omega)] at hu
          simp only [World.cell?, hgw]
          simpa using hu
      obtain ⟨gs, rfl, hcell⟩ := hcell
      simp only [encStr] at hcell hy
      have HTK : Hid (ts.take (k + 1) = ts.take k ++ [ts[k]]) := htk
      have hi : (k : Int) < (M : Int) := by omega
      clear htk
      generalize ts[k] = t at hy hR hcell hlook hml HTK
      clear hkt
      gi_wp2
      refine hR.mono ?_
      rintro e W3 (⟨rfl, hJ3, hk3⟩ | ⟨rfl, hJx3⟩)
      · gi_wp2
        go_roundw
        case rel => exact ⟨k + 1, by omega, by go_num, by rw [HTK.out]; exact hJ3, hkp.trans hk3⟩
        case measure => simp [intOf]; omega
      · gi_wp2
        refine bodyPost_ret (results_none rfl _ _ _) rfl ?_
        exact ⟨⟨_, rfl⟩, .inr ⟨_, trivial, hJx3⟩⟩
    · obtain rfl : k = M := by omega
      have hall : ts.take k = ts := List.take_of_length_le (by rw [HSL.out]; exact Nat.le_refl _)
      rw [hall] at hJs
      gi_wp2
      go_end0
      exact ⟨⟨_, rfl⟩, .inl ⟨_, ⟨ss, hSP.out, HTS.out⟩, hJs⟩⟩
end Go.Proofs.YtgffkkijfmoooaaGreatDoor
