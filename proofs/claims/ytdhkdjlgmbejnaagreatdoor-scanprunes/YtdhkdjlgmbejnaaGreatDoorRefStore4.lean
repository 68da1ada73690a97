/-
  The contract of Drop of the document's own store.
-/
import Derived.Test.YtdhkdjlgmbejnaaGreatDoorScanCt
import Derived.Deep.RegionLaw
namespace Go.Proofs.YtdhkdjlgmbejnaaGreatDoor
open Go.RowKit Go.Extern.Stop Go.Stop Go.Extern Go.Sort Go.Shelf Go.Lib

theorem step_append_run {P : Program} {ops : Array Oper} {o : Oper} {a : Act} {w w' : World} {K : Act → World → Prop} {Q : Exit → Act → World → Prop} {E : Prop}
    (hg : o.guard = none) (s x : Operand) (t : TypeId) (hop : o.op = Op.call { callee := Callee.builtin Builtin.append, args := #[s, x], argTypes := #[t, t] }) (v u v' : Value) (hs : a.eval s = v) (hx : a.eval x = u)
    (hrun : (Builtin.append_ #[t, t] o.type #[v, u]).run P w = .ok v' w') (hK : K (a.put o.dst v') w') : if Region.wanted o (yielded ops a.tmps) = true then Oper.wp P o a w K Q else E := by
  have hw : Region.wanted o (yielded ops a.tmps) = true := by simp [Region.wanted, hg]
  rw [if_pos hw]
  unfold Oper.wp
  simp [execOp, hop, resolve, invoke, builtin, hs, hx, hrun, Result.andThen]
  exact hK

abbrev ctV (b1 b2 : Nat) : Value := .agg #[.map (some b1), .map (some b2)]

set_option maxRecDepth 100000 in
set_option maxHeartbeats 1000000 in
theorem newContent_any (w : World) : Calls Tryz.prog 40 #[] w fun e w' => ∃ b1 b2, e = .returned (ctV b1 b2) ∧ w.heap.size ≤ b1 ∧ w.heap.size ≤ b2 ∧ b1 < w'.heap.size ∧ b2 < w'.heap.size ∧ (∀ base, b1 < base → b2 < base → CtAt w' base b1 b2 ([], []) []) ∧ Below w.heap.size w w' := by
  have hmm := @run_makeMap Tryz.prog
  have hB : Below w.heap.size w (((w.alloc (.cells #[.map (some (w.heap.size + 1)), .map (some (w.heap.size + 1 + 1))] 88)).alloc (.map #[] 0)).alloc (.map #[] 0)) := (((Below.refl _ _).alloc (Nat.le_refl _) _).alloc (by simp) _).alloc (by simp; omega) _
  have HB : Hid _ := hB
  have HC : Hid (∀ base, w.heap.size + 1 < base → w.heap.size + 1 + 1 < base → CtAt (((w.alloc (.cells #[.map (some (w.heap.size + 1)), .map (some (w.heap.size + 1 + 1))] 88)).alloc (.map #[] 0)).alloc (.map #[] 0)) base (w.heap.size + 1) (w.heap.size + 1 + 1) ([], []) []) := fun base h1 h2 => by
    have m1 := World.ownsMap_made (w.alloc (.cells #[.map (some (w.heap.size + 1)), .map (some (w.heap.size + 1 + 1))] 88)) Tryz.prog 3 hdQ
    have m2 := World.ownsMap_made ((w.alloc (.cells #[.map (some (w.heap.size + 1)), .map (some (w.heap.size + 1 + 1))] 88)).alloc (.map #[] 0)) Tryz.prog 3 (plainElem (H := Unit) Tryz.prog 3)
    have e1 : (w.alloc (.cells #[.map (some (w.heap.size + 1)), .map (some (w.heap.size + 1 + 1))] 88)).heap.size = w.heap.size + 1 := by simp
    have e2 : ((w.alloc (.cells #[.map (some (w.heap.size + 1)), .map (some (w.heap.size + 1 + 1))] 88)).alloc (.map #[] 0)).heap.size = w.heap.size + 1 + 1 := by simp
    rw [e1] at m1
    rw [e2] at m2
    refine ⟨⟨_, _, Gri.made _ _ base (m1.alloc _) h1⟩, ⟨_, Las.made _ _ m2⟩, h2, by omega⟩
  have HS : Hid ((((w.alloc (.cells #[.map (some (w.heap.size + 1)), .map (some (w.heap.size + 1 + 1))] 88)).alloc (.map #[] 0)).alloc (.map #[] 0)).heap.size = w.heap.size + 3) := by show _ = _; simp
  clear hB
  go_enter Tryz.func40, Tryz.ntmps40
  go_wp2
  refine bodyPost_ret (v := ctV (w.heap.size + 1) (w.heap.size + 1 + 1)) (by simp [results, Tryz.results40, go_sem]) rfl ?_
  exact ⟨_, _, rfl, by omega, by omega, by rw [HS.out]; omega, by rw [HS.out]; omega, HC.out, HB.out⟩

set_option maxRecDepth 100000 in
set_option maxHeartbeats 2000000 in
theorem takeRows_any (W : World) (a : Nat → Addr) (hE : EnvD W a) (base b1 b2 : Nat) (c : Ct) (qs : List Int) (q : Int) (t : ByteArray) (h : CtAt W base b1 b2 c qs) (hbase : base ≤ W.heap.size) (hq : 1 ≤ q ∧ q ≤ 1073741824) (ht : t.size ≤ maxLen) (h0 : (dataO t.data.toList).2.1 = 0) (hne : (dataO t.data.toList).1 ≠ []) (hqs : qs.length < 1000000) (hc : c.1.length + (dataO t.data.toList).1.length ≤ 1000000) :
    Calls Tryz.prog 141 #[ctV b1 b2, .int .i64 q, .string t] W fun e w' => e = .returned .nilIface ∧ CtAt w' base b1 b2 (c.1 ++ (dataO t.data.toList).1.map (fun r => (r, q)), c.2) (q :: qs) ∧ But (OfC W base b1 b2) W w' := by
  have hal : Below W.heap.size W (W.alloc (.cells #[.map (some b1), .map (some b2)] 88)) := (Below.refl _ _).alloc (Nat.le_refl _) _
  have hbox : (W.alloc (.cells #[.map (some b1), .map (some b2)] 88)).heap[W.heap.size]? = some (.cells #[.map (some b1), .map (some b2)] 88 (0, 0)) := heap_alloc_new _ _
  have hrd := data_any t (W.alloc (.cells #[.map (some b1), .map (some b2)] 88)) a (hE.below hal) ht
  generalize hD : dataO t.data.toList = D at hrd h0 hne hc ⊢
  have HC : Hid (CtAt (W.alloc (.cells #[.map (some b1), .map (some b2)] 88)) base b1 b2 c qs) := h.below hal
  have hsz : base ≤ (W.alloc (.cells #[.map (some b1), .map (some b2)] 88)).heap.size := Nat.le_trans hbase hal.size
  clear h hD hE
  go_enter Tryz.func141, Tryz.ntmps141
  go_upto_region 1 with fail
  have HA : Hid (Below W.heap.size W (W.alloc (.cells #[.map (some b1), .map (some b2)] 88))) := hal
  clear hal
  generalize W.alloc (.cells #[.map (some b1), .map (some b2)] 88) = W1 at *
  generalize W.heap.size = cb at hbox ⊢
  go_wp2_with fail
  refine hrd.mono ?_
  rintro e w2 ⟨hb2, hp⟩
  clear hrd
  obtain ⟨-, v, rfl, hv⟩ : D.2.1 = 0 ∧ ∃ v, e = .returned (.tuple #[v, .nilIface]) ∧ RowsAt w2 v D.1 := by
    rcases hp with hp | hp | hp
    · exact hp
    · exact absurd h0 hp.1
    · exact absurd h0 hp.1
  obtain ⟨sq, sc, rfl⟩ := hv.form
  have hbd : Below w2.heap.size w2 w2.drew := (Below.refl _ _).drew
  have hbox2 : w2.drew.heap[cb]? = some (.cells #[.map (some b1), .map (some b2)] 88 (0, 0)) := (hb2.block cb (Array.getElem?_eq_some_iff.1 hbox).1).trans hbox
  obtain ⟨u, u', w3, w4, r1, ⟨uq, un, uc, rfl⟩, ⟨vq, vn, vc, rfl⟩, r2, r3, hty, hC4, hB4⟩ := ((HC.out.below hb2).below hbd).addRows (q := q) (Nat.le_trans hsz (Nat.le_trans hb2.size hbd.size)) (by omega) (by omega) (hv.below hbd) hne hqs hc
  have hbox3 := hty _ _ _ _ hbox2 (by decide)
  have HF : Hid (CtAt w4 base b1 b2 (c.1 ++ D.1.map (fun r => (r, q)), c.2) (q :: qs) ∧ But (OfC w2.drew base b1 b2) w2.drew w4 ∧ Below W1.heap.size W1 w2.drew) := ⟨hC4, hB4, hb2.trans (hbd.mono hb2.size)⟩
  have k0 : w2.cell? ⟨cb, 0, none⟩ = some (.map (some b1)) := by
    rw [cell_of_row _ _ _ _ _ _ (show w2.heap[cb]? = _ from hbox2)]; rfl
  have k1 : w2.drew.cell? ⟨cb, 0, none⟩ = some (.map (some b1)) := by
    rw [cell_of_row _ _ _ _ _ _ hbox2]; rfl
  have k2 : w3.cell? ⟨cb, 0, none⟩ = some (.map (some b1)) := by
    rw [cell_of_row _ _ _ _ _ _ hbox3]; rfl
  generalize D.1.length = L at *
  clear hC4 hB4 hty hbox hbox2 hbox3 hv hp hb2 hbd HC
  go_wp2
  go_region_law (refine step_append_run (by rfl) _ _ _ (by rfl) _ _ _ (by rfl) (by rfl) r2 ?_)
  all_goals go_wp2
  all_goals go_ret
  all_goals
    refine ⟨rfl, HF.out.1, ?_⟩
    have h1 : But (OfC W base b1 b2) W w2.drew := But.of_below (HA.out.trans (HF.out.2.2.mono HA.out.size))
    exact ofC_trans h1 HF.out.2.1

theorem max_run (x y : Int) (w : World) : (Builtin.max_ #[3, 3] 3 #[.int .i64 x, .int .i64 y]).run Tryz.prog w = .ok (.int .i64 (max x y)) w := by
  have e : max x y = if y > x then y else x := by split <;> omega
  rw [e]
  simp [Builtin.max_, Builtin.max2]

theorem keyed_snoc (ks : List Int) (q : Int) (n : Nat) (h : n < ks.length) : (ks.take (n + 1)).map (fun z => (z, q)) = (ks.take n).map (fun z => (z, q)) ++ [(ks[n], q)] := by
  rw [List.take_succ_eq_append_getElem h, List.map_append]
  rfl

set_option maxRecDepth 100000 in
set_option maxHeartbeats 2000000 in
theorem takeKeys_any (W : World) (a : Nat → Addr) (hE : EnvD0 W a) (base b1 b2 : Nat) (c : Ct) (qs : List Int) (q : Int) (t : ByteArray) (h : CtAt W base b1 b2 c qs) (hq : 1 ≤ q ∧ q ≤ 1073741824) (ht : t.size ≤ maxLen) (h0 : (goneO t.data.toList).2.1 = 0) (hin : ∀ z ∈ (goneO t.data.toList).1, -9223372036854775808 ≤ z ∧ z ≤ 9223372036854775807) (hc : c.2.length + (goneO t.data.toList).1.length ≤ 1000000) :
    Calls Tryz.prog 140 #[ctV b1 b2, .int .i64 q, .string t] W fun e w' => e = .returned .nilIface ∧ CtAt w' base b1 b2 (c.1, c.2 ++ (goneO t.data.toList).1.map fun z => (z, q)) qs ∧ But (OfC W base b1 b2) W w' := by
  have hal : Below W.heap.size W (W.alloc (.cells #[.map (some b1), .map (some b2)] 88)) := (Below.refl _ _).alloc (Nat.le_refl _) _
  have hbox : (W.alloc (.cells #[.map (some b1), .map (some b2)] 88)).heap[W.heap.size]? = some (.cells #[.map (some b1), .map (some b2)] 88 (0, 0)) := heap_alloc_new _ _
  have hrd := gone_any t (W.alloc (.cells #[.map (some b1), .map (some b2)] 88)) a (hE.below hal) ht
  generalize hD : goneO t.data.toList = D at hrd h0 hin hc ⊢
  obtain ⟨ks, E0⟩ := D
  dsimp only at h0 hin hc ⊢
  have HC : Hid (CtAt (W.alloc (.cells #[.map (some b1), .map (some b2)] 88)) base b1 b2 c qs) := h.below hal
  clear h hD hE
  go_enter Tryz.func140, Tryz.ntmps140
  go_upto_region 1 with fail
  have HA : Hid (Below W.heap.size W (W.alloc (.cells #[.map (some b1), .map (some b2)] 88))) := hal
  clear hal
  generalize W.alloc (.cells #[.map (some b1), .map (some b2)] 88) = W1 at *
  generalize W.heap.size = cb at hbox ⊢
  go_wp2_with fail
  refine hrd.mono ?_
  rintro e w2 ⟨hb2, hp⟩
  clear hrd
  obtain ⟨-, v, rfl, hv, -⟩ : E0.1 = 0 ∧ ∃ v, e = .returned (.tuple #[v, .nilIface]) ∧ KeysAt w2 v ks ∧ NewAt W1 v := by
    rcases hp with hp | hp | hp
    · exact hp
    · exact absurd h0 hp.1
    · exact absurd h0 hp.1
  clear hp h0
  obtain ⟨kq, kc, rfl⟩ := hv.form
  have hC2 := HC.out.below hb2
  have hbox2 : w2.heap[cb]? = some (.cells #[.map (some b1), .map (some b2)] 88 (0, 0)) := (hb2.block cb (Array.getElem?_eq_some_iff.1 hbox).1).trans hbox
  have k0 : w2.cell? ⟨cb, 1, none⟩ = some (.map (some b2)) := by
    rw [cell_of_row _ _ _ _ _ _ hbox2]; rfl
  have HKA : Hid (KeysAt w2 (.slice kq ks.length kc) ks) := hv
  have HB2 : Hid (Below W1.heap.size W1 w2) := hb2
  have HIN : Hid (∀ z ∈ ks, -9223372036854775808 ≤ z ∧ z ≤ 9223372036854775807) := hin
  have hncb := (hC2.noCell k0).2
  obtain ⟨L, hL⟩ : ∃ L, ks.length = L := ⟨_, rfl⟩
  have HL : Hid (ks.length = L) := hL
  rw [hL] at HKA hc ⊢
  have HC2 : Hid (CtAt w2 base b1 b2 c qs) := hC2
  clear hL hv hb2 hin hC2 hbox hbox2 HC
  go_wp2
  go_loopw [18] (fun k wr => ∃ n : Nat, n ≤ L ∧ k = .int .i64 n ∧ CtAt wr base b1 b2 (c.1, c.2 ++ (ks.take n).map fun z => (z, q)) qs ∧ But (fun k => k = b2) w2 wr) (fun k _ => L - (intOf k).toNat)
  case atStart => exact ⟨0, by omega, rfl, by simpa using HC2.out, But.refl _ _⟩
  case round =>
    obtain ⟨n, hn, rfl, hCn, hBn⟩ := hrel
    have HCN : Hid (CtAt wr base b1 b2 (c.1, c.2 ++ (ks.take n).map fun z => (z, q)) qs) := hCn
    have HBN : Hid (But (fun k => k = b2) w2 wr) := hBn
    have k1 : wr.cell? ⟨cb, 1, none⟩ = some (.map (some b2)) := hBn.keep hncb k0
    by_cases hlt : n < L
    · have hltx : n < ks.length := by rw [HL.out]; exact hlt
      rcases HKA.out with ⟨_, _, e, e'⟩ | ⟨b, o, cap2, e, hcells⟩
      · exfalso; have := HL.out; rw [e'] at this; simp at this; omega
      injection e with e1 e2 e3
      subst e1
      clear e2 e3
      have c1 : wr.cell? ⟨b, o + n, none⟩ = some (.int .i64 ks[n]) := hBn.keep (HC2.out.noCell (hcells n hltx)).2 (hcells n hltx)
      clear hcells
      have hi : (n : Int) < (L : Int) := by omega
      obtain ⟨z1, z2⟩ := HIN.out ks[n] (List.getElem_mem _)
      obtain ⟨w4, r1, r2, hC4, hB4⟩ := hCn.addKey (z := ks[n]) (q := q) z1 z2 (by simp only [List.length_append, List.length_map, List.length_take]; omega) (by omega)
      have HNX : Hid (CtAt w4 base b1 b2 (c.1, c.2 ++ (ks.take (n + 1)).map fun z => (z, q)) qs ∧ But (fun k => k = b2) w2 w4) := ⟨by
        rw [keyed_snoc ks q n hltx, ← List.append_assoc]; exact hC4, hBn.trans hB4 fun _ e _ => e⟩
      dsimp only at r1 r2
      have hmx := fun W => max_run (lastC (c.2 ++ (ks.take n).map fun z => (z, q)) ks[n]) q W
      generalize lastC (c.2 ++ (ks.take n).map fun z => (z, q)) ks[n] = lc at r1 r2 hmx
      generalize max lc q = mx at r2 hmx
      generalize ks[n] = z at c1 r1 r2
      clear hC4 hB4 hCn hBn z1 z2 hltx
      go_wp2
      go_roundw
      case rel => exact ⟨n + 1, by omega, by go_num, HNX.out.1, HNX.out.2⟩
      case measure => simp [intOf]; omega
    · obtain rfl : n = L := by omega
      rw [List.take_of_length_le (by rw [HL.out]; omega)] at HCN
      clear hCn hBn
      go_wp2
      go_ret
      refine ⟨rfl, HCN.out, ?_⟩
      have h1 : But (OfC W base b1 b2) W w2 := But.of_below (HA.out.trans (HB2.out.mono HA.out.size))
      exact h1.trans HBN.out fun i e _ => Or.inr (Or.inl e)
end Go.Proofs.YtdhkdjlgmbejnaaGreatDoor
namespace Go.Proofs.YtdhkdjlgmbejnaaGreatDoor
open Go.RowKit Go.Extern.Stop Go.Stop Go.Extern Go.Sort Go.Shelf Go.Lib

theorem obCells_take {w : World} {b o : Nat} {fs : List Ob} (h : ObCells w b o fs) (n : Nat) : ObCells w b o (fs.take n) := fun j hj => by
  rw [List.length_take] at hj
  have := h j (by omega)
  rw [List.getElem_take]
  exact this
theorem obCells_drop {w : World} {b o : Nat} {fs : List Ob} (h : ObCells w b o fs) (n : Nat) : ObCells w b (o + n * 3) (fs.drop n) := fun j hj => by
  rw [List.length_drop] at hj
  have := h (n + j) (by omega)
  rw [List.getElem_drop]
  have e : o + n * 3 + j * 3 = o + (n + j) * 3 := by omega
  rw [e]
  exact this

end Go.Proofs.YtdhkdjlgmbejnaaGreatDoor
