/-
  The contract of the program's Put.
-/
import Derived.Test.YtbdhdlloihkibaaGreatDoorStoPut2
namespace Go.Proofs.YtbdhdlloihkibaaGreatDoor
open Go.RowKit Go.Extern.Stop Go.Stop Go.Extern Go.Sort Go.Shelf Go.Lib

section
variable {w : World} {b : Nat} {mo : Option Nat} {q : ByteArray → Nat} {s : St}

theorem put_end {a : Nat → Addr} {n t : ByteArray} (h : SIn w b mo q s) (hg : getO s.obs n = none) (hl : s.obs.length < 200) (hn : n.size ≤ maxLen) (hE : putE s n t = 0) {w2 w3 : World} {mb : Nat} {e : Ending} (h2 : SIn w2 b (some mb) q s) (hB2 : But (fun k => k = b) w w2) (hmb : mo = some mb ∨ w.heap.size ≤ mb) (hp : WrtP a w2 b (some mb) s t e w3) :
    ∃ w4, (Instr.mapUpdate 64 (.map (some mb)) (.string n) (.pointer (some ⟨w3.heap.size, 0, none⟩))).run Tryz.prog (w3.alloc (.cells #[.string (t.extract 0 (wrtS s t.size).1), .int .i64 s.day] 101)).drew = .ok () w4 ∧
      w3.cell? ⟨b, 0, none⟩ = some (.map (some mb)) ∧ w3.cell? ⟨b, 2, none⟩ = some (.int .i64 s.day) ∧ (w3.alloc (.cells #[.string (t.extract 0 (wrtS s t.size).1), .int .i64 s.day] 101)).drew.cell? ⟨b, 0, none⟩ = some (.map (some mb)) ∧ (w3.alloc (.cells #[.string (t.extract 0 (wrtS s t.size).1), .int .i64 s.day] 101)).drew.cell? ⟨b, 2, none⟩ = some (.int .i64 s.day) ∧ ∀ w5, Below w4.heap.size w4 w5 → SPost SAtP w (.pointer (some ⟨b, 0, none⟩)) (fpS b mo q s.obs) (putS s n t) w5 := by
  obtain ⟨_, hsc, hB3⟩ := hp
  obtain ⟨g1, g2, g3⟩ := wrtS_obs s t.size
  have hne := getO_none.1 hg
  obtain ⟨mb', e', hm2⟩ : ∃ mb', some mb = some mb' ∧ PtrMap w2 mb' q s.obs := by
    rcases h2.map with ⟨e, _⟩ | h
    · cases e
    · exact h
  cases e'
  have hmb2 : mb ≠ b := sc_off_map h2.block hm2
  have hm3 : PtrMap w3 mb q s.obs := hm2.keep (hB3.block mb hm2.lt hmb2)
  have hal : Below w3.heap.size w3 (w3.alloc (.cells #[.string (t.extract 0 (wrtS s t.size).1), .int .i64 s.day] 101)).drew := ((Below.refl _ _).alloc (Nat.le_refl _) _).drew
  have hm3' : PtrMap (w3.alloc (.cells #[.string (t.extract 0 (wrtS s t.size).1), .int .i64 s.day] 101)).drew mb q s.obs := hm3.keep (hal.block mb hm3.lt)
  obtain ⟨w4, hrun, hm4, hturn⟩ := hm3'.store h.rise (by unfold maxLen; omega) hn hne (t.extract 0 (wrtS s t.size).1) s.day w3.heap.size
  have hB4 := But.of_turned hturn
  refine ⟨w4, hrun, hsc.cells.1, hsc.cells.2.2.1, below_keep hal hsc.cells.1, below_keep hal hsc.cells.2.2.1, fun w5 hb5 => ?_⟩
  have hbl3 := hsc.lt
  have hml3 := hm3.lt
  have old4 : ∀ k, k < w3.heap.size → k ≠ mb → w4.heap[k]? = w3.heap[k]? := fun k hk hne => (hB4.block k (Nat.lt_of_lt_of_le hk hal.size) hne).trans (hal.block k hk)
  have hin : SIn w4 b (some mb) (setQ q n w3.heap.size) { (wrtS s t.size).2 with obs := insO s.obs (n, t.extract 0 (wrtS s t.size).1, s.day) } := by
    refine h2.added hne ?_ (wrtS_cut1 h.cut) hm4 ?_ fun o ho => ?_
    · rw [g2, g3]
      exact (old4 b hbl3 (fun e => hmb2 e.symm)).trans hsc
    · exact (hB4.block w3.heap.size (by simp [World.drew]) (fun e => by omega)).trans (heap_alloc_new w3 _)
    · have hl2 := h2.objs.lt ho
      have h3 := hB3.block _ hl2 (sc_off_obj h2.block h2.objs ho)
      exact (old4 _ (Nat.lt_of_lt_of_le hl2 hB3.size) (map_off_obj hm2 h2.objs ho)).trans h3
  have hS : putS s n t = { (wrtS s t.size).2 with obs := insO s.obs (n, t.extract 0 (wrtS s t.size).1, s.day) } := by
    unfold putS
    rw [hE, if_neg (by decide), ext_bytes]
  rw [hS]
  have hsz : w.heap.size ≤ w3.heap.size := Nat.le_trans hB2.size hB3.size
  have hbut : But (fpS b mo q s.obs) w w4 := by
    have c1 : But (fpS b mo q s.obs) w w2 := hB2.mono fun k e => Or.inl e
    have c2 : But (fpS b mo q s.obs) w w3 := c1.trans hB3 fun i e _ => Or.inl e
    have c3 : But (fpS b mo q s.obs) w (w3.alloc (.cells #[.string (t.extract 0 (wrtS s t.size).1), .int .i64 s.day] 101)).drew := c2.trans (Q := fun _ => False) (But.of_below hal) fun _ e => e.elim
    refine c3.trans hB4 fun i e hi => ?_
    rcases hmb with hmb | hmb
    · exact Or.inr (Or.inl (by rw [hmb, e]))
    · omega
  refine spost_of (hin.below hb5) (hbut.trans (Q := fun _ => False) (But.of_below hb5) fun _ e => e.elim) fun k hk => ?_
  rcases hk with hk | hk | ⟨o, ho, hk⟩
  · exact Or.inl (Or.inl hk)
  · rcases hmb with hmb | hmb
    · exact Or.inl (Or.inr (Or.inl (by rw [hmb]; exact hk)))
    · cases hk
      exact Or.inr hmb
  · rcases insO_mem.1 ho with rfl | hmo
    · rw [setQ_same] at hk
      exact Or.inr (by omega)
    · rw [setQ_other _ _ (hne o hmo)] at hk
      exact Or.inl (Or.inr (Or.inr ⟨o, hmo, hk⟩))

theorem putE_zero {n t : ByteArray} (h : putE s n t = 0) : s.off = false ∧ getO s.obs n = none ∧ s.obs.length < 200 := by
  unfold putE at h
  split at h
  · cases h
  · split at h
    · cases h
    · split at h
      · cases h
      · rename_i h1
        split at h
        · cases h
        · rename_i h2
          split at h
          · cases h
          · rename_i h3
            refine ⟨by simpa using h1, by simpa using h2, ?_⟩
            omega

theorem EnvO.but {w w' : World} {a : Nat → Addr} {mo : Option Nat} (h : EnvO w a) (hB : But (fun k => k = b) w w') (hc : w.cell? ⟨b, 0, none⟩ = some (.map mo)) : EnvO w' a := by
  have g : ∀ {g : Nat} {t : TypeId} {x : Value}, w.cell? ⟨g, 0, none⟩ = some (.iface t x) → w'.cell? ⟨g, 0, none⟩ = some (.iface t x) := fun {g t x} h => hB.keep (fun e => by subst e; rw [hc] at h; cases h) h
  exact {
    bound := g h.bound
    name := g h.name
    miss := g h.miss
    exist := g h.exist
    full := g h.full
    stale := g h.stale
    off := g h.off }
theorem SIn.made {w : World} (h : SIn w b none q s) : SIn ((w.alloc (.map #[] 0)).setCell ⟨b, 0, none⟩ (.map (some w.heap.size))) b (some w.heap.size) q s ∧ But (fun k => k = b) w ((w.alloc (.map #[] 0)).setCell ⟨b, 0, none⟩ (.map (some w.heap.size))) := by
  have hl := h.block.lt
  have hB0 : But (fun k => k = b) w (w.alloc (.map #[] 0)) := But.of_below ((Below.refl _ _).alloc (Nat.le_refl _) _)
  have hsc : SC (w.alloc (.map #[] 0)) b none s.head s.day s.off (waitsB s) (leftI s) := (Below.heap_alloc _ _ b hl).trans h.block
  have ho : s.obs = [] := by
    rcases h.map with ⟨_, e⟩ | ⟨mb, e, _⟩
    · exact e
    · cases e
  refine ⟨⟨hsc.objs _, Or.inr ⟨_, rfl, ?_⟩, by rw [ho]; exact fun _ h => (nomatch h), h.rise, h.cut⟩, hB0.setCell (Or.inl rfl) _⟩
  rw [ho]
  refine (PtrMap.made w q).keep ?_
  exact Below.heap_setCell _ ⟨b, 0, none⟩ _ _ (by show w.heap.size ≠ b; omega)

theorem eq_map0 (w : World) : (binOp .eql 64 (.map none) (.map none)).run Tryz.prog w = .ok (.bool true) w := by
  kernel_rfl
theorem eq_map1 (w : World) (k : Nat) : (binOp .eql 64 (.map (some k)) (.map none)).run Tryz.prog w = .ok (.bool false) w := by
  kernel_rfl
set_option maxRecDepth 100000 in
set_option maxHeartbeats 4000000 in
theorem sput_any (h : SIn w b mo q s) (hk : Keeps s) {a : Nat → Addr} (he : EnvO w a) (n t : ByteArray) (hn : n.size ≤ 1000) (ht : t.size ≤ 100000) :
    Calls Tryz.prog 35 #[.pointer (some ⟨b, 0, none⟩), .string n, .string t] w fun e w' => e = .returned (errV a (putC s n t)) ∧ SPost SAtP w (.pointer (some ⟨b, 0, none⟩)) (fpS b mo q s.obs) (putS s n t) w' := by
  have hmp := mayPut_any h hk he n t hn ht
  by_cases hE : putE s n t = 0
  · obtain ⟨hoff, hg, hl⟩ := putE_zero hE
    have hC : putC s n t = if (wrtS s t.size).2.off = true then 12 else 0 := by unfold putC; rw [hE]; rfl
    rw [hC]
    rw [hE] at hmp
    have HE : Hid (EnvO w a) := he
    have HH : Hid (SIn w b mo q s) := h
    have HEND : Hid (∀ (w2 w3 : World) (mb : Nat) (e : Ending), SIn w2 b (some mb) q s → But (fun k => k = b) w w2 → (mo = some mb ∨ w.heap.size ≤ mb) → WrtP a w2 b (some mb) s t e w3 → ∃ w4, (Instr.mapUpdate 64 (.map (some mb)) (.string n) (.pointer (some ⟨w3.heap.size, 0, none⟩))).run Tryz.prog (w3.alloc (.cells #[.string (t.extract 0 (wrtS s t.size).1), .int .i64 s.day] 101)).drew = .ok () w4 ∧
      w3.cell? ⟨b, 0, none⟩ = some (.map (some mb)) ∧ w3.cell? ⟨b, 2, none⟩ = some (.int .i64 s.day) ∧ (w3.alloc (.cells #[.string (t.extract 0 (wrtS s t.size).1), .int .i64 s.day] 101)).drew.cell? ⟨b, 0, none⟩ = some (.map (some mb)) ∧ (w3.alloc (.cells #[.string (t.extract 0 (wrtS s t.size).1), .int .i64 s.day] 101)).drew.cell? ⟨b, 2, none⟩ = some (.int .i64 s.day) ∧ ∀ w5, Below w4.heap.size w4 w5 → SPost SAtP w (.pointer (some ⟨b, 0, none⟩)) (fpS b mo q s.obs) (putS s n t) w5) := fun w2 w3 mb e h2 hB2 hmb hp => put_end h hg hl (by unfold maxLen; omega) hE h2 hB2 hmb hp
    have HWR : Hid (∀ (w2 : World) (mb : Nat), SIn w2 b (some mb) q s → EnvO w2 a → Calls Tryz.prog 68 #[.pointer (some ⟨b, 3, none⟩), .string t] w2 (WrtP a w2 b (some mb) s t)) := fun w2 mb h2 he2 => swrite_any h2.block he2 t (by unfold maxLen; omega) hoff h2.cut
    have HX : Hid (∀ (w2 : World) (mb : Nat), SIn w2 b (some mb) q s → EnvO w2 a → But (fun k => k = b) w w2 → (mo = some mb ∨ w.heap.size ≤ mb) → Calls Tryz.prog 68 #[.pointer (some ⟨b, 3, none⟩), .string t] w2 fun e w3 => e = .returned (.tuple #[.string (t.extract 0 (wrtS s t.size).1), errV a (if (wrtS s t.size).2.off = true then 12 else 0)]) ∧ ∃ w4, (Instr.mapUpdate 64 (.map (some mb)) (.string n) (.pointer (some ⟨w3.heap.size, 0, none⟩))).run Tryz.prog (w3.alloc (.cells #[.string (t.extract 0 (wrtS s t.size).1), .int .i64 s.day] 101)).drew = .ok () w4 ∧
      w3.cell? ⟨b, 0, none⟩ = some (.map (some mb)) ∧ w3.cell? ⟨b, 2, none⟩ = some (.int .i64 s.day) ∧ (w3.alloc (.cells #[.string (t.extract 0 (wrtS s t.size).1), .int .i64 s.day] 101)).drew.cell? ⟨b, 0, none⟩ = some (.map (some mb)) ∧ (w3.alloc (.cells #[.string (t.extract 0 (wrtS s t.size).1), .int .i64 s.day] 101)).drew.cell? ⟨b, 2, none⟩ = some (.int .i64 s.day) ∧ ∀ w5, Below w4.heap.size w4 w5 → SPost SAtP w (.pointer (some ⟨b, 0, none⟩)) (fpS b mo q s.obs) (putS s n t) w5) := fun w2 mb h2 he2 hB2 hmb => (HWR.out w2 mb h2 he2).mono fun e w3 hp => ⟨hp.1, HEND.out w2 w3 mb e h2 hB2 hmb hp⟩
    generalize putS s n t = SP at HX ⊢
    generalize errV a (if (wrtS s t.size).2.off = true then 12 else 0) = ev at HX ⊢
    generalize t.extract 0 (wrtS s t.size).1 = tx at HX
    generalize s.day = dd at HX
    have hmm := @run_makeMap Tryz.prog
    have hq0 := eq_map0
    have hq1 := eq_map1
    have hmp2 : Calls Tryz.prog 67 #[.pointer (some ⟨b, 0, none⟩), .string n, .string t] w fun e w' => e = .returned .nilIface ∧ Below w.heap.size w w' := hmp
    clear hmp hk h he hE hC hoff hg hl HEND HWR hn ht
    cases mo with
    | none =>
      go_enter Tryz.func35, Tryz.ntmps35
      go_wp2_with (first | (go_at_call 67; refine hmp2.mono ?_; rintro e w1 ⟨rfl, hb⟩; have h1 := HH.out.below hb; obtain ⟨c0, _, _, _, _, _, hf⟩ := h1.block.cells; have f0 := hf 0; have e1 := HE.out.below hb; obtain ⟨h2, hB2⟩ := h1.made; have hcw := HX.out _ _ h2 (e1.but hB2 c0) ((But.of_below hb).trans hB2 fun _ e _ => e) (Or.inr hb.size); have hsc' := (h1.below ((Below.refl _ _).alloc (Nat.le_refl _) (.map #[] 0))).block.cells; have c0' := hsc'.1; have f0' := hsc'.2.2.2.2.2.2 0; clear hsc' h1 hf e1 h2 hB2) | (go_at_call 68; refine hcw.mono ?_; rintro e w3 ⟨rfl, w4, hrun, k0, k2, k0', k2', hfin⟩))
      go_region
      all_goals go_wp2
      all_goals go_ret
      all_goals exact ⟨rfl, hfin _ (Below.refl _ _)⟩
    | some mb =>
      go_enter Tryz.func35, Tryz.ntmps35
      go_wp2_with (first | (go_at_call 67; refine hmp2.mono ?_; rintro e w1 ⟨rfl, hb⟩; have h1 := HH.out.below hb; obtain ⟨c0, _, _, _, _, _, hf⟩ := h1.block.cells; have f0 := hf 0; have e1 := HE.out.below hb; have hcw := HX.out _ _ h1 e1 (But.of_below hb) (Or.inl rfl); clear h1 hf e1) | (go_at_call 68; refine hcw.mono ?_; rintro e w3 ⟨rfl, w4, hrun, k0, k2, k0', k2', hfin⟩))
      go_region
      all_goals go_wp2
      all_goals go_ret
      all_goals exact ⟨rfl, hfin _ (Below.refl _ _)⟩
  · obtain ⟨k, hk'⟩ : ∃ k, putE s n t = k + 1 := ⟨putE s n t - 1, by omega⟩
    have hC : putC s n t = k + 1 := by unfold putC; rw [if_pos hE, hk']
    have hT : putS s n t = s := by unfold putS; rw [if_pos hE]
    rw [hC, hT]
    rw [hk'] at hmp
    have hmp2 : Calls Tryz.prog 67 #[.pointer (some ⟨b, 0, none⟩), .string n, .string t] w fun e w' => e = .returned (.iface 201 (.pointer (some (a k)))) ∧ SPost SAtP w (.pointer (some ⟨b, 0, none⟩)) (fpS b mo q s.obs) s w' := hmp.mono fun e w' ⟨he', hb⟩ => ⟨he', spost_of (h.below hb) (But.of_below hb) fun k hk => Or.inl hk⟩
    clear hmp hk h he hE hC hT hk'
    go_enter Tryz.func35, Tryz.ntmps35
    go_wp2_with (go_at_call 67; refine hmp2.mono ?_; rintro e w1 ⟨rfl, hp⟩)
    go_ret
    exact ⟨rfl, hp⟩
end
end Go.Proofs.YtbdhdlloihkibaaGreatDoor
