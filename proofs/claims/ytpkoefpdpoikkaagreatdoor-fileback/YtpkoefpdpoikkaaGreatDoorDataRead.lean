/-
  The contract of data.readHead: the four numbers of a head's line.
-/
import Derived.Test.YtpkoefpdpoikkaaGreatDoorDataLines
namespace Go.Proofs.YtpkoefpdpoikkaaGreatDoor
open Go.RowKit Go.Extern.Stop Go.Stop Go.Extern Go.Sort Go.Shelf Go.Lib

structure EnvD (w : World) (a : Nat → Addr) : Prop where
  env : Env w a
  shape : w.cell? ⟨9, 0, none⟩ = some (.iface 289 (.pointer (some (a 2))))
  full : w.cell? ⟨4, 0, none⟩ = some (.iface 289 (.pointer (some (a 7))))
  order : w.cell? ⟨8, 0, none⟩ = some (.iface 289 (.pointer (some (a 8))))
  sum : w.cell? ⟨7, 0, none⟩ = some (.iface 289 (.pointer (some (a 9))))

theorem EnvD.below {w w' : World} {a : Nat → Addr} (h : EnvD w a) (hb : Below w.heap.size w w') : EnvD w' a :=
  ⟨h.env.below hb, below_keep hb h.shape, below_keep hb h.full, below_keep hb h.order, below_keep hb h.sum⟩

structure EnvD0 (w : World) (a : Nat → Addr) : Prop where
  env : Env0 w a
  shape : w.cell? ⟨9, 0, none⟩ = some (.iface 289 (.pointer (some (a 2))))
  full : w.cell? ⟨4, 0, none⟩ = some (.iface 289 (.pointer (some (a 7))))
  order : w.cell? ⟨8, 0, none⟩ = some (.iface 289 (.pointer (some (a 8))))
  sum : w.cell? ⟨7, 0, none⟩ = some (.iface 289 (.pointer (some (a 9))))

theorem EnvD0.below {w w' : World} {a : Nat → Addr} (h : EnvD0 w a) (hb : Below w.heap.size w w') : EnvD0 w' a :=
  ⟨h.env.below hb, below_keep hb h.shape, below_keep hb h.full, below_keep hb h.order, below_keep hb h.sum⟩

theorem EnvD.weak {w : World} {a : Nat → Addr} (h : EnvD w a) : EnvD0 w a := ⟨h.env.weak, h.shape, h.full, h.order, h.sum⟩

theorem keys_perm {xs ys : List Rw} (h : xs.Perm ys) : endsZ (keysR xs) = endsZ (keysR ys) := ends_perm (h.map _)

theorem sort_ok {xs : List Rw} (h : ∀ x ∈ xs, rowE x = 0) : ∀ x ∈ sortR xs, rowE x = 0 := fun x hx => h x ((sortR_perm xs).mem_iff.1 hx)

theorem sort_rise (xs : List Rw) : (sortR xs).Pairwise (fun x y => ltOf cfR y x = false) := (sortR_sorted xs).imp fun {a b} h => by simpa using h

set_option maxRecDepth 100000 in
set_option maxHeartbeats 4000000 in
theorem make_full (q : Option Addr) (n cap : Nat) (w : World) (a : Nat → Addr) (h : EnvD w a) (hn : 40 < n) (hl : n ≤ maxLen) :
    Calls Tryz.prog 16 #[.slice q n cap] w fun e w' => e = .returned (.tuple #[.string ⟨#[]⟩, errV a 8]) ∧ Below w.heap.size w w' := by
  unfold maxLen at hl
  have hf := h.full
  have hi : (40 : Int) < (n : Int) := by omega
  simp only [errV]
  go_enter Tryz.func16, Tryz.ntmps16
  go_wp2
  go_quiet (fail)
  go_wp2
  go_ret2
  exact ⟨rfl, below_drewN (Below.refl _ _) nq⟩

set_option maxRecDepth 100000 in
set_option maxHeartbeats 4000000 in
theorem make_any (q : Option Addr) (cap : Nat) (xs : List Rw) (w : World) (a : Nat → Addr) (h : EnvD w a) (hx : RowsAt w (.slice q xs.length cap) xs) (hl : xs.length ≤ 40) (hp : ∀ x ∈ xs, x.1.size ≤ 30)
    (m : Nat) (hm : m ≤ xs.length) (hgood : ∀ i (h : i < xs.length), i < m → rowE xs[i] = 0) (hend : ∀ (h : m < xs.length), rowE xs[m] ≠ 0) :
    Calls Tryz.prog 16 #[.slice q xs.length cap] w fun e w' => (m = xs.length ∧ e = .returned (.tuple #[.string (bytesOf (fileOf (sortR xs))), .nilIface]) ∧ Below w.heap.size w w') ∨
      (∃ h : m < xs.length, ∃ fb, e = .returned (.tuple #[.string ⟨#[]⟩, .iface 108 (.pointer (some ⟨fb, 0, none⟩))]) ∧ w'.cell? ⟨fb, 0, none⟩ = some (.int .i64 m) ∧ w'.cell? ⟨fb, 1, none⟩ = some (errV a (rowE xs[m])) ∧ Below w.heap.size w w') := by
  obtain ⟨L, hL⟩ : ∃ L, xs.length = L := ⟨_, rfl⟩
  have HX : Hid (xs.length = L) := hL
  have HGOOD : Hid (∀ i (h : i < xs.length), i < m → rowE xs[i] = 0) := hgood
  have HEND : Hid (∀ (h : m < xs.length), rowE xs[m] ≠ 0) := hend
  rw [hL] at hx hl hm
  have harg : (Value.slice q xs.length cap) = .slice q L cap := by rw [hL]
  rw [harg]
  clear hL hgood hend harg
  have hi40 : ¬ (40 : Int) < (L : Int) := by omega
  go_enter Tryz.func16, Tryz.ntmps16
  go_wp2
  go_loopw [13] (fun k wr => ∃ n : Nat, n ≤ m ∧ k = .int .i64 n ∧ Below w.heap.size w wr) (fun k _ => L - (intOf k).toNat)
  case atStart => exact ⟨0, by omega, rfl, Below.refl _ _⟩
  case round =>
    obtain ⟨n, hn, rfl, hb⟩ := hrel
    by_cases hlt : n < L
    · have hltx : n < xs.length := by rw [HX.out]; exact hlt
      have hrows := hx.below hb
      rcases hrows with ⟨_, _, e, e'⟩ | ⟨b, o, cap2, e, hcells⟩
      · exfalso; have := HX.out; rw [e'] at this; simp at this; omega
      injection e with e1 e2 e3
      subst e1
      clear e2 e3
      obtain ⟨c1, c2, c3⟩ := hcells n hltx
      clear hcells
      have hi : (n : Int) < (L : Int) := by omega
      have hrp := hp _ (List.getElem_mem hltx)
      have hck := fun W (hW : Env W a) => check_any xs[n] W a hW (by unfold maxLen; omega)
      by_cases hnm : n < m
      · have hrok := HGOOD.out n hltx hnm
        rw [hrok] at hck
        simp only [errV] at hck
        generalize xs[n] = x at c1 c2 c3 hck
        obtain ⟨xp, xk, xv⟩ := x
        dsimp only at c1 c2 c3 hck
        have hal : Below wr.heap.size wr (wr.alloc (.cells #[.string xp, .int .i64 xk, .int .i64 xv] 41)) := (Below.refl _ _).alloc (Nat.le_refl _) _
        have hb2 : Below w.heap.size w (wr.alloc (.cells #[.string xp, .int .i64 xk, .int .i64 xv] 41)) := hb.trans (hal.mono hb.size)
        have hck2 := hck _ (h.env.below hb2)
        clear hck
        go_wp2_with fail
        refine hck2.mono ?_
        rintro e w3 ⟨rfl, hb3⟩
        clear hck2 c1 c2 c3
        have hb4 : Below w.heap.size w w3 := hb2.trans (hb3.mono hb2.size)
        go_wp2
        go_roundw
        case rel => exact ⟨n + 1, by omega, by go_num, hb4⟩
        case measure => simp [intOf]; omega
      · obtain rfl : n = m := by omega
        have hE := HEND.out hltx
        obtain ⟨E, hEE⟩ : ∃ E, rowE xs[n] = E + 1 := ⟨rowE xs[n] - 1, by omega⟩
        have HEE : Hid (rowE xs[n] = E + 1) := hEE
        rw [hEE] at hck
        simp only [errV] at hck
        clear hEE hE hrp
        generalize xs[n].1 = xp at c1 hck
        generalize xs[n].2.1 = xk at c2 hck
        generalize xs[n].2.2 = xv at c3 hck
        have hal : Below wr.heap.size wr (wr.alloc (.cells #[.string xp, .int .i64 xk, .int .i64 xv] 41)) := (Below.refl _ _).alloc (Nat.le_refl _) _
        have hb2 : Below w.heap.size w (wr.alloc (.cells #[.string xp, .int .i64 xk, .int .i64 xv] 41)) := hb.trans (hal.mono hb.size)
        have hck2 := hck _ (h.env.below hb2)
        clear hck
        go_wp2_with fail
        refine hck2.mono ?_
        rintro e w3 ⟨rfl, hb3⟩
        clear hck2 c1 c2 c3
        have hb4 : Below w.heap.size w w3 := hb2.trans (hb3.mono hb2.size)
        have hb5 : Below w.heap.size w (w3.alloc (.cells #[.int .i64 n, .iface 289 (.pointer (some (a E)))] 110)) := hb4.alloc hb4.size _
        go_wp2
        go_ret2
        exact Or.inr ⟨hltx, w3.heap.size, rfl, by simp, by rw [HEE.out]; simp [errV], hb5⟩
    · have hnm : n = m := by omega
      have hmL : m = L := by omega
      subst hnm
      have hall : ∀ x ∈ xs, rowE x = 0 := fun x hxm => by
        obtain ⟨i, hi, e⟩ := List.mem_iff_getElem.1 hxm
        rw [← e]
        exact HGOOD.out i hi (by rw [hmL, ← HX.out]; exact hi)
      have hsr := sort_any (.slice q L cap) xs wr (hx.below hb) (by rw [HX.out]; omega)
      clear hlt
      go_wp2_with fail
      refine hsr.mono ?_
      rintro e w1 ⟨v1, rfl, hv1, hb1⟩
      clear hsr
      have hB1 : Below w.heap.size w w1 := hb.trans (hb1.mono hb.size)
      have hsok := sort_ok hall
      have hwl := writeRows_any ⟨#[100, 97, 116, 97]⟩ (by decide) v1 (sortR xs) w1 a (h.env.below hB1) hv1 (by rw [sortR_len, HX.out]; omega) hsok
      have HF : Hid (bytesOf (headL (⟨#[100, 97, 116, 97]⟩ : ByteArray).data.toList (sortR xs).length (endsZ (keysR (sortR xs))).1 (endsZ (keysR (sortR xs))).2 (sumL (linesL (sortR xs))) ++ 10 :: linesL (sortR xs)) = bytesOf (fileOf (sortR xs))) := rfl
      rw [HF.out] at hwl
      obtain ⟨q1, cap1, rfl⟩ := hv1.form
      clear hsok hv1 hall HF
      obtain ⟨fB, hfB⟩ : ∃ fB, bytesOf (fileOf (sortR xs)) = fB := ⟨_, rfl⟩
      have HFB : Hid (bytesOf (fileOf (sortR xs)) = fB) := hfB
      rw [hfB] at hwl
      clear hfB
      generalize (sortR xs).length = L1 at hwl ⊢
      go_wp2_with fail
      refine hwl.mono ?_
      rintro e w2 ⟨rfl, hb2⟩
      clear hwl
      go_wp2
      go_ret2
      exact Or.inl ⟨hmL.trans HX.out.symm, by rw [HFB.out]; rfl, hB1.trans (hb2.mono hB1.size)⟩
end Go.Proofs.YtpkoefpdpoikkaaGreatDoor
namespace Go.Proofs.YtpkoefpdpoikkaaGreatDoor
open Go.RowKit Go.Extern.Stop Go.Stop Go.Extern Go.Sort Go.Shelf Go.Lib

theorem headO_five {Kw l k A B C D : List UInt8} (h : words l = [k, A, B, C, D]) : headO Kw l = if k = Kw then (match numO A, numO B, numO C, numO D with
    | some a, some b, some c, some d => some (a, b, c, d)
    | _, _, _, _ => none) else none := by
  unfold headO; rw [h]; rfl
theorem headO_other {Kw l : List UInt8} (h : (words l).length ≠ 5) : headO Kw l = none := by
  unfold headO
  split
  · rename_i e; rw [e] at h; simp at h
  · rfl

theorem five_of {α : Type} {ts : List α} (h : ts.length = 5) : ∃ a b c d e, ts = [a, b, c, d, e] := by
  match ts, h with
  | [a, b, c, d, e], _ => exact ⟨a, b, c, d, e, rfl⟩

theorem eqBB {s t : ByteArray} (h : s.data.toList = t.data.toList) : (s.toList == t.toList) = true := by
  rw [ByteArray.toList_eq, ByteArray.toList_eq]; simpa using h
theorem neBB {s t : ByteArray} (h : s.data.toList ≠ t.data.toList) : (s.toList == t.toList) = false := by
  rw [ByteArray.toList_eq, ByteArray.toList_eq]; simpa using h

def headR (K l : List UInt8) : (Int × Int × Int) × Int × Bool := match headO K l with
  | some (n, lo, hi, sum) => ((n, lo, hi), sum, true)
  | none => ((0, 0, 0), 0, false)

set_option maxRecDepth 100000 in
set_option maxHeartbeats 4000000 in
theorem readHead_any (kb s : ByteArray) (w : World) (a : Nat → Addr) (h : Env0 w a) (hs : s.size ≤ 100000) :
    Calls Tryz.prog 209 #[.string kb, .string s] w fun e w' => e = .returned (.tuple #[.agg #[.int .i64 (headR kb.data.toList s.data.toList).1.1, .int .i64 (headR kb.data.toList s.data.toList).1.2.1, .int .i64 (headR kb.data.toList s.data.toList).1.2.2], .int .i64 (headR kb.data.toList s.data.toList).2.1, .bool (headR kb.data.toList s.data.toList).2.2]) ∧ Below w.heap.size w w' := by
  have hal : Below w.heap.size w (w.alloc (.cells #[.int .i64 0, .int .i64 0, .int .i64 0] 160)) := (Below.refl _ _).alloc (Nat.le_refl _) _
  have hsp := splitTx_any s _ a (h.below hal) (by omega)
  have hblk := heap_alloc_new w (.cells #[.int .i64 0, .int .i64 0, .int .i64 0] 160)
  have hwl := words_len s.data.toList
  go_enter Tryz.func209, Tryz.ntmps209
  go_wp2_with fail
  generalize hWA : w.alloc (.cells #[.int .i64 0, .int .i64 0, .int .i64 0] 160) = WA at hal hsp hblk ⊢
  refine hsp.mono ?_
  rintro e w1 ⟨v1, ts, rfl, hts, htm, hb1⟩
  clear hsp
  have hB1 : Below w.heap.size w w1 := hal.trans (hb1.mono hal.size)
  have hblk1 : w1.heap[w.heap.size]? = some (.cells #[.int .i64 0, .int .i64 0, .int .i64 0] 160 (0, 0)) := (hb1.block _ (lt_of_block hblk)).trans hblk
  clear hblk hb1 hal hWA
  have bad : ∀ W : World, Below w.heap.size w W → W.heap[w.heap.size]? = some (.cells #[.int .i64 0, .int .i64 0, .int .i64 0] 160 (0, 0)) → (W.cell? ⟨w.heap.size, 0, none⟩ = some (.int .i64 0) ∧ W.cell? ⟨w.heap.size, 1, none⟩ = some (.int .i64 0) ∧ W.cell? ⟨w.heap.size, 2, none⟩ = some (.int .i64 0) ∧ ∀ o, W.frozen? ⟨w.heap.size, o, none⟩ = false) := fun W _ hW =>
    ⟨by rw [cell_of_row _ _ _ _ _ _ hW]; rfl, by rw [cell_of_row _ _ _ _ _ _ hW]; rfl, by rw [cell_of_row _ _ _ _ _ _ hW]; rfl, fun o => frozen_of_row _ _ _ _ _ hW⟩
  have BAD : Hid (∀ W : World, Below w.heap.size w W → W.heap[w.heap.size]? = some (.cells #[.int .i64 0, .int .i64 0, .int .i64 0] 160 (0, 0)) → (W.cell? ⟨w.heap.size, 0, none⟩ = some (.int .i64 0) ∧ W.cell? ⟨w.heap.size, 1, none⟩ = some (.int .i64 0) ∧ W.cell? ⟨w.heap.size, 2, none⟩ = some (.int .i64 0) ∧ ∀ o, W.frozen? ⟨w.heap.size, o, none⟩ = false)) := bad
  have HBLK : Hid (w1.heap[w.heap.size]? = some (.cells #[.int .i64 0, .int .i64 0, .int .i64 0] 160 (0, 0))) := hblk1
  clear bad hblk1
  by_cases h5 : ts.length = 5
  · obtain ⟨K, A, B, C, D, rfl⟩ := five_of h5
    have hw : words s.data.toList = [K.data.toList, A.data.toList, B.data.toList, C.data.toList, D.data.toList] := by rw [← htm]; rfl
    have hf := headO_five (Kw := kb.data.toList) hw
    have hwz : ∀ t ∈ [K, A, B, C, D], t.size ≤ maxLen := fun t ht => by
      have := hwl t.data.toList (by rw [← htm]; exact List.mem_map.2 ⟨t, ht, rfl⟩)
      rw [size_list, size_list] at this
      unfold maxLen; omega
    have HF : Hid (headO kb.data.toList s.data.toList = if K.data.toList = kb.data.toList then (match numO A.data.toList, numO B.data.toList, numO C.data.toList, numO D.data.toList with
      | some a, some b, some c, some d => some (a, b, c, d)
      | _, _, _, _ => none) else none) := hf
    obtain ⟨b, rfl, hcell⟩ := hts
    have c0 := hcell 0 (by simp)
    simp only [List.getElem_cons_zero] at c0
    have HCELL : Hid (∀ j (h : j < [K, A, B, C, D].length), w1.cell? ⟨b, j, none⟩ = some (.string [K, A, B, C, D][j])) := hcell
    clear hf hw htm hwl hcell h5
    simp only [List.length_cons, List.length_nil, Nat.zero_add, Nat.reduceAdd]
    by_cases hk : K.data.toList = kb.data.toList
    · have hkb := eqBB hk
      have hnm := numbers_any b 1 4 [A, B, C, D] w1 a (h.below hB1) (fun j hj => by
        have hj' : j + 1 < [K, A, B, C, D].length := by simp at hj ⊢; omega
        have := HCELL.out (j + 1) hj'
        rw [Nat.add_comm 1 j]
        simpa using this) (fun t ht => hwz t (List.mem_cons_of_mem _ ht)) (by simp)
      simp only [List.length_cons, List.length_nil, Nat.zero_add, Nat.reduceAdd] at hnm
      go_wp2_with fail
      refine hnm.mono ?_
      rintro e w3 ⟨hres, hb3⟩
      clear hnm c0
      have hB3 : Below w.heap.size w w3 := hB1.trans (hb3.mono hB1.size)
      obtain ⟨y0, y1, y2, fz⟩ := BAD.out w3 hB3 ((hb3.block _ (lt_of_block HBLK.out)).trans HBLK.out)
      have s0 := setCell_self y0
      have s1 := setCell_self y1
      have s2 := setCell_self y2
      rcases hres with ⟨zs, g, hzl, hzn, rfl, hzc⟩ | ⟨j, t, ht, hno, rfl⟩
      · obtain ⟨z0, z1, z2, z3, hz4⟩ : ∃ z0 z1 z2 z3, zs = [z0, z1, z2, z3] := by
          match zs, hzl with
          | [z0, z1, z2, z3], _ => exact ⟨z0, z1, z2, z3, rfl⟩
        subst hz4
        have HSOME : Hid (headO kb.data.toList s.data.toList = some (z0, z1, z2, z3)) := by
          show _ = _
          have q0 := hzn 0 A rfl
          have q1 := hzn 1 B rfl
          have q2 := hzn 2 C rfl
          have q3 := hzn 3 D rfl
          rw [HF.out, if_pos hk, q0, q1, q2, q3]
          rfl
        have k0 := hzc 0 (by simp)
        have k1 := hzc 1 (by simp)
        have k2 := hzc 2 (by simp)
        have k3 := hzc 3 (by simp)
        simp only [List.getElem_cons_succ, List.getElem_cons_zero] at k0 k1 k2 k3
        have hgw : g ≠ w.heap.size := by
          intro e
          subst e
          have := y0.symm.trans k0
          have e1 := k3
          rw [cell_of_row _ _ _ _ _ _ ((hb3.block _ (lt_of_block HBLK.out)).trans HBLK.out)] at e1
          simp at e1
        have hne1 : ¬ g = w.heap.size := hgw
        have hne2 : ¬ w.heap.size = g := fun e => hgw e.symm
        clear hzn hzc hzl hgw s0 s1 s2
        simp only [List.length_cons, List.length_nil, Nat.zero_add, Nat.reduceAdd]
        go_wp2
        go_region
        go_wp2
        refine bodyPost_ret (v := .tuple #[.agg #[.int .i64 z0, .int .i64 z1, .int .i64 z2], .int .i64 z3, .bool true]) (by simp [results, Tryz.results209, go_sem, y0, y1, y2]) rfl ⟨by unfold headR; rw [HSOME.out], ?_⟩
        exact (((hB3.setCell (by simp) _).setCell (by simp) _).setCell (by simp) _).drew
      · have HNONE : Hid (headO kb.data.toList s.data.toList = none) := by
          show _ = _
          rw [HF.out, if_pos hk]
          match j, ht with
          | 0, ht => rw [Option.some.inj ht, hno]
          | 1, ht => rw [Option.some.inj ht, hno]; split <;> simp_all
          | 2, ht => rw [Option.some.inj ht, hno]; split <;> simp_all
          | 3, ht => rw [Option.some.inj ht, hno]; split <;> simp_all
        clear ht hno
        go_wp2
        exact bodyPost_ret (v := .tuple #[.agg #[.int .i64 0, .int .i64 0, .int .i64 0], .int .i64 0, .bool false]) (by simp [results, Tryz.results209, go_sem, y0, y1, y2]) rfl ⟨by unfold headR; rw [HNONE.out], hB3⟩
    · have hkb := neBB hk
      have HNONE : Hid (headO kb.data.toList s.data.toList = none) := by
        show _ = _
        rw [HF.out, if_neg hk]
      obtain ⟨y0, y1, y2, fz⟩ := BAD.out w1 hB1 HBLK.out
      have s0 := setCell_self y0
      have s1 := setCell_self y1
      have s2 := setCell_self y2
      go_wp2
      exact bodyPost_ret (v := .tuple #[.agg #[.int .i64 0, .int .i64 0, .int .i64 0], .int .i64 0, .bool false]) (by simp [results, Tryz.results209, go_sem, y0, y1, y2]) rfl ⟨by unfold headR; rw [HNONE.out], hB1⟩
  · have HNONE : Hid (headO kb.data.toList s.data.toList = none) := headO_other (fun e => h5 (by rw [← e, ← htm, List.length_map]))
    have hne : ¬ (ts.length : Int) = 5 := by omega
    obtain ⟨b, rfl, _⟩ := hts
    obtain ⟨y0, y1, y2, fz⟩ := BAD.out w1 hB1 HBLK.out
    have s0 := setCell_self y0
    have s1 := setCell_self y1
    have s2 := setCell_self y2
    clear htm hwl h5
    go_wp2
    exact bodyPost_ret (v := .tuple #[.agg #[.int .i64 0, .int .i64 0, .int .i64 0], .int .i64 0, .bool false]) (by simp [results, Tryz.results209, go_sem, y0, y1, y2]) rfl ⟨by unfold headR; rw [HNONE.out], hB1⟩
end Go.Proofs.YtpkoefpdpoikkaaGreatDoor
