/-
  The contract of part.Split: the rows by their names.
-/
import Derived.Test.YtgffkkijfmoooaaGreatDoorPartRise
import Derived.RangeFuncBox
import Derived.Deep.Onto
namespace Go.Proofs.YtgffkkijfmoooaaGreatDoor
open Go.RowKit Go.Extern.Stop Go.Stop Go.Extern Go.Sort Go.Shelf Go.Lib
attribute [local go_sem] Oper.semAt_some

/-- One more group: what a round may turn. -/
theorem kpT_appended {W w1 : World} {B : Nat} {v v' : Value} {k : Nat} {xs : List Value} {tmp : Obj} (hv : Boxed W B 47 v) (hrow : W.ownsRow B 51 2 v k xs) (hgrow : (W.alloc tmp).grownBy w1 v.ownBlock) : KpT B W (w1.setCell ⟨B, 0, none⟩ v') := by
  refine ⟨?_, fun i hi hc => ?_⟩
  · have h1 := hgrow.size
    have h2 := (KeepsOthers.setCell w1 ⟨B, 0, none⟩ v').size
    simp at h1
    omega
  · have hB : i ≠ B := by
      rintro rfl
      rcases hc with hc | ⟨cs, t, fz, h1, h2⟩
      · omega
      · have h3 := (show W.heap[i]? = _ from hv).symm.trans h1
        simp only [Option.some.injEq, Obj.cells.injEq] at h3
        obtain ⟨_, h3, _⟩ := h3
        subst h3
        revert h2
        decide
    have hO : some i ≠ v.ownBlock := by
      intro e
      rcases hrow.2 with ⟨e', _⟩ | ⟨g, cap, cur, e', hb, hg, _⟩
      · rw [e'] at e; simp [Value.ownBlock] at e
      · rw [e'] at e
        simp [Value.ownBlock] at e
        subst e
        rcases hc with hc | ⟨cs, t, fz, h1, h2⟩
        · omega
        · have h3 := hg.symm.trans h1
          simp only [Option.some.injEq, Obj.cells.injEq] at h3
          obtain ⟨_, h3, _⟩ := h3
          subst h3
          revert h2
          decide
    have e1 : (w1.setCell ⟨B, 0, none⟩ v').heap[i]? = w1.heap[i]? := Below.heap_setCell _ _ _ i hB
    have e2 : w1.heap[i]? = (W.alloc tmp).heap[i]? := hgrow.block i (by simp; omega) hO
    rw [e1, e2]
    exact Below.heap_alloc W tmp i hi

theorem Tryz.groupInfo3 : (Tryz.prog.info? 51).map (fun i => (i.zero, i.size, i.bytes)) = some (some (.agg #[.string ⟨#[]⟩, .slice none 0 0]), 2, 40) := by kernel_rfl
theorem Tryz.groupInfo : ∃ i0 : TypeInfo, Tryz.prog.info? 51 = some i0 ∧ i0.zero = some (.agg #[.string ⟨#[]⟩, .slice none 0 0]) ∧ i0.size = 2 ∧ i0.bytes = 40 := by
  obtain ⟨i, hi, h⟩ := Option.map_eq_some_iff.1 Tryz.groupInfo3
  simp only [Prod.mk.injEq] at h
  exact ⟨i, hi, h.1, h.2.1, h.2.2⟩

theorem cells_two (w : World) (x y : Value) (t : TypeId) : ∀ j u, [x, y][j]? = some u → (w.alloc (.cells #[x, y] t)).cell? ((⟨w.heap.size, 0, none⟩ : Addr).add j) = some u := by
  intro j u hj
  rw [Addr.add_lit, Nat.zero_add]
  match j, hj with
  | 0, hj => simp at hj; subst hj; simp
  | 1, hj => simp at hj; subst hj; simp
  | j + 2, hj => simp at hj

theorem hv_one {v : Value} {z : DataW Unit × List MemPlace} (h : hdrR v = some z) : v.oneCell' = true ∧ ∃ q n c, v = .slice q n c := by
  unfold hdrR at h
  split at h
  · exact ⟨rfl, _, _, _, rfl⟩
  · exact ⟨rfl, _, _, _, rfl⟩
  · cases h

set_option maxRecDepth 100000 in
set_option maxHeartbeats 4000000 in
theorem split_ok (s : ByteArray) (q : Option Addr) (cap : Nat) (xs : List Rw) (w : World) (a : Nat → Addr) (h : Env w a) (hs : s.size ≤ 1000) (hx : RowsAt w (.slice q xs.length cap) xs) (hl : xs.length ≤ 1000) (hp : ∀ x ∈ xs, x.1.size ≤ 30) (hok : (specO s.data.toList).1 = 0)
    (hall : ∀ x ∈ xs, rowE x = 0) (hsz : ∀ x ∈ xs, rowE x = 0 → (grpB (specO s.data.toList).2.1 (specO s.data.toList).2.2 x).size ≤ 1000) :
    Calls Tryz.prog 31 #[.string s, .slice q xs.length cap] w fun e w' => ∃ gv ts D hv b1 b2, e = .returned (.tuple #[gv, .nilIface]) ∧ (∃ ss : List (List UInt8), ss.Perm (strKeys D) ∧ ts = ss.mergeSort (fun x y => decide (x ≤ y))) ∧ w'.ownsRow w.heap.size 51 2 gv ts.length (ts.flatMap fun nm => [encStr nm, hv nm]) ∧
      Grp w' b1 b2 (grpB (specO s.data.toList).2.1 (specO s.data.toList).2.2) xs D hv ∧ w.heap.size ≤ b1 ∧ Below w.heap.size w w' := by
  obtain ⟨i0, hi0, hz0, hs0, hby0⟩ := Tryz.rowInfo
  have hr := readSpec_any s w a h hs
  generalize hL : xs.length = L at hx hl ⊢
  have HX : Hid (xs.length = L) := hL
  clear hL
  rw [hok] at hr
  simp only [errV] at hr
  generalize grpB (specO s.data.toList).2.1 (specO s.data.toList).2.2 = p at hr hsz ⊢
  refine (callsIn_wide (n := 9)).1 ?_
  refine callsIn_of_wp_marks Tryz.func31 rfl trivial ?_ rfl
  refine wpIn_wide.2 ?_
  simp only [Tryz.ntmps31, List.size_toArray, List.length_cons, List.length_nil, Nat.reduceAdd, Nat.reduceSub, Array.replicate_succ, Array.replicate_zero, List.push_toArray, List.append_toArray, List.nil_append, List.cons_append]
  go_wp2_with fail
  refine hr.mono ?_
  rintro e w1 ⟨fv, rfl, hnm, hb1⟩
  clear hr
  obtain ⟨g, cb, rfl, eg, hgc⟩ := hnm trivial
  clear hnm
  have hmm := @run_makeMap Tryz.prog
  have hbm : Below w1.heap.size w1 (w1.alloc (.map #[] 0)) := (Below.refl _ _).alloc (Nat.le_refl _) _
  have hG0 := Grp.made w1 p
  have hE1 : ∀ W, Below w1.heap.size w1 W → Env W a := fun W hW => h.below (hb1.trans (hW.mono hb1.size))
  have hx1 : ∀ W, Below w1.heap.size w1 W → RowsAt W (.slice q L cap) xs := fun W hW => hx.below (hb1.trans (hW.mono hb1.size))
  clear hx h
  go_wp2
  clear hmm
  go_loopw [27] (fun k wr => ∃ n : Nat, n ≤ L ∧ k = .int .i64 n ∧ Below w1.heap.size w1 wr ∧ ∃ D hv, Grp wr (w1.heap.size + 1) w1.heap.size p (xs.take n) D hv) (fun k _ => L - (intOf k).toNat)
  case atStart => exact ⟨0, by omega, rfl, hbm, _, _, hG0⟩
  case round =>
    obtain ⟨n, hn, rfl, hb, D, hv, hG⟩ := hrel
    by_cases hlt : n < L
    · have hltx : n < xs.length := by rw [HX.out]; exact hlt
      have hrows := hx1 wr hb
      rcases hrows with ⟨_, _, e, e'⟩ | ⟨b, o, cap2, e, hcells⟩
      · exfalso; have := HX.out; rw [e'] at this; simp at this; omega
      injection e with e1 e2 e3
      subst e1
      clear e2 e3
      obtain ⟨c1, c2, c3⟩ := hcells n hltx
      clear hcells
      have hi : (n : Int) < (L : Int) := by omega
      have hmem : xs[n] ∈ xs := List.getElem_mem _
      have hrok := hall _ hmem
      have hrsz := hsz _ hmem hrok
      have hrp := hp _ hmem
      have htk : xs.take (n + 1) = xs.take n ++ [xs[n]] := by rw [List.take_append_getElem hltx]
      have hck := fun W (hW : Env W a) => check_any xs[n] W a hW (by unfold maxLen; omega)
      rw [hrok] at hck
      simp only [errV] at hck
      generalize xs[n] = x at c1 c2 c3 hrok hrsz htk hck
      have HT : Hid (xs.take (n + 1) = xs.take n ++ [x]) := htk
      have htl : (xs.take n).length = n := by rw [List.length_take]; omega
      have HTL : Hid ((xs.take n).length = n) := htl
      clear htk hmem hrp htl
      generalize xs.take n = ys at hG HT HTL
      obtain ⟨xp, xk, xv⟩ := x
      dsimp only at c1 c2 c3 hck
      have hal : Below wr.heap.size wr (wr.alloc (.cells #[.string xp, .int .i64 xk, .int .i64 xv] 30)) := (Below.refl _ _).alloc (Nat.le_refl _) _
      have hb2 : Below w1.heap.size w1 (wr.alloc (.cells #[.string xp, .int .i64 xk, .int .i64 xv] 30)) := hb.trans (hal.mono hb.size)
      have hck2 := hck _ (hE1 _ hb2)
      have d0 : (wr.alloc (.cells #[.string xp, .int .i64 xk, .int .i64 xv] 30)).cell? ⟨wr.heap.size, 0, none⟩ = some (.string xp) := by simp
      have d1 : (wr.alloc (.cells #[.string xp, .int .i64 xk, .int .i64 xv] 30)).cell? ⟨wr.heap.size, 1, none⟩ = some (.int .i64 xk) := by simp
      have d2 : (wr.alloc (.cells #[.string xp, .int .i64 xk, .int .i64 xv] 30)).cell? ⟨wr.heap.size, 2, none⟩ = some (.int .i64 xv) := by simp
      clear hck
      go_wp2_with fail
      refine hck2.mono ?_
      rintro e w3 ⟨rfl, hb3⟩
      clear hck2 c1 c2 c3
      have hb4 : Below w1.heap.size w1 w3 := hb2.trans (hb3.mono hb2.size)
      have f0 := below_keep hb3 d0
      have f1 := below_keep hb3 d1
      have f2 := below_keep hb3 d2
      have hg3 := hgc (xp, xk, xv) w3 hb4 (hE1 _ hb4) hrok
      have hG3 := (hG.below hal).below hb3
      clear d0 d1 d2 hG
      dsimp only at hg3
      obtain ⟨gb, hgb⟩ : ∃ gb, p (xp, xk, xv) = gb := ⟨_, rfl⟩
      have HG : Hid (p (xp, xk, xv) = gb) := hgb
      rw [hgb] at hg3 hrsz
      clear hgb
      have hkl : gb.size ≤ maxLen := by unfold maxLen; omega
      obtain ⟨vo, hvo⟩ : ∃ vo, hv gb.data.toList = vo := ⟨_, rfl⟩
      have HVO : Hid (hv gb.data.toList = vo) := hvo
      have hlook := fun W (hW : Grp W (w1.heap.size + 1) w1.heap.size p ys D hv) => hW.look gb hkl
      rw [hvo] at hlook
      clear hvo
      obtain ⟨gl, hgl⟩ : ∃ gl, grp p ys gb.data.toList = gl := ⟨_, rfl⟩
      have HGL : Hid (grp p ys gb.data.toList = gl) := hgl
      have hgll : gl.length ≤ n := by rw [← hgl, ← HTL.out]; exact List.length_filter_le _ _
      have LEN : Hid (gl.length ≤ n) := hgll
      clear hgl hgll
      go_wp2_with (first
        | (go_at_fn g; refine hg3.mono ?_; rintro e w4 ⟨rfl, hb5⟩; have hG4 := hG3.below hb5; have hrun := hlook w4 hG4; have q0 := below_keep hb5 f0; have q1 := below_keep hb5 f1; have q2 := below_keep hb5 f2)
        | (at_builtin; refine wpList_append_own_at _ rfl _ _ 22 rfl (w1.heap.size + 1) 30 i0 (.agg #[.string ⟨#[]⟩, .int .i64 0, .int .i64 0]) 3 32 Tryz.underlying22 hi0 hz0 hs0 hby0 rfl (by decide) vo gl.length (flatR gl) rfl ?qc0 ⟨w4.heap.size, 0, none⟩ 1 1 (encR (xp, xk, xv)) rfl ?qc1 ?qc2 ?qc3 ?qc4 ?qc5 ?qc6 ?_))
      case qc0 =>
        have ho := hG4.own gb.data.toList
        rw [HVO.out, HGL.out] at ho
        exact ho.alloc _
      case qc1 => rfl
      case qc2 =>
        intro j u hj
        rw [Addr.add_lit, Nat.zero_add]
        exact cells_three w4 xp xk xv j u hj
      case qc3 => exact encR_one _
      case qc4 => have := LEN.out; unfold maxLen; omega
      case qc5 => have := LEN.out; omega
      case qc6 =>
        have e1 := hb4.size
        have e2 := hb5.size
        have e3 := hG4.map.lt
        simp
        omega
      have hal4 : Below w4.heap.size w4 (w4.alloc (.cells #[.string xp, .int .i64 xk, .int .i64 xv] 30)) := (Below.refl _ _).alloc (Nat.le_refl _) _
      have hG5 := hG4.below hal4
      have hb6 : Below w1.heap.size w1 w4 := hb4.trans (hb5.mono hb4.size)
      have hb7 : Below w1.heap.size w1 (w4.alloc (.cells #[.string xp, .int .i64 xk, .int .i64 xv] 30)) := hb6.alloc hb6.size _
      intro v' w5 hown5 hgrow5 hnil5 hat5
      obtain ⟨g', cap', rfl⟩ := ownsRow_succ hown5
      have hb8 : Below w1.heap.size w1 w5 := hb7.grown hgrow5 hb7.size (fun k hk => by
        have ho := hG5.own gb.data.toList
        rw [HVO.out] at ho
        have := (own_lt ho hk).1
        omega)
      have hm5 : w5.ownsMap Tryz.prog 9 hdrR w1.heap.size ys.length D := hG5.map.kept hgrow5 (fun e => by
        have ho := hG5.own gb.data.toList
        rw [HVO.out] at ho
        have := (own_lt ho e.symm).1
        omega)
      have HAT : Hid ((Value.slice (some ⟨g', 0, none⟩) (gl.length + 1) cap').ownBlock = vo.ownBlock ∨ (Value.slice (some ⟨g', 0, none⟩) (gl.length + 1) cap').ownBlock = some (w4.alloc (.cells #[.string xp, .int .i64 xk, .int .i64 xv] 30)).heap.size) := by simpa [Hid] using hat5
      have HOW : Hid (w5.ownsRow (w1.heap.size + 1) 30 3 (Value.slice (some ⟨g', 0, none⟩) (gl.length + 1) cap') (gl.length + 1) (flatR gl ++ encR (xp, xk, xv))) := hown5
      have HGR : Hid ((w4.alloc (.cells #[.string xp, .int .i64 xk, .int .i64 xv] 30)).grownBy w5 vo.ownBlock) := hgrow5
      have HM5 : Hid (w5.ownsMap Tryz.prog 9 hdrR w1.heap.size ys.length D) := hm5
      clear hat5 hown5 hgrow5 hm5 hnil5
      go_wp2_with (at_mapUpdate; refine wpList_mapUpdate_own _ rfl _ _ _ 92 rfl 9 22 (Maps.string_keyed Tryz.underlying9) Tryz.underlying92 hdrR w1.heap.size ys.length D rfl HM5.out ?qd1 _ _ (.string gb.data.toList) rfl rfl (Go.WideMaps.keyOf_string_mk Tryz.underlying9 hkl) (.agg [.lit (.int .i64 g'), .lit (.int .i64 ((gl.length + 1 : Nat) : Int)), .lit (.int .i64 cap')]) [] rfl ?_)
      case qd1 => have := HTL.out; unfold maxLen; omega
      intro w6 hm6 hgrow6
      have hG6 := hG5.step (W4 := w6) (xp, xk, xv) (.slice (some ⟨g', 0, none⟩) (gl.length + 1) cap') (.agg [.lit (.int .i64 g'), .lit (.int .i64 ((gl.length : Int) + 1)), .lit (.int .i64 cap')]) (by rw [HG.out, HGL.out]; exact HOW.out) (by rw [HG.out, HVO.out]; exact HGR.out) (by rw [HG.out, HVO.out]; exact HAT.out) (by rw [HG.out]; exact hm6) hgrow6 (by simp [hdrR])
      have hb9 : Below w1.heap.size w1 w6 := hb8.grown hgrow6 hb8.size (fun k hk => by cases hk; exact Nat.le_refl _)
      rw [← HT.out] at hG6
      clear hm6 hgrow6
      go_wp2
      go_roundw
      case rel => exact ⟨n + 1, by omega, by go_num, hb9, _, _, hG6⟩
      case measure => simp [intOf]; omega
    · obtain rfl : n = L := by omega
      rw [List.take_of_length_le (by rw [HX.out]; omega)] at hG
      have hnn := hG.map
      have hBg : Below wr.heap.size wr ((wr.alloc (.cells #[.slice none 0 0] 47)).alloc (.cells #[.map (some w1.heap.size)] 92)) := ((Below.refl _ _).alloc (Nat.le_refl _) _).alloc (by simp) _
      have hG2 := hG.below hBg
      have hbml : w1.heap.size < wr.heap.size := hG.map.lt
      go_wp2
      refine (wpIn_wide (n := 9)).1 ?_
      refine wpIn_rangeFunc_ownG (F := Fence.wide) rfl (by decide) (gf := 94) (lb := #[.pointer (some ⟨wr.heap.size + 1, 0, none⟩)]) rfl trivial (enters_of Tryz.func94 (by kernel_rfl) rfl)
        (rising_stops w1.heap.size (wr.heap.size + 1) wr.heap.size xs.length D hv _ hG2.map hG2.hd ?hkey ?hmax hbml ?hbx) (fun h k => h.trans k) ?hKb (Below.refl _ _) (fun _ => rfl)
        (fun pre W => (∃ v, Boxed W wr.heap.size 47 v ∧ W.ownsRow wr.heap.size 51 2 v pre.length (pre.flatMap fun nm => [encStr nm, hv nm]) ∧ True) ∧ Below wr.heap.size wr W)
        (fun _ _ _ => False)
        (OwnFrom.and (Own.from (holdsRow_own wr.heap.size wr.heap.size 47 51 2 (fun pre : List (List UInt8) => pre.length) (fun pre => pre.flatMap fun nm => [encStr nm, hv nm]) (fun _ _ => True)) _) (ownFrom_below (Nat.le_refl _) (by simp; omega)))
        (fun _ _ _ _ _ hs _ _ => hs.elim) ?start ?a1 ?assign ?body ?done ?stop
      case assign =>
        intro l x W K hK
        gi_wp2
        exact hK
      case hkey =>
        intro nm hm
        obtain ⟨x, hx2⟩ := List.exists_mem_of_ne_nil _ ((hG.key_mem nm).1 hm)
        simp only [grp, List.mem_filter, decide_eq_true_eq] at hx2
        have := hsz x hx2.1 (hall x hx2.1)
        rw [← hx2.2, size_list]
        exact this
      case hmax => exact Nat.le_trans hG.size (by rw [HX.out]; exact hl)
      case hbx =>
        have := Boxed.new (wr.alloc (.cells #[.slice none 0 0] 47)) 92 (.map (some w1.heap.size))
        simpa [Boxed] using this
      case hKb =>
        intro W l o o' hl hlo hoc _
        have hg := grownBy_putObj' W l o'
        refine ⟨hg.size, fun i hi hc => hg.block i hi ?_⟩
        intro e
        cases e
        rcases hc with hc | ⟨cs, t, fz, h1, _⟩
        · simp at hl; omega
        · rw [hlo] at h1; cases h1; cases hoc
      case start => exact ⟨⟨_, (Boxed.new wr 47 (.slice none 0 0)).alloc _, World.ownsRow_nil _ _ _ _, trivial⟩, hBg⟩
      case stop =>
        rintro D' c pre W _ _ hf _
        exact hf.elim
      case body =>
        rintro l pre x W ⟨⟨v, hv1, hrow, _⟩, hB⟩ hlen
        obtain ⟨i1, hi1, hz1, hs1, hby1⟩ := Tryz.groupInfo
        have hc := hv1.cell
        have hsD := hG.size
        obtain ⟨hone, q0, n0, c0, hv0⟩ := hv_one (hG.hd x)
        have hpl : pre.length ≤ 1000 := by rw [HX.out] at hsD; omega
        have HV0 : Hid (hv x = .slice q0 n0 c0) := hv0
        have hone' : ∀ u ∈ [encStr x, Value.slice q0 n0 c0], u.oneCell' = true := by
          intro u hu
          simp only [List.mem_cons, List.not_mem_nil, or_false] at hu
          rcases hu with rfl | rfl
          · rfl
          · rfl
        rw [hv0]
        clear hv0 hone hlen
        gi_wp2_with (gi_at_builtin; refine wpListIn_append_own _ rfl _ _ 47 rfl wr.heap.size 51 i1 (.agg #[.string ⟨#[]⟩, .slice none 0 0]) 2 40 Tryz.underlying47 hi1 hz1 hs1 hby1 rfl (by decide) _ _ _ rfl (hrow.alloc _) ⟨W.heap.size, 0, none⟩ 1 1 [encStr x, .slice q0 n0 c0] rfl rfl (cells_two _ _ _ _) hone' (by unfold maxLen; omega) (by omega) (by have := hB.size; simp; omega) ?_; intro v' w5 hown' hgrow _; obtain ⟨g', cap', rfl⟩ := ownsRow_succ hown'; have hkp := kpT_appended (v' := .slice (some ⟨g', 0, none⟩) (pre.length + 1) cap') hv1 hrow hgrow; obtain ⟨hv3, hv4, hr2, hk2, hb2⟩ := hv1.appended (by decide) hrow hB.size (Nat.le_refl _) hown' hgrow; have hc1 := hv3.cell; have hf1 := hv3.frozen)
        refine ⟨hk2.from _, hkp, ⟨⟨_, hv4, ?_, trivial⟩, hB.trans hb2⟩⟩
        have e1 : (pre ++ [x]).flatMap (fun nm => [encStr nm, hv nm]) = pre.flatMap (fun nm => [encStr nm, hv nm]) ++ [encStr x, .slice q0 n0 c0] := by rw [List.flatMap_append]; simp [HV0.out]
        rw [e1, List.length_append]
        exact hr2
      case done =>
        rintro D' ts W hD ⟨ss, hS, hts⟩ ⟨⟨v, hv1, hrow, _⟩, hB⟩ hK
        obtain ⟨gq, gc, rfl⟩ := own_form hrow
        have hc := hv1.cell
        have hwr : w.heap.size ≤ wr.heap.size := Nat.le_trans hb1.size hb.size
        have hB2 : Below wr.heap.size wr (W.putObj D' (.deferred none)) := hB.trans (belowK_b (w := wr) (Nat.le_refl _) W D' _ _ (by simp at hD; omega) hK rfl rfl)
        have hrow2 := World.ownsRow.mono (ownsRow_putObj hrow (.deferred none) hK rfl) hwr
        have hG3 := hG.below hB2
        have hbF : Below w.heap.size w (W.putObj D' (.deferred none)) := by
          have q := hb.trans (hB2.mono hb.size)
          exact hb1.trans (q.mono hb1.size)
        have HTS : Hid (ts = ss.mergeSort (fun x y => decide (x ≤ y))) := hts
        clear hts
        obtain ⟨tl, htl⟩ : ∃ tl, ts.length = tl := ⟨_, rfl⟩
        have HTL : Hid (ts.length = tl) := htl
        rw [htl] at hc hrow2
        clear htl
        go_wp2
        refine ⟨by simp, .inl ⟨_, _, rfl, run_takeDeferred hK, ?_⟩⟩
        refine ⟨_, results_tmp2 rfl _ _ _, ?_⟩
        exact ⟨_, ts, D, hv, _, _, rfl, ⟨ss, hS, HTS.out⟩, by rw [HTL.out]; exact hrow2, hG3, Nat.le_trans hb1.size (Nat.le_succ _), hbF⟩
end Go.Proofs.YtgffkkijfmoooaaGreatDoor
