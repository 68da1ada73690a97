/-
  part.Split, where a row is none: the first such, and its error.
-/
import Derived.Test.YtgffkkijfmoooaaGreatDoorPartSplit
namespace Go.Proofs.YtgffkkijfmoooaaGreatDoor
open Go.RowKit Go.Extern.Stop Go.Stop Go.Extern Go.Sort Go.Shelf Go.Lib

set_option maxRecDepth 100000 in
set_option maxHeartbeats 4000000 in
theorem split_bad (s : ByteArray) (q : Option Addr) (cap : Nat) (xs : List Rw) (w : World) (a : Nat → Addr) (h : Env w a) (hs : s.size ≤ 1000) (hx : RowsAt w (.slice q xs.length cap) xs) (hl : xs.length ≤ 1000) (hp : ∀ x ∈ xs, x.1.size ≤ 30) (hok : (specO s.data.toList).1 = 0)
    (j : Nat) (hj : j < xs.length) (hbad : rowE xs[j] ≠ 0) (hgood : ∀ i (h : i < xs.length), i < j → rowE xs[i] = 0) (hsz : ∀ x ∈ xs, rowE x = 0 → (grpB (specO s.data.toList).2.1 (specO s.data.toList).2.2 x).size ≤ 1000) :
    Calls Tryz.prog 31 #[.string s, .slice q xs.length cap] w fun e w' => ∃ fb, e = .returned (.tuple #[.slice none 0 0, .iface 93 (.pointer (some ⟨fb, 0, none⟩))]) ∧ w'.cell? ⟨fb, 0, none⟩ = some (.int .i64 j) ∧ w'.cell? ⟨fb, 1, none⟩ = some (errV a (rowE xs[j])) ∧ Below w.heap.size w w' := by
  obtain ⟨i0, hi0, hz0, hs0, hby0⟩ := Tryz.rowInfo
  have hr := readSpec_any s w a h hs
  generalize hL : xs.length = L at hx hl ⊢
  have HX : Hid (xs.length = L) := hL
  clear hL
  rw [hok] at hr
  simp only [errV] at hr
  generalize grpB (specO s.data.toList).2.1 (specO s.data.toList).2.2 = p at hr hsz
  have hjL : j < L := by rw [← HX.out]; exact hj
  refine (callsIn_wide (n := 9)).1 ?_
  refine callsIn_of_wp_marks Tryz.func31 rfl trivial ?_ rfl
  refine wpIn_wide.2 ?_
  simp only [Tryz.ntmps31, List.size_toArray, List.length_cons, List.length_nil, Nat.reduceAdd, Nat.reduceSub, Array.replicate_succ, Array.replicate_zero, List.push_toArray, List.append_toArray, List.nil_append, List.cons_append]
  go_wp2_with fail
  refine hr.mono ?_
  rintro e w1 ⟨fv, rfl, hnm, hb1⟩
  clear hr
  obtain ⟨g, cb, rfl, eg, hgc⟩ := hnm trivial
  clear hnm
  have hmm := @run_makeMap Tryz.prog
  have hbm : Below w1.heap.size w1 (w1.alloc (.map #[] 0)) := (Below.refl _ _).alloc (Nat.le_refl _) _
  have hG0 := Grp.made w1 p
  have hE1 : ∀ W, Below w1.heap.size w1 W → Env W a := fun W hW => h.below (hb1.trans (hW.mono hb1.size))
  have hx1 : ∀ W, Below w1.heap.size w1 W → RowsAt W (.slice q L cap) xs := fun W hW => hx.below (hb1.trans (hW.mono hb1.size))
  clear hx h
  go_wp2
  clear hmm
  go_loopw [27] (fun k wr => ∃ n : Nat, n ≤ j ∧ k = .int .i64 n ∧ Below w1.heap.size w1 wr ∧ ∃ D hv, Grp wr (w1.heap.size + 1) w1.heap.size p (xs.take n) D hv) (fun k _ => L - (intOf k).toNat)
  case atStart => exact ⟨0, Nat.zero_le _, rfl, hbm, _, _, hG0⟩
  case round =>
    obtain ⟨n, hn, rfl, hb, D, hv, hG⟩ := hrel
    have hlt : n < L := by omega
    by_cases hnj : n < j
    · have hltx : n < xs.length := by rw [HX.out]; exact hlt
      have hrows := hx1 wr hb
      rcases hrows with ⟨_, _, e, e'⟩ | ⟨b, o, cap2, e, hcells⟩
      · exfalso; have := HX.out; rw [e'] at this; simp at this; omega
      injection e with e1 e2 e3
      subst e1
      clear e2 e3
      obtain ⟨c1, c2, c3⟩ := hcells n hltx
      clear hcells
      have hi : (n : Int) < (L : Int) := by omega
      have hmem : xs[n] ∈ xs := List.getElem_mem _
      have hrok := hgood n hltx hnj
      have hrsz := hsz _ hmem hrok
      have hrp := hp _ hmem
      have htk : xs.take (n + 1) = xs.take n ++ [xs[n]] := by rw [List.take_append_getElem hltx]
      have hck := fun W (hW : Env W a) => check_any xs[n] W a hW (by unfold maxLen; omega)
      rw [hrok] at hck
      simp only [errV] at hck
      generalize xs[n] = x at c1 c2 c3 hrok hrsz htk hck
      have HT : Hid (xs.take (n + 1) = xs.take n ++ [x]) := htk
      have htl : (xs.take n).length = n := by rw [List.length_take]; omega
      have HTL : Hid ((xs.take n).length = n) := htl
      clear htk hmem hrp htl
      generalize xs.take n = ys at hG HT HTL
      obtain ⟨xp, xk, xv⟩ := x
      dsimp only at c1 c2 c3 hck
      have hal : Below wr.heap.size wr (wr.alloc (.cells #[.string xp, .int .i64 xk, .int .i64 xv] 30)) := (Below.refl _ _).alloc (Nat.le_refl _) _
      have hb2 : Below w1.heap.size w1 (wr.alloc (.cells #[.string xp, .int .i64 xk, .int .i64 xv] 30)) := hb.trans (hal.mono hb.size)
      have hck2 := hck _ (hE1 _ hb2)
      have d0 : (wr.alloc (.cells #[.string xp, .int .i64 xk, .int .i64 xv] 30)).cell? ⟨wr.heap.size, 0, none⟩ = some (.string xp) := by simp
      have d1 : (wr.alloc (.cells #[.string xp, .int .i64 xk, .int .i64 xv] 30)).cell? ⟨wr.heap.size, 1, none⟩ = some (.int .i64 xk) := by simp
      have d2 : (wr.alloc (.cells #[.string xp, .int .i64 xk, .int .i64 xv] 30)).cell? ⟨wr.heap.size, 2, none⟩ = some (.int .i64 xv) := by simp
      clear hck
      go_wp2_with fail
      refine hck2.mono ?_
      rintro e w3 ⟨rfl, hb3⟩
      clear hck2 c1 c2 c3
      have hb4 : Below w1.heap.size w1 w3 := hb2.trans (hb3.mono hb2.size)
      have f0 := below_keep hb3 d0
      have f1 := below_keep hb3 d1
      have f2 := below_keep hb3 d2
      have hg3 := hgc (xp, xk, xv) w3 hb4 (hE1 _ hb4) hrok
      have hG3 := (hG.below hal).below hb3
      clear d0 d1 d2 hG
      dsimp only at hg3
      obtain ⟨gb, hgb⟩ : ∃ gb, p (xp, xk, xv) = gb := ⟨_, rfl⟩
      have HG : Hid (p (xp, xk, xv) = gb) := hgb
      rw [hgb] at hg3 hrsz
      clear hgb
      have hkl : gb.size ≤ maxLen := by unfold maxLen; omega
      obtain ⟨vo, hvo⟩ : ∃ vo, hv gb.data.toList = vo := ⟨_, rfl⟩
      have HVO : Hid (hv gb.data.toList = vo) := hvo
      have hlook := fun W (hW : Grp W (w1.heap.size + 1) w1.heap.size p ys D hv) => hW.look gb hkl
      rw [hvo] at hlook
      clear hvo
      obtain ⟨gl, hgl⟩ : ∃ gl, grp p ys gb.data.toList = gl := ⟨_, rfl⟩
      have HGL : Hid (grp p ys gb.data.toList = gl) := hgl
      have hgll : gl.length ≤ n := by rw [← hgl, ← HTL.out]; exact List.length_filter_le _ _
      have LEN : Hid (gl.length ≤ n) := hgll
      clear hgl hgll
      go_wp2_with (first
        | (go_at_fn g; refine hg3.mono ?_; rintro e w4 ⟨rfl, hb5⟩; have hG4 := hG3.below hb5; have hrun := hlook w4 hG4; have q0 := below_keep hb5 f0; have q1 := below_keep hb5 f1; have q2 := below_keep hb5 f2)
        | (at_builtin; refine wpList_append_own_at _ rfl _ _ 22 rfl (w1.heap.size + 1) 30 i0 (.agg #[.string ⟨#[]⟩, .int .i64 0, .int .i64 0]) 3 32 Tryz.underlying22 hi0 hz0 hs0 hby0 rfl (by decide) vo gl.length (flatR gl) rfl ?qc0 ⟨w4.heap.size, 0, none⟩ 1 1 (encR (xp, xk, xv)) rfl ?qc1 ?qc2 ?qc3 ?qc4 ?qc5 ?qc6 ?_))
      case qc0 =>
        have ho := hG4.own gb.data.toList
        rw [HVO.out, HGL.out] at ho
        exact ho.alloc _
      case qc1 => rfl
      case qc2 =>
        intro j u hj
        rw [Addr.add_lit, Nat.zero_add]
        exact cells_three w4 xp xk xv j u hj
      case qc3 => exact encR_one _
      case qc4 => have := LEN.out; unfold maxLen; omega
      case qc5 => have := LEN.out; omega
      case qc6 =>
        have e1 := hb4.size
        have e2 := hb5.size
        have e3 := hG4.map.lt
        simp
        omega
      have hal4 : Below w4.heap.size w4 (w4.alloc (.cells #[.string xp, .int .i64 xk, .int .i64 xv] 30)) := (Below.refl _ _).alloc (Nat.le_refl _) _
      have hG5 := hG4.below hal4
      have hb6 : Below w1.heap.size w1 w4 := hb4.trans (hb5.mono hb4.size)
      have hb7 : Below w1.heap.size w1 (w4.alloc (.cells #[.string xp, .int .i64 xk, .int .i64 xv] 30)) := hb6.alloc hb6.size _
      intro v' w5 hown5 hgrow5 hnil5 hat5
      obtain ⟨g', cap', rfl⟩ := ownsRow_succ hown5
      have hb8 : Below w1.heap.size w1 w5 := hb7.grown hgrow5 hb7.size (fun k hk => by
        have ho := hG5.own gb.data.toList
        rw [HVO.out] at ho
        have := (own_lt ho hk).1
        omega)
      have hm5 : w5.ownsMap Tryz.prog 9 hdrR w1.heap.size ys.length D := hG5.map.kept hgrow5 (fun e => by
        have ho := hG5.own gb.data.toList
        rw [HVO.out] at ho
        have := (own_lt ho e.symm).1
        omega)
      have HAT : Hid ((Value.slice (some ⟨g', 0, none⟩) (gl.length + 1) cap').ownBlock = vo.ownBlock ∨ (Value.slice (some ⟨g', 0, none⟩) (gl.length + 1) cap').ownBlock = some (w4.alloc (.cells #[.string xp, .int .i64 xk, .int .i64 xv] 30)).heap.size) := by simpa [Hid] using hat5
      have HOW : Hid (w5.ownsRow (w1.heap.size + 1) 30 3 (Value.slice (some ⟨g', 0, none⟩) (gl.length + 1) cap') (gl.length + 1) (flatR gl ++ encR (xp, xk, xv))) := hown5
      have HGR : Hid ((w4.alloc (.cells #[.string xp, .int .i64 xk, .int .i64 xv] 30)).grownBy w5 vo.ownBlock) := hgrow5
      have HM5 : Hid (w5.ownsMap Tryz.prog 9 hdrR w1.heap.size ys.length D) := hm5
      clear hat5 hown5 hgrow5 hm5 hnil5
      go_wp2_with (at_mapUpdate; refine wpList_mapUpdate_own _ rfl _ _ _ 92 rfl 9 22 (Maps.string_keyed Tryz.underlying9) Tryz.underlying92 hdrR w1.heap.size ys.length D rfl HM5.out ?qd1 _ _ (.string gb.data.toList) rfl rfl (Go.WideMaps.keyOf_string_mk Tryz.underlying9 hkl) (.agg [.lit (.int .i64 g'), .lit (.int .i64 ((gl.length + 1 : Nat) : Int)), .lit (.int .i64 cap')]) [] rfl ?_)
      case qd1 => have := HTL.out; unfold maxLen; omega
      intro w6 hm6 hgrow6
      have hG6 := hG5.step (W4 := w6) (xp, xk, xv) (.slice (some ⟨g', 0, none⟩) (gl.length + 1) cap') (.agg [.lit (.int .i64 g'), .lit (.int .i64 ((gl.length : Int) + 1)), .lit (.int .i64 cap')]) (by rw [HG.out, HGL.out]; exact HOW.out) (by rw [HG.out, HVO.out]; exact HGR.out) (by rw [HG.out, HVO.out]; exact HAT.out) (by rw [HG.out]; exact hm6) hgrow6 (by simp [hdrR])
      have hb9 : Below w1.heap.size w1 w6 := hb8.grown hgrow6 hb8.size (fun k hk => by cases hk; exact Nat.le_refl _)
      rw [← HT.out] at hG6
      clear hm6 hgrow6
      go_wp2
      go_roundw
      case rel => exact ⟨n + 1, by omega, by go_num, hb9, _, _, hG6⟩
      case measure => simp [intOf]; omega
    · obtain rfl : n = j := by omega
      have hltx : n < xs.length := hj
      have hrows := hx1 wr hb
      rcases hrows with ⟨_, _, e, e'⟩ | ⟨b, o, cap2, e, hcells⟩
      · exfalso; have := HX.out; rw [e'] at this; simp at this; omega
      injection e with e1 e2 e3
      subst e1
      clear e2 e3
      obtain ⟨c1, c2, c3⟩ := hcells n hltx
      clear hcells
      have hi : (n : Int) < (L : Int) := by omega
      have hmem : xs[n] ∈ xs := List.getElem_mem _
      have hrp := hp _ hmem
      have hck := fun W (hW : Env W a) => check_any xs[n] W a hW (by unfold maxLen; omega)
      obtain ⟨m, hm⟩ : ∃ m, rowE xs[n] = m + 1 := ⟨rowE xs[n] - 1, by omega⟩
      have HM : Hid (errV a (rowE xs[n]) = .iface 250 (.pointer (some (a m)))) := by
        show errV a (rowE xs[n]) = _
        rw [hm]; rfl
      rw [HM.out] at hck
      clear hm
      generalize hxx : xs[n] = x at c1 c2 c3 hck
      clear hmem hrp hxx hG
      obtain ⟨xp, xk, xv⟩ := x
      dsimp only at c1 c2 c3 hck
      have hal : Below wr.heap.size wr (wr.alloc (.cells #[.string xp, .int .i64 xk, .int .i64 xv] 30)) := (Below.refl _ _).alloc (Nat.le_refl _) _
      have hb2 : Below w1.heap.size w1 (wr.alloc (.cells #[.string xp, .int .i64 xk, .int .i64 xv] 30)) := hb.trans (hal.mono hb.size)
      have hck2 := hck _ (hE1 _ hb2)
      clear hck
      go_wp2_with fail
      refine hck2.mono ?_
      rintro e w3 ⟨rfl, hb3⟩
      clear hck2 c1 c2 c3
      have hb4 : Below w1.heap.size w1 w3 := hb2.trans (hb3.mono hb2.size)
      have hb5 : Below w.heap.size w w3 := hb1.trans (hb4.mono hb1.size)
      go_wp2
      refine ⟨_, results_tmp2 rfl _ _ _, ?_⟩
      refine ⟨w3.heap.size, rfl, by simp, by rw [HM.out]; simp, hb5.alloc hb5.size _⟩

set_option maxRecDepth 100000 in
set_option maxHeartbeats 1000000 in
theorem split_none (s : ByteArray) (q : Option Addr) (cap n : Nat) (w : World) (a : Nat → Addr) (h : Env w a) (hs : s.size ≤ 1000) (hok : (specO s.data.toList).1 ≠ 0) :
    Calls Tryz.prog 31 #[.string s, .slice q n cap] w fun e w' => e = .returned (.tuple #[.slice none 0 0, errV a (specO s.data.toList).1]) ∧ Below w.heap.size w w' := by
  have hr := readSpec_any s w a h hs
  obtain ⟨m, hm⟩ : ∃ m, (specO s.data.toList).1 = m + 1 := ⟨(specO s.data.toList).1 - 1, by omega⟩
  rw [hm] at hr ⊢
  simp only [errV] at hr ⊢
  refine (callsIn_wide (n := 9)).1 ?_
  refine callsIn_of_wp_marks Tryz.func31 rfl trivial ?_ rfl
  refine wpIn_wide.2 ?_
  simp only [Tryz.ntmps31, List.size_toArray, List.length_cons, List.length_nil, Nat.reduceAdd, Nat.reduceSub, Array.replicate_succ, Array.replicate_zero, List.push_toArray, List.append_toArray, List.nil_append, List.cons_append]
  go_wp2_with fail
  refine hr.mono ?_
  rintro e w1 ⟨fv, rfl, hnm, hb1⟩
  clear hr hnm
  go_wp2
  refine ⟨_, results_tmp2 rfl _ _ _, ?_⟩
  exact ⟨rfl, hb1⟩
end Go.Proofs.YtgffkkijfmoooaaGreatDoor
