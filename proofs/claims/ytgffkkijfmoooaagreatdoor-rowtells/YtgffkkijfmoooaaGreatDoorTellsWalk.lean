/-
  The walk of RowTells: whatever rows, text, keys and bounds: true; what was there is as it was.
-/
import Derived.Test.YtgffkkijfmoooaaGreatDoorRefSort
import Derived.Test.YtgffkkijfmoooaaGreatDoorCoded
import Derived.Test.YtgffkkijfmoooaaGreatDoorFaulted
import Derived.Lib.QuietBelow
import Derived.BigQuiet
namespace Go.Proofs.YtgffkkijfmoooaaGreatDoor
open Go.RowKit Go.Extern.Stop Go.Stop Go.Extern Go.Sort Go.Shelf Go.Lib

theorem readO_le (l : List UInt8) : (readO l).2 ≤ 5 := by
  unfold readO
  split
  · split
    · split
      · exact Nat.zero_le _
      · exact rowE_le _
    · exact (by decide : (1 : Nat) ≤ 5)
  · exact (by decide : (1 : Nat) ≤ 5)

/-- SortRows, wherever the rows lie. -/
theorem sortRows_at (v : Value) (xs : List Rw) (w : World) (h : RowsAt w v xs) (hl : xs.length ≤ 1000) :
    Calls Tryz.prog 27 #[v] w fun e w' => ∃ v', e = .returned v' ∧ RowsAt w' v' (sortR xs) ∧ Below w.heap.size w w' := by
  rcases h with ⟨p, c, rfl, rfl⟩ | ⟨b, o, cap, rfl, hc⟩
  · clear hl
    go_enter Tryz.func27, Tryz.ntmps27
    go_wp2
    refine wp_loop_rounds 1 ?_
    rw [rounds_succ]
    go_wp2
    go_ret
    exact ⟨_, rfl, Or.inl ⟨none, 0, rfl, by simp [sortR]⟩, Below.refl _ _⟩
  · exact sortRows_any b o cap xs w hc hl

/-- An append, by its run. -/
theorem wpList_append_out {P : Program} {w : World} {ops : Array Oper} {rest : List Oper} {o : Oper} {a : Act} {Q : Exit → Act → World → Prop} (hgd : o.guard = none) (s x : Operand) (t : TypeId)
    (ho : o.op = .call { callee := .builtin .append, args := #[s, x], argTypes := #[t, t] }) (v u : Value) (hs : a.eval s = v) (hx : a.eval x = u) {R : Value → World → Prop}
    (hr : ∀ ty, ∃ v' w', (Builtin.append_ #[t, t] ty #[v, u]).run P w = .ok v' w' ∧ R v' w') (h : ∀ v' w', R v' w' → wpList P ops Q rest (a.put o.dst v') w') : wpList P ops Q (o :: rest) a w := by
  refine wpList_plain hgd fun K hK => ?_
  obtain ⟨v', w', hrun, hR⟩ := hr o.type
  unfold Oper.wp execOp
  simp only [ho, resolve, invoke, builtin, Sem.run_bind, Sem.run_pure, Result.andThen_ok, List.map_toArray, List.map_cons, List.map_nil, hs, hx, hrun]
  exact hK _ _ (h v' w' hR)

/-- Whole numbers appended to none. -/
theorem append_keys (q : Option Addr) (M d : Nat) (zs : List Int) (W : World) (hz : KeysAt W (.slice q M d) zs) (hM : zs.length = M) (hl : M ≤ 1000) (ty : TypeId) :
    ∃ v' w', (Builtin.append_ #[23, 23] ty #[.slice none 0 0, .slice q M d]).run Tryz.prog W = .ok v' w' ∧ KeysAt w' v' zs ∧ Below W.heap.size W w' := by
  obtain ⟨i0, hi0, hz0, hs0, hby0⟩ := Tryz.numInfo
  have fin : ∀ v' w', w'.ownsRow W.heap.size 3 1 v' (0 + M) ([] ++ zs.map (Value.int .i64)) → W.grownBy w' (Value.slice none 0 0).ownBlock → KeysAt w' v' zs ∧ Below W.heap.size W w' := by
    intro v' w' hown hgrow
    refine ⟨?_, (Below.refl _ _).grown hgrow (Nat.le_refl _) (fun k hk => by simp [Value.ownBlock] at hk)⟩
    rw [Nat.zero_add, List.nil_append] at hown
    rcases Nat.eq_zero_or_pos M with h0 | h0
    · subst h0
      have hz0 : zs = [] := List.length_eq_zero_iff.1 hM
      rcases hown.2 with ⟨e, _⟩ | ⟨g, cap, cur, e, _⟩
      · exact Or.inl ⟨_, _, e, hz0⟩
      · exact Or.inl ⟨_, _, e, hz0⟩
    · obtain ⟨g, cap, e, _, hc⟩ := own_cell hown (by omega)
      refine Or.inr ⟨g, 0, cap, by rw [e, hM], fun j hj => ?_⟩
      rw [Nat.zero_add]
      exact hc j _ (by simp [hj])
  rcases hz with ⟨p, c, e, e'⟩ | ⟨b, o, cap, e, hcells⟩
  · injection e with e1 e2 e3
    subst e1 e2 e3 e'
    cases q with
    | none =>
      refine ⟨.slice none 0 0, W, ?_, Or.inl ⟨_, _, rfl, rfl⟩, Below.refl _ _⟩
      simp [Builtin.append_, run_underlying Tryz.underlying23, sizeOf, typeInfo, zeroValue, hi0, hz0, Builtin.lenOf, run_firstCells_none]
    | some ad =>
      obtain ⟨v', w', hr, h1, h2, _⟩ := run_append_own W W.heap.size 23 ty 3 i0 (.int .i64 0) 1 8 Tryz.underlying23 hi0 hz0 hs0 hby0 rfl (by decide) (.slice none 0 0) 0 [] (World.ownsRow_nil _ _ _ _) ad 0 d [] rfl (fun j u hj => by simp at hj) (fun u hu => by cases hu) (by decide) (by decide) (Nat.le_refl _)
      exact ⟨v', w', hr, fin v' w' h1 h2⟩
  · injection e with e1 e2 e3
    subst e1 e2 e3
    obtain ⟨v', w', hr, h1, h2, _⟩ := run_append_own W W.heap.size 23 ty 3 i0 (.int .i64 0) 1 8 Tryz.underlying23 hi0 hz0 hs0 hby0 rfl (by decide) (.slice none 0 0) 0 [] (World.ownsRow_nil _ _ _ _) ⟨b, o, none⟩ zs.length d (zs.map (Value.int .i64)) (by simp) (fun j u hj => by
      have hj' : j < zs.length := by
        rcases Nat.lt_or_ge j zs.length with h' | h'
        · exact h'
        · rw [List.getElem?_eq_none (by simpa using h')] at hj; cases hj
      rw [Addr.add_lit]
      rw [List.getElem?_eq_getElem (by simpa using hj')] at hj
      simp only [List.getElem_map, Option.some.injEq] at hj
      rw [hcells j hj', hj]) (fun u hu => by
      simp only [List.mem_map] at hu
      obtain ⟨z, _, rfl⟩ := hu
      rfl) (by unfold maxLen; omega) (by omega) (Nat.le_refl _)
    exact ⟨v', w', hr, fin v' w' h1 h2⟩

set_option maxRecDepth 100000 in
set_option maxHeartbeats 4000000 in
theorem rowTells_any (p pm q : Option Addr) (c cm d : Nat) (xs ms : List Rw) (s : ByteArray) (zs : List Int) (lo hi : Int) (w : World) (a : Nat → Addr) (h : Env w a) (hE : Errs w a) (hx : RowsAt w (.slice p xs.length c) xs) (hm : RowsAt w (.slice pm ms.length cm) ms) (hz : KeysAt w (.slice q zs.length d) zs)
    (hlx : xs.length ≤ maxLen) (hlm : ms.length ≤ maxLen) (hls : s.size ≤ maxLen) (hlz : zs.length ≤ maxLen) :
    Calls Tryz.prog 4 #[.slice p xs.length c, .slice pm ms.length cm, .string s, .slice q zs.length d, .int .i64 lo, .int .i64 hi] w fun e w' => e = .returned (.bool true) ∧ Below w.heap.size w w' := by
  have hro := rowed_any w a h
  have hlong := fun W (hW : Below w.heap.size w W) => longRows_any (.slice p xs.length c) xs 40 W (hx.below hW) hlx (by omega)
  have hlong2 := fun W (hW : Below w.heap.size w W) => longRows_any (.slice pm ms.length cm) ms 40 W (hm.below hW) hlm (by omega)
  generalize hL : xs.length = L at hx hlx hlong ⊢
  generalize hN : ms.length = N at hm hlm hlong2 ⊢
  generalize hM : zs.length = M at hz hlz ⊢
  have HL : Hid (xs.length = L) := hL
  have HN : Hid (ms.length = N) := hN
  have HM : Hid (zs.length = M) := hM
  clear hL hN hM
  unfold maxLen at hlx hlm hls hlz
  have hl0 : longN 40 xs = 0 ∨ longN 40 xs = 1 := by unfold longN; split <;> simp
  have hl1 : longN 40 ms = 0 ∨ longN 40 ms = 1 := by unfold longN; split <;> simp
  cases hlb : longB 40 xs
  · cases hlb2 : longB 40 ms
    · rw [longN_no hlb] at hlong
      rw [longN_no hlb2] at hlong2
      have hl40 : L ≤ 40 := by have := longB_len hlb; rw [HL.out] at this; omega
      have hm40 : N ≤ 40 := by have := longB_len hlb2; rw [HN.out] at this; omega
      have HP : Hid (∀ x ∈ xs, x.1.size ≤ 30) := longB_part hlb
      clear hlb hlb2 hl0 hl1
      by_cases hbig : 100 < s.size
      · have hbig' : (100 : Int) < (s.size : Int) := by omega
        go_enter Tryz.func4, Tryz.ntmps4
        go_wp2_with fail
        refine hro.mono ?_
        rintro e w1 ⟨rfl, hb1⟩
        have hl1 := hlong w1 hb1
        clear hlong hro
        go_wp2_with fail
        refine hl1.mono ?_
        rintro e wl ⟨rfl, rfl⟩
        clear hl1
        have hl2 := hlong2 wl hb1
        clear hlong2
        go_wp2_with fail
        refine hl2.mono ?_
        rintro e w2 ⟨rfl, rfl⟩
        clear hl2
        go_wp2
        go_ret
        exact ⟨rfl, hb1⟩
      by_cases hbig2 : 40 < M
      · have hbig' : ¬ (100 : Int) < (s.size : Int) := by omega
        have hbig3 : (40 : Int) < (M : Int) := by omega
        go_enter Tryz.func4, Tryz.ntmps4
        go_wp2_with fail
        refine hro.mono ?_
        rintro e w1 ⟨rfl, hb1⟩
        have hl1 := hlong w1 hb1
        clear hlong hro
        go_wp2_with fail
        refine hl1.mono ?_
        rintro e wl ⟨rfl, rfl⟩
        clear hl1
        have hl2 := hlong2 wl hb1
        clear hlong2
        go_wp2_with fail
        refine hl2.mono ?_
        rintro e w2 ⟨rfl, rfl⟩
        clear hl2
        go_wp2
        go_ret
        exact ⟨rfl, hb1⟩
      · have hbig' : ¬ (100 : Int) < (s.size : Int) := by omega
        have hbig3 : ¬ (40 : Int) < (M : Int) := by omega
        go_enter Tryz.func4, Tryz.ntmps4
        go_wp2_with fail
        refine hro.mono ?_
        rintro e w1 ⟨rfl, hb1⟩
        have hl1 := hlong w1 hb1
        clear hlong hro
        go_wp2_with fail
        refine hl1.mono ?_
        rintro e wl ⟨rfl, rfl⟩
        clear hl1
        have hl2 := hlong2 wl hb1
        clear hlong2
        go_wp2_with fail
        refine hl2.mono ?_
        rintro e w2 ⟨rfl, rfl⟩
        clear hl2
        have hrd := read_any s w2 a (h.below hb1) (by omega)
        have hna := fun W => name_any s W (by unfold maxLen; omega)
        have hnb := fun W => isName_any s W (by unfold maxLen; omega)
        have hre := fun W => readRow_any s W (by omega)
        have hle := readO_le s.data.toList
        generalize readO s.data.toList = R at hrd hre hle
        obtain ⟨⟨rp, rk, rv⟩, rn⟩ := R
        dsimp only at hrd hre hle
        simp only [rowV] at hrd hre
        generalize nameB s.data.toList = nb at hna hnb
        go_wp2_with fail
        refine hrd.mono ?_
        rintro e w3 ⟨rfl, hb3⟩
        clear hrd
        have hB3 : Below w.heap.size w (w3.alloc (.cells #[.string rp, .int .i64 rk, .int .i64 rv] 30)) := (hb1.trans (hb3.mono hb1.size)).alloc (Nat.le_trans hb1.size hb3.size) _
        have x0 : (w3.alloc (.cells #[.string rp, .int .i64 rk, .int .i64 rv] 30)).cell? ⟨w3.heap.size, 0, none⟩ = some (.string rp) := by simp
        have x1 : (w3.alloc (.cells #[.string rp, .int .i64 rk, .int .i64 rv] 30)).cell? ⟨w3.heap.size, 1, none⟩ = some (.int .i64 rk) := by simp
        have x2 : (w3.alloc (.cells #[.string rp, .int .i64 rk, .int .i64 rv] 30)).cell? ⟨w3.heap.size, 2, none⟩ = some (.int .i64 rv) := by simp
        go_wp2_with fail
        generalize w3.heap.size = bx at x0 x1 x2 ⊢
        generalize w3.alloc (.cells #[.string rp, .int .i64 rk, .int .i64 rv] 30) = w3' at x0 x1 x2 hB3 ⊢
        refine (hre w3').mono ?_
        rintro e w4 ⟨rfl, hb4⟩
        clear hre
        have hB4' : Below w.heap.size w w4 := hB3.trans (hb4.mono hB3.size)
        have hB4 : Below w.heap.size w (w4.alloc (.cells #[.string rp, .int .i64 rk, .int .i64 rv] 30)) := hB4'.alloc hB4'.size _
        have hal4 : Below w4.heap.size w4 (w4.alloc (.cells #[.string rp, .int .i64 rk, .int .i64 rv] 30)) := (Below.refl _ _).alloc (Nat.le_refl _) _
        replace x0 := below_keep hal4 (below_keep hb4 x0)
        replace x1 := below_keep hal4 (below_keep hb4 x1)
        replace x2 := below_keep hal4 (below_keep hb4 x2)
        have y0 : (w4.alloc (.cells #[.string rp, .int .i64 rk, .int .i64 rv] 30)).cell? ⟨w4.heap.size, 0, none⟩ = some (.string rp) := by simp
        have y1 : (w4.alloc (.cells #[.string rp, .int .i64 rk, .int .i64 rv] 30)).cell? ⟨w4.heap.size, 1, none⟩ = some (.int .i64 rk) := by simp
        have y2 : (w4.alloc (.cells #[.string rp, .int .i64 rk, .int .i64 rv] 30)).cell? ⟨w4.heap.size, 2, none⟩ = some (.int .i64 rv) := by simp
        go_wp2_with fail
        clear hal4
        generalize w4.heap.size = by_ at y0 y1 y2 ⊢
        generalize w4.alloc (.cells #[.string rp, .int .i64 rk, .int .i64 rv] 30) = w4' at x0 x1 x2 y0 y1 y2 hB4 ⊢
        refine (hnb w4').mono ?_
        rintro e w5 ⟨rfl, rfl⟩
        clear hnb
        have hco := coded_same rn (by omega) w5 a (hE.below hB4)
        generalize errV a rn = ev at hco ⊢
        go_wp2_with fail
        refine hco.mono ?_
        rintro e w6 ⟨rfl, hb6⟩
        clear hco
        have hB6 : Below w.heap.size w w6 := hB4.trans (hb6.mono hB4.size)
        replace x0 := below_keep hb6 x0
        replace x1 := below_keep hb6 x1
        replace x2 := below_keep hb6 x2
        replace y0 := below_keep hb6 y0
        replace y1 := below_keep hb6 y1
        replace y2 := below_keep hb6 y2
        have hneq := neqRow.1 (rp, rk, rv) (rp, rk, rv)
        have hgd := neqRow.2
        simp only [encR, decide_true, Bool.not_true] at hneq
        have hgd' : ∀ (op : BinOp) (a b : Operand) (w : World), Sem.run Tryz.prog (eqGuard op 30 a b (.agg #[.string rp, .int .i64 rk, .int .i64 rv]) (.agg #[.string rp, .int .i64 rk, .int .i64 rv])) w = .ok () w := fun op a b w => hgd op a b (rp, rk, rv) (rp, rk, rv) w
        clear hgd
        go_wp2_with fail
        refine (hna w6).mono ?_
        rintro e w7 ⟨rfl, rfl⟩
        clear hna hneq hgd' x0 x1 x2 y0 y1 y2
        go_wp2
        go_loopw [19] (fun k wr => ∃ n : Nat, n ≤ L ∧ k = .int .i64 n ∧ Below w7.heap.size w7 wr) (fun k _ => L - (intOf k).toNat)
        case atStart => exact ⟨0, by omega, rfl, Below.refl _ _⟩
        case round =>
          obtain ⟨n, hn, rfl, hbr⟩ := hrel
          have hBr : Below w.heap.size w wr := hB6.trans (hbr.mono hB6.size)
          by_cases hlt : n < L
          · have hrr := hx.below hBr
            rcases hrr with ⟨_, _, e, e'⟩ | ⟨b, o, cap, e, hcells⟩
            · exfalso; have := HL.out; rw [e'] at this; simp at this; omega
            · injection e with e1 e2 e3
              subst e1
              clear e2 e3
              have hltx : n < xs.length := by rw [HL.out]; exact hlt
              obtain ⟨c1, c2, c3⟩ := hcells n hltx
              have hps : xs[n].1.size ≤ maxLen := by
                have := HP.out xs[n] (List.getElem_mem _)
                unfold maxLen; omega
              have since : ∀ d os, Below w.heap.size w (grow (redrawn wr d) os) := fun d os => hBr.trans ((below_regrown wr d os).mono hBr.size)
              have hle5 := rowE_le xs[n]
              have hck := fun d os => Calls.regrown_of (w := wr) (d := d) (os := os) (check_any xs[n] _ a (h.below (since d os)) hps)
              have htx := fun d os => Calls.regrown_of (w := wr) (d := d) (os := os) (text_any xs[n] _ a (h.below (since d os)) hps)
              have hrt := fun d os => Calls.regrown_of (w := wr) (d := d) (os := os) (rowText_any xs[n] _ hps)
              have hre := fun d os => Calls.regrown_of (w := wr) (d := d) (os := os) (rowError_any xs[n] _ hps)
              have hco := fun d os => Calls.regrown_of (w := wr) (d := d) (os := os) (coded_same (rowE xs[n]) (by omega) _ a (hE.below (since d os)))
              have hless := fun (y : Rw) W => less_any y xs[n] W
              have hisl := fun (y : Rw) W => isLess_any y xs[n] W
              clear since
              generalize xs[n] = x at c1 c2 c3 hck htx hrt hre hle5 hless hisl hco
              obtain ⟨xp, xk, xv⟩ := x
              generalize rowE (xp, xk, xv) = en at hck hre hle5 hco
              generalize errV a en = ev1 at hck hco
              generalize textB (xp, xk, xv) = tb at htx hrt
              dsimp only at c1 c2 c3 hck htx hrt hre hless hisl
              have hi : (n : Int) < (L : Int) := by omega
              have hi0 : (0 : Int) ≤ (n : Int) := by omega
              have hmx : Tryz.prog.follows .mixedOrders = true := by kernel_rfl
              have d1 := cell_regrown c1
              have d2 := cell_regrown c2
              have d3 := cell_regrown c3
              go_wp2_with fail
              refine wp_region_quiet_below hmx (by kernel_rfl) ?_
              repeat (go_big_quiet_step (first | exact hck _ _ | exact hre _ _ | exact hco _ _ | exact htx _ _ | exact hrt _ _))
              refine wpQuiet_nil ?_
              intro _ hw'
              obtain ⟨⟨dq, osq⟩, hw''⟩ := hw'
              subst hw''
              clear hck htx hrt hre hco d1 d2 d3
              have hbW := below_regrown wr dq osq
              generalize grow (redrawn wr dq) osq = W1 at hbW ⊢
              by_cases hn0 : n = 0
              · subst hn0
                go_wp2
                have hbZ : Below w7.heap.size w7 W1 := hbr.trans (hbW.mono hbr.size)
                go_roundw
                case rel => exact ⟨0 + 1, by omega, by go_num, hbZ⟩
                case measure => simp [intOf]; omega
              · obtain ⟨j, rfl⟩ : ∃ j, n = j + 1 := ⟨n - 1, by omega⟩
                have hj0 : j < xs.length := by omega
                obtain ⟨b1, b2, b3⟩ := hcells j hj0
                have hless1 := hless xs[j]
                have hisl1 := hisl xs[j]
                generalize xs[j] = y at b1 b2 b3 hless1 hisl1
                obtain ⟨yp, yk, yv⟩ := y
                dsimp only at b1 b2 b3 hless1 hisl1
                generalize ltOf cfR (yp, yk, yv) (xp, xk, xv) = lb at hless1 hisl1
                clear hless hisl hcells hx
                have hisl2 := fun d os => Calls.regrown_of (w := W1) (d := d) (os := os) (hisl1 _)
                have d1 := cell_regrown (below_keep hbW c1)
                have d2 := cell_regrown (below_keep hbW c2)
                have d3 := cell_regrown (below_keep hbW c3)
                have e1 := cell_regrown (below_keep hbW b1)
                have e2 := cell_regrown (below_keep hbW b2)
                have e3 := cell_regrown (below_keep hbW b3)
                have hi3 : (j : Int) < (L : Int) := by omega
                have hi4 : (0 : Int) ≤ (j : Int) := by omega
                have hi5 : IntKind.i64.wrap (j : Int) = (j : Int) := IntWalk.i64_in _ (by omega)
                have hi6 : (0 : Int) < (j : Int) + 1 := by omega
                go_wp2_with fail
                refine wp_region_quiet_below hmx (by kernel_rfl) ?_
                repeat (go_big_quiet_step (exact hisl2 _ _))
                refine wpQuiet_nil ?_
                intro _ hw'
                obtain ⟨⟨dq, osq⟩, hw''⟩ := hw'
                subst hw''
                clear hisl2 d1 d2 d3 e1 e2 e3
                have hbW2 := hbW.trans ((below_regrown W1 dq osq).mono hbW.size)
                generalize grow (redrawn W1 dq) osq = W2 at hbW2 ⊢
                have hless2 := fun d os => Calls.regrown_of (w := W2) (d := d) (os := os) (hless1 _)
                have d1 := cell_regrown (below_keep hbW2 c1)
                have d2 := cell_regrown (below_keep hbW2 c2)
                have d3 := cell_regrown (below_keep hbW2 c3)
                have e1 := cell_regrown (below_keep hbW2 b1)
                have e2 := cell_regrown (below_keep hbW2 b2)
                have e3 := cell_regrown (below_keep hbW2 b3)
                go_wp2_with fail
                refine wp_region_quiet_below hmx (by kernel_rfl) ?_
                repeat (go_big_quiet_step (exact hless2 _ _))
                refine wpQuiet_nil ?_
                intro _ hw'
                obtain ⟨⟨dq, osq⟩, hw''⟩ := hw'
                subst hw''
                clear hless2 d1 d2 d3 e1 e2 e3
                have hbW3 := hbW2.trans ((below_regrown W2 dq osq).mono hbW2.size)
                generalize grow (redrawn W2 dq) osq = W3 at hbW3 ⊢
                go_wp2
                have hbZ : Below w7.heap.size w7 W3 := hbr.trans (hbW3.mono hbr.size)
                go_roundw
                case rel => exact ⟨j + 1 + 1, by omega, by go_num, hbZ⟩
                case measure => simp [intOf]; omega
          · have hap := append_keys q M d zs wr (hz.below hBr) HM.out (by omega)
            go_wp2_with (at_builtin; refine wpList_append_out rfl _ _ 23 rfl _ _ rfl rfl (fun ty => hap ty) ?_)
            intro kv w8 hk8 hb8
            clear hap
            have hB8 : Below w.heap.size w w8 := hBr.trans (hb8.mono hBr.size)
            have how := ownRows_any (.slice p L c) xs w8 (hx.below hB8) (by rw [HL.out]; omega)
            go_wp2_with fail
            refine how.mono ?_
            rintro e w9 ⟨av, rfl, ho9, hb9⟩
            clear how
            have hB9 : Below w.heap.size w w9 := hB8.trans (hb9.mono hB8.size)
            have ha9 := (rowsAt_of_own ho9).1
            clear ho9
            replace hk8 := hk8.below hb9
            have hc := sortRows_at (.slice p L c) xs w9 (hx.below hB9) (by rw [HL.out]; omega)
            go_wp2_with fail
            refine hc.mono ?_
            rintro e w10 ⟨v10, rfl, hr_v10, hb⟩
            clear hc
            have hBw10 : Below w.heap.size w w10 := hB9.trans (hb.mono hB9.size)
            replace ha9 := ha9.below hb
            replace hk8 := hk8.below hb
            clear hb
            have hc := sortRows_at (.slice pm N cm) ms w10 (hm.below hBw10) (by rw [HN.out]; omega)
            go_wp2_with fail
            refine hc.mono ?_
            rintro e w11 ⟨v11, rfl, hr_v11, hb⟩
            clear hc
            have hBw11 : Below w.heap.size w w11 := hBw10.trans (hb.mono hBw10.size)
            replace ha9 := ha9.below hb
            replace hk8 := hk8.below hb
            replace hr_v10 := hr_v10.below hb
            clear hb
            have hc := sameRows_any v10 v11 (sortR xs) (sortR ms) w11 hr_v10 hr_v11 (by rw [sortR_len, HL.out]; omega) (by rw [sortR_len, HN.out]; omega)
            go_wp2_with fail
            refine hc.mono ?_
            rintro e w12 ⟨rfl, hb⟩
            clear hc
            have hBw12 : Below w.heap.size w w12 := hBw11.trans (hb.mono hBw11.size)
            replace ha9 := ha9.below hb
            replace hk8 := hk8.below hb
            clear hb
            clear hr_v10 hr_v11
            have hc := sort_any av xs w12 ha9 (by rw [HL.out]; omega)
            go_wp2_with fail
            refine hc.mono ?_
            rintro e w13 ⟨v13, rfl, hr_v13, hb⟩
            clear hc
            have hBw13 : Below w.heap.size w w13 := hBw12.trans (hb.mono hBw12.size)
            replace ha9 := ha9.below hb
            replace hk8 := hk8.below hb
            clear hb
            have hc := sortRows_at (.slice p L c) xs w13 (hx.below hBw13) (by rw [HL.out]; omega)
            go_wp2_with fail
            refine hc.mono ?_
            rintro e w14 ⟨v14, rfl, hr_v14, hb⟩
            clear hc
            have hBw14 : Below w.heap.size w w14 := hBw13.trans (hb.mono hBw13.size)
            replace ha9 := ha9.below hb
            replace hk8 := hk8.below hb
            replace hr_v13 := hr_v13.below hb
            clear hb
            have hc := (by have := sameRows_any v13 v14 (sortR xs) (sortR xs) w14 hr_v13 hr_v14 (by rw [sortR_len, HL.out]; omega) (by rw [sortR_len, HL.out]; omega); rw [decide_eq_true rfl] at this; exact this : Calls Tryz.prog 13 #[v13, v14] w14 fun e w' => e = .returned (.bool true) ∧ Below w14.heap.size w14 w')
            go_wp2_with fail
            refine hc.mono ?_
            rintro e w15 ⟨rfl, hb⟩
            clear hc
            have hBw15 : Below w.heap.size w w15 := hBw14.trans (hb.mono hBw14.size)
            replace ha9 := ha9.below hb
            replace hk8 := hk8.below hb
            clear hb
            clear hr_v13 hr_v14
            have hc := ownRows_any (.slice pm N cm) ms w15 (hm.below hBw15) (by rw [HN.out]; omega)
            go_wp2_with fail
            refine hc.mono ?_
            rintro e w16 ⟨v16, rfl, ho, hb⟩
            clear hc
            have hr_v16 := (rowsAt_of_own ho).1
            clear ho
            have hBw16 : Below w.heap.size w w16 := hBw15.trans (hb.mono hBw15.size)
            replace ha9 := ha9.below hb
            replace hk8 := hk8.below hb
            clear hb
            have hc := same_any av v16 xs ms w16 ha9 hr_v16 (by rw [HL.out]; omega) (by rw [HN.out]; omega)
            go_wp2_with fail
            refine hc.mono ?_
            rintro e w17 ⟨rfl, hb⟩
            clear hc
            have hBw17 : Below w.heap.size w w17 := hBw16.trans (hb.mono hBw16.size)
            replace ha9 := ha9.below hb
            replace hk8 := hk8.below hb
            clear hb
            clear hr_v16
            have hc := drop_any av kv xs zs w17 ha9 hk8 (by rw [HL.out]; omega) (by rw [HM.out]; omega)
            go_wp2_with fail
            refine hc.mono ?_
            rintro e w18 ⟨v18, rfl, hr_v18, hb⟩
            clear hc
            have hBw18 : Below w.heap.size w w18 := hBw17.trans (hb.mono hBw17.size)
            replace ha9 := ha9.below hb
            replace hk8 := hk8.below hb
            clear hb
            have hc := dropRows_any (.slice p L c) xs (.slice q M d) zs w18 (hx.below hBw18) (by rw [HL.out]; omega) (hz.below hBw18) (by rw [HM.out]; unfold maxLen; omega)
            go_wp2_with fail
            refine hc.mono ?_
            rintro e w19 ⟨v19, rfl, hr_v19, hb⟩
            clear hc
            have hBw19 : Below w.heap.size w w19 := hBw18.trans (hb.mono hBw18.size)
            replace ha9 := ha9.below hb
            replace hk8 := hk8.below hb
            replace hr_v18 := hr_v18.below hb
            clear hb
            have hc := (by have := sameRows_any v18 v19 (xs.filter (outB zs)) (xs.filter (outB zs)) w19 hr_v18 hr_v19 (Nat.le_trans (List.length_filter_le _ _) (by rw [HL.out]; omega)) (Nat.le_trans (List.length_filter_le _ _) (by rw [HL.out]; omega)); rw [decide_eq_true rfl] at this; exact this : Calls Tryz.prog 13 #[v18, v19] w19 fun e w' => e = .returned (.bool true) ∧ Below w19.heap.size w19 w')
            go_wp2_with fail
            refine hc.mono ?_
            rintro e w20 ⟨rfl, hb⟩
            clear hc
            have hBw20 : Below w.heap.size w w20 := hBw19.trans (hb.mono hBw19.size)
            replace ha9 := ha9.below hb
            replace hk8 := hk8.below hb
            clear hb
            clear hr_v18 hr_v19
            have hc := within_any av xs lo hi w20 ha9 (by rw [HL.out]; omega)
            go_wp2_with fail
            refine hc.mono ?_
            rintro e w21 ⟨v21, rfl, hr_v21, hb⟩
            clear hc
            have hBw21 : Below w.heap.size w w21 := hBw20.trans (hb.mono hBw20.size)
            replace ha9 := ha9.below hb
            replace hk8 := hk8.below hb
            clear hb
            have hc := withinRows_any (.slice p L c) xs lo hi w21 (hx.below hBw21) (by rw [HL.out]; omega)
            go_wp2_with fail
            refine hc.mono ?_
            rintro e w22 ⟨v22, rfl, hr_v22, hb⟩
            clear hc
            have hBw22 : Below w.heap.size w w22 := hBw21.trans (hb.mono hBw21.size)
            replace ha9 := ha9.below hb
            replace hk8 := hk8.below hb
            replace hr_v21 := hr_v21.below hb
            clear hb
            have hc := (by have := sameRows_any v21 v22 (xs.filter (inB lo hi)) (xs.filter (inB lo hi)) w22 hr_v21 hr_v22 (Nat.le_trans (List.length_filter_le _ _) (by rw [HL.out]; omega)) (Nat.le_trans (List.length_filter_le _ _) (by rw [HL.out]; omega)); rw [decide_eq_true rfl] at this; exact this : Calls Tryz.prog 13 #[v21, v22] w22 fun e w' => e = .returned (.bool true) ∧ Below w22.heap.size w22 w')
            go_wp2_with fail
            refine hc.mono ?_
            rintro e w23 ⟨rfl, hb⟩
            clear hc
            have hBw23 : Below w.heap.size w w23 := hBw22.trans (hb.mono hBw22.size)
            replace ha9 := ha9.below hb
            replace hk8 := hk8.below hb
            clear hb
            clear hr_v21 hr_v22
            have hc := (by have := sameRows_any av (.slice p L c) xs xs w23 ha9 (hx.below hBw23) (by rw [HL.out]; omega) (by rw [HL.out]; omega); rw [decide_eq_true rfl] at this; exact this : Calls Tryz.prog 13 #[av, .slice p L c] w23 fun e w' => e = .returned (.bool true) ∧ Below w23.heap.size w23 w')
            go_wp2_with fail
            refine hc.mono ?_
            rintro e w24 ⟨rfl, hb⟩
            clear hc
            have hBw24 : Below w.heap.size w w24 := hBw23.trans (hb.mono hBw23.size)
            clear hb
            go_wp2
            go_ret
            exact ⟨rfl, hBw24⟩
    · rw [longN_no hlb] at hlong
      rw [longN_yes hlb2] at hlong2
      clear hlb hlb2 hl0 hl1
      go_enter Tryz.func4, Tryz.ntmps4
      go_wp2_with fail
      refine hro.mono ?_
      rintro e w1 ⟨rfl, hb1⟩
      have hl1 := hlong w1 hb1
      clear hlong hro
      go_wp2_with fail
      refine hl1.mono ?_
      rintro e wl ⟨rfl, rfl⟩
      clear hl1
      have hl2 := hlong2 wl hb1
      clear hlong2
      go_wp2_with fail
      refine hl2.mono ?_
      rintro e w2 ⟨rfl, rfl⟩
      clear hl2
      go_wp2
      go_ret
      exact ⟨rfl, hb1⟩
  · rw [longN_yes hlb] at hlong
    rcases hl1 with hl1 | hl1
    · rw [hl1] at hlong2
      clear hlb hl0 hl1
      go_enter Tryz.func4, Tryz.ntmps4
      go_wp2_with fail
      refine hro.mono ?_
      rintro e w1 ⟨rfl, hb1⟩
      have hl1 := hlong w1 hb1
      clear hlong hro
      go_wp2_with fail
      refine hl1.mono ?_
      rintro e wl ⟨rfl, rfl⟩
      clear hl1
      have hl2 := hlong2 wl hb1
      clear hlong2
      go_wp2_with fail
      refine hl2.mono ?_
      rintro e w2 ⟨rfl, rfl⟩
      clear hl2
      go_wp2
      go_ret
      exact ⟨rfl, hb1⟩
    · rw [hl1] at hlong2
      clear hlb hl0 hl1
      go_enter Tryz.func4, Tryz.ntmps4
      go_wp2_with fail
      refine hro.mono ?_
      rintro e w1 ⟨rfl, hb1⟩
      have hl1 := hlong w1 hb1
      clear hlong hro
      go_wp2_with fail
      refine hl1.mono ?_
      rintro e wl ⟨rfl, rfl⟩
      clear hl1
      have hl2 := hlong2 wl hb1
      clear hlong2
      go_wp2_with fail
      refine hl2.mono ?_
      rintro e w2 ⟨rfl, rfl⟩
      clear hl2
      go_wp2
      go_ret
      exact ⟨rfl, hb1⟩
end Go.Proofs.YtgffkkijfmoooaaGreatDoor
