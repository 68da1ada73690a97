/-
  The walk of RowSorts: whatever rows, keys and number: true; what was there is as it was.
-/
import Derived.Test.YtgffkkijfmoooaaGreatDoorRowLaw
namespace Go.Proofs.YtgffkkijfmoooaaGreatDoor
open Go.RowKit Go.Extern.Stop Go.Stop Go.Extern Go.Sort Go.Shelf Go.Lib

/-- A slice of rows has the form of a slice. -/
theorem RowsAt.form {w : World} {v : Value} {xs : List Rw} (h : RowsAt w v xs) : ∃ p c, v = .slice p xs.length c := by
  rcases h with ⟨p, c, rfl, rfl⟩ | ⟨b, o, cap, rfl, _⟩
  · exact ⟨_, _, rfl⟩
  · exact ⟨_, _, rfl⟩
theorem KeysAt.form {w : World} {v : Value} {zs : List Int} (h : KeysAt w v zs) : ∃ p c, v = .slice p zs.length c := by
  rcases h with ⟨p, c, rfl, rfl⟩ | ⟨b, o, cap, rfl, _⟩
  · exact ⟨_, _, rfl⟩
  · exact ⟨_, _, rfl⟩

/-- Nothing is appended: the slice is as it was. -/
theorem append_nothing (p : Option Addr) (n c : Nat) (ty : TypeId) (w : World) (h : n ≤ c) : (Builtin.append_ #[22, 22] ty #[.slice p n c, .slice none 0 0]).run Tryz.prog w = .ok (.slice p n c) w := by
  obtain ⟨i0, hi0, hz0, hs0, hby0⟩ := Tryz.rowInfo
  cases p with
  | none => simp [Builtin.append_, run_underlying Tryz.underlying22, sizeOf, typeInfo, zeroValue, hi0, hz0, Builtin.lenOf, run_firstCells_none, h]
  | some a => simp [Builtin.append_, run_underlying Tryz.underlying22, sizeOf, typeInfo, zeroValue, hi0, hz0, Builtin.lenOf, run_firstCells_none, h, storeCells]

theorem wpList_append_nothing {P : Program} {w : World} {ops : Array Oper} {rest : List Oper} {o : Oper} {a : Act} {Q : Exit → Act → World → Prop} (hgd : o.guard = none) (s x : Operand) (t : TypeId)
    (ho : o.op = .call { callee := .builtin .append, args := #[s, x], argTypes := #[t, t] }) (v : Value) (hs : a.eval s = v) (hx : a.eval x = .slice none 0 0)
    (hr : ∀ ty w, (Builtin.append_ #[t, t] ty #[v, .slice none 0 0]).run P w = .ok v w) (h : wpList P ops Q rest (a.put o.dst v) w) : wpList P ops Q (o :: rest) a w := by
  refine wpList_plain hgd fun K hK => ?_
  unfold Oper.wp execOp
  simp only [ho, resolve, invoke, builtin, Sem.run_bind, Sem.run_pure, Result.andThen_ok, List.map_toArray, List.map_cons, List.map_nil, hs, hx, hr]
  exact hK _ _ h

theorem own_cap {w : World} {base : Nat} {e : TypeId} {size : Nat} {p : Option Addr} {n c m : Nat} {xs : List Value} (h : w.ownsRow base e size (.slice p n c) m xs) : n ≤ c := by
  rcases h.2 with ⟨e, _⟩ | ⟨g, cap, cur, e, _, _, hn, _⟩
  · injection e with _ e2 e3; omega
  · injection e with _ e2 e3; omega

set_option maxRecDepth 100000 in
set_option maxHeartbeats 4000000 in
theorem rowSorts_any (p q : Option Addr) (c d : Nat) (xs : List Rw) (zs : List Int) (at_ : Int) (w : World) (a : Nat → Addr) (h : Env w a) (hx : RowsAt w (.slice p xs.length c) xs) (hz : KeysAt w (.slice q zs.length d) zs)
    (hlx : xs.length ≤ maxLen) (hlz : zs.length ≤ maxLen) (hok : ∀ x ∈ xs, okKey x) (ha0 : -9223372036854775808 ≤ at_) (ha : at_ ≤ 9223372036854775807) :
    Calls Tryz.prog 3 #[.slice p xs.length c, .slice q zs.length d, .int .i64 at_] w fun e w' => e = .returned (.bool true) ∧ Below w.heap.size w w' := by
  have hro := rowed_any w a h
  have hlong := fun W (hW : Below w.heap.size w W) => longRows_any (.slice p xs.length c) xs 40 W (hx.below hW) hlx (by omega)
  generalize hL : xs.length = L at hx hlx hlong ⊢
  generalize hM : zs.length = M at hz hlz ⊢
  have HL : Hid (xs.length = L) := hL
  have HM : Hid (zs.length = M) := hM
  unfold maxLen at hlx hlz
  cases hlb : longB 40 xs
  · rw [longN_no hlb] at hlong
    have hl40 : L ≤ 40 := by have := longB_len hlb; omega
    have HP : Hid (∀ x ∈ xs, x.1.size ≤ 30) := longB_part hlb
    by_cases hm : 40 < M
    · clear hL hM hlb
      go_enter Tryz.func3, Tryz.ntmps3
      go_wp2_with fail
      refine hro.mono ?_
      rintro e w1 ⟨rfl, hb1⟩
      have hl1 := hlong w1 hb1
      clear hlong hro
      go_wp2_with fail
      refine hl1.mono ?_
      rintro e wl ⟨rfl, rfl⟩
      clear hl1
      go_wp2
      go_ret
      exact ⟨rfl, hb1⟩
    · clear hL hM hlb
      go_enter Tryz.func3, Tryz.ntmps3
      go_wp2_with fail
      refine hro.mono ?_
      rintro e w1 ⟨rfl, hb1⟩
      have hl1 := hlong w1 hb1
      clear hlong hro
      go_wp2_with fail
      refine hl1.mono ?_
      rintro e wl ⟨rfl, rfl⟩
      clear hl1
      go_wp2_with fail
      have hx1 := hx.below hb1
      have hown := ownRows_any (.slice p L c) xs wl hx1 (by rw [HL.out]; omega)
      refine hown.mono ?_
      rintro e w2 ⟨v2, rfl, ho2, hb2⟩
      clear hown
      have hB2 : Below w.heap.size w w2 := hb1.trans (hb2.mono hb1.size)
      have hso := sort_any v2 xs w2 (rowsAt_of_own ho2).1 (by rw [HL.out]; omega)
      clear ho2
      go_wp2_with fail
      refine hso.mono ?_
      rintro e w3 ⟨v3, rfl, hr3, hb3⟩
      clear hso
      have hB3 : Below w.heap.size w w3 := hB2.trans (hb3.mono hB2.size)
      have hsa := same_any v3 (.slice p L c) (sortR xs) xs w3 hr3 (hx.below hB3) (by rw [sortR_len, HL.out]; omega) (by rw [HL.out]; omega)
      rw [decide_eq_true (sortR_twice xs)] at hsa
      obtain ⟨p3, c3, rfl⟩ := hr3.form
      rw [sortR_len, HL.out] at hr3 hsa ⊢
      go_wp2_with fail
      refine hsa.mono ?_
      rintro e w4 ⟨rfl, hb4⟩
      clear hsa
      have hB4 : Below w.heap.size w w4 := hB3.trans (hb4.mono hB3.size)
      have hr4 := hr3.below hb4
      have hs5 := sort_any (.slice p3 L c3) (sortR xs) w4 hr4 (by rw [sortR_len, HL.out]; omega)
      rw [sortR_twice] at hs5
      clear hr3
      go_wp2_with fail
      refine hs5.mono ?_
      rintro e w5 ⟨v5, rfl, hr5, hb5⟩
      clear hs5
      have hB5 : Below w.heap.size w w5 := hB4.trans (hb5.mono hB4.size)
      have hsr := sameRows_any v5 (.slice p3 L c3) (sortR xs) (sortR xs) w5 hr5 (hr4.below hb5) (by rw [sortR_len, HL.out]; omega) (by rw [sortR_len, HL.out]; omega)
      rw [decide_eq_true rfl] at hsr
      have hr5' := hr4.below hb5
      clear hr5 hr4
      go_wp2_with fail
      refine hsr.mono ?_
      rintro e w6 ⟨rfl, hb6⟩
      clear hsr
      have hB6 : Below w.heap.size w w6 := hB5.trans (hb6.mono hB5.size)
      have hr6 := hr5'.below hb6
      clear hr5'
      go_wp2
      go_loopw [9] (fun k wr => ∃ n : Nat, 1 ≤ n ∧ n ≤ L + 1 ∧ k = .int .i64 n ∧ Below w6.heap.size w6 wr) (fun k _ => L + 1 - (intOf k).toNat)
      case atStart => exact ⟨1, by omega, by omega, rfl, Below.refl _ _⟩
      case round =>
        obtain ⟨n, hn1, hn2, rfl, hbr⟩ := hrel
        have hBr : Below w.heap.size w wr := hB6.trans (hbr.mono hB6.size)
        by_cases hlt : n < L
        · obtain ⟨j, rfl⟩ : ∃ j, n = j + 1 := ⟨n - 1, by omega⟩
          have hrr := hr6.below hbr
          have hlen : (sortR xs).length = L := by rw [sortR_len, HL.out]
          rcases hrr with ⟨_, _, e, e'⟩ | ⟨b, o, cap, e, hcells⟩
          · exfalso; rw [e'] at hlen; simp at hlen; omega
          · injection e with e1 e2 e3
            subst e1
            clear e2 e3
            have hj1 : j + 1 < (sortR xs).length := by rw [hlen]; exact hlt
            have hj0 : j < (sortR xs).length := by omega
            obtain ⟨a1, a2, a3⟩ := hcells (j + 1) hj1
            obtain ⟨b1, b2, b3⟩ := hcells j hj0
            have hless := less_any (sortR xs)[j + 1] (sortR xs)[j]
            rw [sortR_next xs j hj1] at hless
            generalize (sortR xs)[j + 1] = x at a1 a2 a3 hless
            generalize (sortR xs)[j] = y at b1 b2 b3 hless
            obtain ⟨xp, xk, xv⟩ := x
            obtain ⟨yp, yk, yv⟩ := y
            dsimp only at a1 a2 a3 b1 b2 b3 hless
            have hm : Tryz.prog.follows .mixedOrders = true := by kernel_rfl
            clear hcells hr6 hx hz hx1 hok hlen hj1 hj0
            have hi : ((j : Int) + 1) < (L : Int) := by omega
            have hi2 : (0 : Int) ≤ (j : Int) + 1 := by omega
            have hi3 : (j : Int) < (L : Int) := by omega
            have hi4 : (0 : Int) ≤ (j : Int) := by omega
            have hi5 : IntKind.i64.wrap (j : Int) = (j : Int) := IntWalk.i64_in _ (by omega)
            go_wp2
            refine still_tail 9 hm (by kernel_rfl) ?_
            simp only [List.take_succ_cons, List.take_zero, List.drop_succ_cons, List.drop_zero]
            still_step
            still_step
            still_step
            still_step
            still_step
            still_step
            still_step
            still_step
            still_step
            refine wpStill_nil ?_
            go_wp2_with (go_at_call 14; refine (hless _).mono ?_; rintro e w8 ⟨rfl, hb8⟩)
            have hb9 : Below w6.heap.size w6 w8 := hbr.drew.trans (hb8.mono hbr.size)
            go_roundw
            case rel => exact ⟨j + 1 + 1, by omega, by omega, by go_num, hb9⟩
            case measure => simp [intOf]; omega
        · have hdr := drop_any (.slice p L c) (.slice q M d) xs zs wr (hx.below hBr) (hz.below hBr) (by rw [HL.out]; omega) (by rw [HM.out]; omega)
          have hfl : (xs.filter (outB zs)).length ≤ L := by rw [← HL.out]; exact List.length_filter_le _ _
          go_wp2_with fail
          refine hdr.mono ?_
          rintro e w10 ⟨v10, rfl, hr10, hb10⟩
          clear hdr hr6
          have hB10 : Below w.heap.size w w10 := hBr.trans (hb10.mono hBr.size)
          obtain ⟨p10, c10, rfl⟩ := hr10.form
          have hdr2 := drop_any _ (.slice q M d) (xs.filter (outB zs)) zs w10 hr10 (hz.below hB10) (by omega) (by rw [HM.out]; omega)
          rw [drop_twice] at hdr2
          generalize hF : (xs.filter (outB zs)).length = F at hr10 hdr2 hfl ⊢
          have HF : Hid ((xs.filter (outB zs)).length = F) := hF
          clear hF
          go_wp2_with fail
          refine hdr2.mono ?_
          rintro e w11 ⟨v11, rfl, hr11, hb11⟩
          clear hdr2
          have hB11 : Below w.heap.size w w11 := hB10.trans (hb11.mono hB10.size)
          have hs11 := sameRows_any v11 (.slice p10 F c10) (xs.filter (outB zs)) (xs.filter (outB zs)) w11 hr11 (hr10.below hb11) (by rw [HF.out]; omega) (by rw [HF.out]; omega)
          rw [decide_eq_true rfl] at hs11
          clear hr11 hr10
          go_wp2_with fail
          refine hs11.mono ?_
          rintro e w12 ⟨rfl, hb12⟩
          clear hs11
          have hB12 : Below w.heap.size w w12 := hB11.trans (hb12.mono hB11.size)
          have hwi := within_any (.slice p L c) xs (-9223372036854775808) at_ w12 (hx.below hB12) (by rw [HL.out]; omega)
          go_wp2_with fail
          refine hwi.mono ?_
          rintro e w13 ⟨v13, rfl, hr13, hb13⟩
          clear hwi
          have hB13 : Below w.heap.size w w13 := hB12.trans (hb13.mono hB12.size)
          by_cases hat : at_ < 9223372036854775807
          · have hlow : (xs.filter (inB (-9223372036854775808) at_)).length ≤ L := by rw [← HL.out]; exact List.length_filter_le _ _
            have how := ownRows_any v13 _ w13 hr13 (by omega)
            clear hr13
            go_wp2_with fail
            refine how.mono ?_
            rintro e w14 ⟨v14, rfl, ho14, hb14⟩
            clear how
            have hB14 : Below w.heap.size w w14 := hB13.trans (hb14.mono hB13.size)
            have hw1 : IntKind.i64.wrap (at_ + 1) = at_ + 1 := IntWalk.i64_in _ (by omega)
            have hwi2 := within_own (.slice p L c) xs (at_ + 1) 9223372036854775807 w14 (hx.below hB14) (by rw [HL.out]; omega)
            have hhi : (xs.filter (inB (at_ + 1) 9223372036854775807)).length ≤ L := by rw [← HL.out]; exact List.length_filter_le _ _
            go_wp2_with fail
            refine hwi2.mono ?_
            rintro e w15 ⟨v15, rfl, ⟨B15, _, hr15⟩, hb15⟩
            clear hwi2
            have hB15 : Below w.heap.size w w15 := hB14.trans (hb15.mono hB14.size)
            have ho15 := own_below ho14 hb15
            have hrows := rowsAt_of_own ho15
            have hsz13 : w.heap.size ≤ w13.heap.size := hB13.size
            have hsz15 : w13.heap.size ≤ w15.heap.size := Nat.le_trans hb14.size hb15.size
            clear ho14
            obtain ⟨i0, hi0, hz0, hs0, hby0⟩ := Tryz.rowInfo
            rcases (own_cases hr15).2 with ⟨rfl, hnil⟩ | ⟨b15, c15, rfl, hc15⟩
            · have hr16 : RowsAt w15 v14 (xs.filter (inB (-9223372036854775808) at_) ++ xs.filter (inB (at_ + 1) 9223372036854775807)) := by
                rw [hnil, List.append_nil]; exact hrows.1
              obtain ⟨p14, c14, rfl⟩ := hrows.1.form
              have happ := fun ty w => append_nothing p14 (xs.filter (inB (-9223372036854775808) at_)).length c14 ty w (own_cap ho15)
              clear hnil hrows ho15
              go_wp2_with (at_builtin; refine wpList_append_nothing rfl _ _ 22 rfl _ rfl rfl happ ?_)
              have hsT := same_any (.slice p14 (xs.filter (inB (-9223372036854775808) at_)).length c14) (.slice p L c) (xs.filter (inB (-9223372036854775808) at_) ++ xs.filter (inB (at_ + 1) 9223372036854775807)) xs w15 hr16 (hx.below hB15) (by rw [List.length_append]; omega) (by rw [HL.out]; omega)
              rw [decide_eq_true (sortR_of_perm (within_all xs at_ hok))] at hsT
              clear hr16
              go_wp2_with fail
              refine hsT.mono ?_
              rintro e w20 ⟨rfl, hb20⟩
              clear hsT
              have hB20 : Below w.heap.size w w20 := hB15.trans (hb20.mono hB15.size)
              go_wp2
              go_loopw [13] (fun k wr => ∃ n : Nat, n ≤ L ∧ k = .int .i64 n ∧ Below w20.heap.size w20 wr) (fun k _ => L - (intOf k).toNat)
              case atStart => exact ⟨0, by omega, rfl, Below.refl _ _⟩
              case round =>
                obtain ⟨n, hn, rfl, hbq⟩ := hrel
                have hBq : Below w.heap.size w wr := hB20.trans (hbq.mono hB20.size)
                by_cases hlt : n < L
                · rcases hx.below hBq with ⟨_, _, e, e'⟩ | ⟨b, o, cap, e, hcells⟩
                  · exfalso; have := HL.out; rw [e'] at this; simp at this; omega
                  · injection e with e1 e2 e3
                    subst e1
                    clear e2 e3
                    have hnx : n < xs.length := by rw [HL.out]; exact hlt
                    obtain ⟨a1, a2, a3⟩ := hcells n hnx
                    have hps : xs[n].1.size ≤ maxLen := by
                      have := HP.out xs[n] (List.getElem_mem _)
                      unfold maxLen; omega
                    have hck := check_any xs[n] wr a (h.below hBq) hps
                    have htx := fun W (hW : Env W a) => text_any xs[n] W a hW hps
                    have hrd := fun W (hW : Env W a) => read_any (textB xs[n]) W a hW
                    generalize xs[n] = x at a1 a2 a3 hck htx hrd
                    clear hcells hps hnx
                    have hi : (n : Int) < (L : Int) := by omega
                    by_cases he : rowE x = 0
                    · have hsz : (textB x).size < 4294967281 := by
                        rw [← size_list, textB_ok x he]
                        have hx0 := he
                        unfold rowE at hx0
                        split at hx0
                        · rename_i hnm
                          split at hx0
                          · rename_i hnn
                            simp only [Bool.and_eq_true, inNum, decide_eq_true_eq] at hnn
                            have h1 := itoa_len x.2.1 hnn.1.1 hnn.1.2
                            have h2 := itoa_len x.2.2 hnn.2.1 hnn.2.2
                            simp only [nameB, Bool.and_eq_true, decide_eq_true_eq] at hnm
                            have h3 := hnm.1.2
                            simp only [textL, List.length_append, List.length_cons]
                            omega
                          · omega
                        · omega
                      rw [he] at hck
                      simp only [errV] at hck
                      have hrd' := fun W hW => hrd W hW hsz
                      rw [textB_ok x he, read_text x he] at hrd'
                      simp only [errV, rowV] at hrd'
                      have hneq := neqRow.1 x x
                      have hgd := neqRow.2
                      simp only [encR, decide_true, Bool.not_true] at hneq
                      have hgd' : ∀ (op : BinOp) (a b : Operand) (w : World), Sem.run Tryz.prog (eqGuard op 30 a b (.agg #[.string x.1, .int .i64 x.2.1, .int .i64 x.2.2]) (.agg #[.string x.1, .int .i64 x.2.1, .int .i64 x.2.2])) w = .ok () w := fun op a b w => hgd op a b x x w
                      clear hgd he hsz hrd
                      obtain ⟨xp, xk, xv⟩ := x
                      dsimp only at a1 a2 a3 hck htx hrd' hneq hgd'
                      go_wp2_with fail
                      refine hck.mono ?_
                      rintro e w21 ⟨rfl, hb21⟩
                      clear hck
                      have hB21 : Below w.heap.size w w21 := hBq.trans (hb21.mono hBq.size)
                      have a1' := below_keep hb21 a1
                      have a2' := below_keep hb21 a2
                      have a3' := below_keep hb21 a3
                      clear a1 a2 a3
                      go_wp2_with fail
                      refine (htx w21 (h.below hB21)).mono ?_
                      rintro e w22 ⟨rfl, hb22⟩
                      clear htx
                      have hB22 : Below w.heap.size w w22 := hB21.trans (hb22.mono hB21.size)
                      go_wp2_with fail
                      refine (hrd' w22 (h.below hB22)).mono ?_
                      rintro e w23 ⟨rfl, hb23⟩
                      clear hrd'
                      have hB23 : Below w.heap.size w w23 := hB22.trans (hb23.mono hB22.size)
                      have hal : Below w23.heap.size w23 (w23.alloc (.cells #[.string xp, .int .i64 xk, .int .i64 xv] 30)) := (Below.refl _ _).alloc (Nat.le_refl _) _
                      have d1 := below_keep hal (below_keep hb23 (below_keep hb22 a1'))
                      have d2 := below_keep hal (below_keep hb23 (below_keep hb22 a2'))
                      have d3 := below_keep hal (below_keep hb23 (below_keep hb22 a3'))
                      clear a1' a2' a3'
                      go_wp2
                      go_quiet (fail)
                      go_wp2
                      have hbF : Below w20.heap.size w20 ((w23.alloc (.cells #[.string xp, .int .i64 xk, .int .i64 xv] 30)).drewN nq) := by
                        have g1 := hbq.trans (hb21.mono hbq.size)
                        have g2 := g1.trans (hb22.mono g1.size)
                        have g3 := g2.trans (hb23.mono g2.size)
                        exact below_drewN (g3.alloc g3.size _) nq
                      go_roundw
                      case rel => exact ⟨n + 1, by omega, by go_num, hbF⟩
                      case measure => simp [intOf]; omega
                    · obtain ⟨j, hj⟩ : ∃ j, rowE x = j + 1 := ⟨rowE x - 1, by omega⟩
                      rw [hj] at hck
                      simp only [errV] at hck
                      clear he hj htx hrd
                      obtain ⟨xp, xk, xv⟩ := x
                      dsimp only at a1 a2 a3 hck
                      go_wp2_with fail
                      refine hck.mono ?_
                      rintro e w21 ⟨rfl, hb21⟩
                      clear hck a1 a2 a3
                      have hbF : Below w20.heap.size w20 w21 := hbq.trans (hb21.mono hbq.size)
                      go_wp2
                      go_roundw
                      case rel => exact ⟨n + 1, by omega, by go_num, hbF⟩
                      case measure => simp [intOf]; omega
                · go_wp2
                  go_ret
                  exact ⟨rfl, hBq⟩
            · go_wp2_with (at_builtin; refine wpList_append_own _ rfl _ _ 22 rfl w13.heap.size 30 i0 (.agg #[.string ⟨#[]⟩, .int .i64 0, .int .i64 0]) 3 32 Tryz.underlying22 hi0 hz0 hs0 hby0 rfl (by decide) v14 (xs.filter (inB (-9223372036854775808) at_)).length (flatR (xs.filter (inB (-9223372036854775808) at_))) rfl ho15 ⟨b15, 0, none⟩ (xs.filter (inB (at_ + 1) 9223372036854775807)).length c15 (flatR (xs.filter (inB (at_ + 1) 9223372036854775807))) rfl ?qc1 ?qc2 ?qc3 ?qc4 ?qc5 ?qc6 ?_)
              case qc1 => exact flat_len _
              case qc2 =>
                intro j u hj
                rw [Addr.add_lit]
                exact cells_of_flat hc15 j u hj
              case qc3 => exact flat_one _
              case qc4 => unfold maxLen; omega
              case qc5 => omega
              case qc6 => exact hsz15
              intro v16 w16 hown16 hgrow hnil
              rw [← flat_append] at hown16
              have hr16 := (rowsAt_of_own hown16).1
              have hB16 : Below w.heap.size w w16 := hB15.grown hgrow hB15.size (fun k hk => by
                rcases ho15.2 with ⟨e, _⟩ | ⟨g', cap', cur, e, hg', _⟩
                · rw [e] at hk; simp [Value.ownBlock] at hk
                · rw [e] at hk; simp [Value.ownBlock] at hk; omega)
              clear hown16 hgrow hnil hrows ho15 hc15
              have hsT := same_any v16 (.slice p L c) (xs.filter (inB (-9223372036854775808) at_) ++ xs.filter (inB (at_ + 1) 9223372036854775807)) xs w16 hr16 (hx.below hB16) (by rw [List.length_append]; omega) (by rw [HL.out]; omega)
              rw [decide_eq_true (sortR_of_perm (within_all xs at_ hok))] at hsT
              clear hr16
              go_wp2_with fail
              refine hsT.mono ?_
              rintro e w20 ⟨rfl, hb20⟩
              clear hsT
              have hB20 : Below w.heap.size w w20 := hB16.trans (hb20.mono hB16.size)
              go_wp2
              go_loopw [13] (fun k wr => ∃ n : Nat, n ≤ L ∧ k = .int .i64 n ∧ Below w20.heap.size w20 wr) (fun k _ => L - (intOf k).toNat)
              case atStart => exact ⟨0, by omega, rfl, Below.refl _ _⟩
              case round =>
                obtain ⟨n, hn, rfl, hbq⟩ := hrel
                have hBq : Below w.heap.size w wr := hB20.trans (hbq.mono hB20.size)
                by_cases hlt : n < L
                · rcases hx.below hBq with ⟨_, _, e, e'⟩ | ⟨b, o, cap, e, hcells⟩
                  · exfalso; have := HL.out; rw [e'] at this; simp at this; omega
                  · injection e with e1 e2 e3
                    subst e1
                    clear e2 e3
                    have hnx : n < xs.length := by rw [HL.out]; exact hlt
                    obtain ⟨a1, a2, a3⟩ := hcells n hnx
                    have hps : xs[n].1.size ≤ maxLen := by
                      have := HP.out xs[n] (List.getElem_mem _)
                      unfold maxLen; omega
                    have hck := check_any xs[n] wr a (h.below hBq) hps
                    have htx := fun W (hW : Env W a) => text_any xs[n] W a hW hps
                    have hrd := fun W (hW : Env W a) => read_any (textB xs[n]) W a hW
                    generalize xs[n] = x at a1 a2 a3 hck htx hrd
                    clear hcells hps hnx
                    have hi : (n : Int) < (L : Int) := by omega
                    by_cases he : rowE x = 0
                    · have hsz : (textB x).size < 4294967281 := by
                        rw [← size_list, textB_ok x he]
                        have hx0 := he
                        unfold rowE at hx0
                        split at hx0
                        · rename_i hnm
                          split at hx0
                          · rename_i hnn
                            simp only [Bool.and_eq_true, inNum, decide_eq_true_eq] at hnn
                            have h1 := itoa_len x.2.1 hnn.1.1 hnn.1.2
                            have h2 := itoa_len x.2.2 hnn.2.1 hnn.2.2
                            simp only [nameB, Bool.and_eq_true, decide_eq_true_eq] at hnm
                            have h3 := hnm.1.2
                            simp only [textL, List.length_append, List.length_cons]
                            omega
                          · omega
                        · omega
                      rw [he] at hck
                      simp only [errV] at hck
                      have hrd' := fun W hW => hrd W hW hsz
                      rw [textB_ok x he, read_text x he] at hrd'
                      simp only [errV, rowV] at hrd'
                      have hneq := neqRow.1 x x
                      have hgd := neqRow.2
                      simp only [encR, decide_true, Bool.not_true] at hneq
                      have hgd' : ∀ (op : BinOp) (a b : Operand) (w : World), Sem.run Tryz.prog (eqGuard op 30 a b (.agg #[.string x.1, .int .i64 x.2.1, .int .i64 x.2.2]) (.agg #[.string x.1, .int .i64 x.2.1, .int .i64 x.2.2])) w = .ok () w := fun op a b w => hgd op a b x x w
                      clear hgd he hsz hrd
                      obtain ⟨xp, xk, xv⟩ := x
                      dsimp only at a1 a2 a3 hck htx hrd' hneq hgd'
                      go_wp2_with fail
                      refine hck.mono ?_
                      rintro e w21 ⟨rfl, hb21⟩
                      clear hck
                      have hB21 : Below w.heap.size w w21 := hBq.trans (hb21.mono hBq.size)
                      have a1' := below_keep hb21 a1
                      have a2' := below_keep hb21 a2
                      have a3' := below_keep hb21 a3
                      clear a1 a2 a3
                      go_wp2_with fail
                      refine (htx w21 (h.below hB21)).mono ?_
                      rintro e w22 ⟨rfl, hb22⟩
                      clear htx
                      have hB22 : Below w.heap.size w w22 := hB21.trans (hb22.mono hB21.size)
                      go_wp2_with fail
                      refine (hrd' w22 (h.below hB22)).mono ?_
                      rintro e w23 ⟨rfl, hb23⟩
                      clear hrd'
                      have hB23 : Below w.heap.size w w23 := hB22.trans (hb23.mono hB22.size)
                      have hal : Below w23.heap.size w23 (w23.alloc (.cells #[.string xp, .int .i64 xk, .int .i64 xv] 30)) := (Below.refl _ _).alloc (Nat.le_refl _) _
                      have d1 := below_keep hal (below_keep hb23 (below_keep hb22 a1'))
                      have d2 := below_keep hal (below_keep hb23 (below_keep hb22 a2'))
                      have d3 := below_keep hal (below_keep hb23 (below_keep hb22 a3'))
                      clear a1' a2' a3'
                      go_wp2
                      go_quiet (fail)
                      go_wp2
                      have hbF : Below w20.heap.size w20 ((w23.alloc (.cells #[.string xp, .int .i64 xk, .int .i64 xv] 30)).drewN nq) := by
                        have g1 := hbq.trans (hb21.mono hbq.size)
                        have g2 := g1.trans (hb22.mono g1.size)
                        have g3 := g2.trans (hb23.mono g2.size)
                        exact below_drewN (g3.alloc g3.size _) nq
                      go_roundw
                      case rel => exact ⟨n + 1, by omega, by go_num, hbF⟩
                      case measure => simp [intOf]; omega
                    · obtain ⟨j, hj⟩ : ∃ j, rowE x = j + 1 := ⟨rowE x - 1, by omega⟩
                      rw [hj] at hck
                      simp only [errV] at hck
                      clear he hj htx hrd
                      obtain ⟨xp, xk, xv⟩ := x
                      dsimp only at a1 a2 a3 hck
                      go_wp2_with fail
                      refine hck.mono ?_
                      rintro e w21 ⟨rfl, hb21⟩
                      clear hck a1 a2 a3
                      have hbF : Below w20.heap.size w20 w21 := hbq.trans (hb21.mono hbq.size)
                      go_wp2
                      go_roundw
                      case rel => exact ⟨n + 1, by omega, by go_num, hbF⟩
                      case measure => simp [intOf]; omega
                · go_wp2
                  go_ret
                  exact ⟨rfl, hBq⟩
          · have hat' : at_ = 9223372036854775807 := by omega
            subst hat'
            rw [within_top xs hok] at hr13
            have hsT := same_any v13 (.slice p L c) (xs) xs w13 hr13 (hx.below hB13) (by rw [HL.out]; omega) (by rw [HL.out]; omega)
            rw [decide_eq_true (rfl)] at hsT
            clear hr13
            go_wp2_with fail
            refine hsT.mono ?_
            rintro e w20 ⟨rfl, hb20⟩
            clear hsT
            have hB20 : Below w.heap.size w w20 := hB13.trans (hb20.mono hB13.size)
            go_wp2
            go_loopw [13] (fun k wr => ∃ n : Nat, n ≤ L ∧ k = .int .i64 n ∧ Below w20.heap.size w20 wr) (fun k _ => L - (intOf k).toNat)
            case atStart => exact ⟨0, by omega, rfl, Below.refl _ _⟩
            case round =>
              obtain ⟨n, hn, rfl, hbq⟩ := hrel
              have hBq : Below w.heap.size w wr := hB20.trans (hbq.mono hB20.size)
              by_cases hlt : n < L
              · rcases hx.below hBq with ⟨_, _, e, e'⟩ | ⟨b, o, cap, e, hcells⟩
                · exfalso; have := HL.out; rw [e'] at this; simp at this; omega
                · injection e with e1 e2 e3
                  subst e1
                  clear e2 e3
                  have hnx : n < xs.length := by rw [HL.out]; exact hlt
                  obtain ⟨a1, a2, a3⟩ := hcells n hnx
                  have hps : xs[n].1.size ≤ maxLen := by
                    have := HP.out xs[n] (List.getElem_mem _)
                    unfold maxLen; omega
                  have hck := check_any xs[n] wr a (h.below hBq) hps
                  have htx := fun W (hW : Env W a) => text_any xs[n] W a hW hps
                  have hrd := fun W (hW : Env W a) => read_any (textB xs[n]) W a hW
                  generalize xs[n] = x at a1 a2 a3 hck htx hrd
                  clear hcells hps hnx
                  have hi : (n : Int) < (L : Int) := by omega
                  by_cases he : rowE x = 0
                  · have hsz : (textB x).size < 4294967281 := by
                      rw [← size_list, textB_ok x he]
                      have hx0 := he
                      unfold rowE at hx0
                      split at hx0
                      · rename_i hnm
                        split at hx0
                        · rename_i hnn
                          simp only [Bool.and_eq_true, inNum, decide_eq_true_eq] at hnn
                          have h1 := itoa_len x.2.1 hnn.1.1 hnn.1.2
                          have h2 := itoa_len x.2.2 hnn.2.1 hnn.2.2
                          simp only [nameB, Bool.and_eq_true, decide_eq_true_eq] at hnm
                          have h3 := hnm.1.2
                          simp only [textL, List.length_append, List.length_cons]
                          omega
                        · omega
                      · omega
                    rw [he] at hck
                    simp only [errV] at hck
                    have hrd' := fun W hW => hrd W hW hsz
                    rw [textB_ok x he, read_text x he] at hrd'
                    simp only [errV, rowV] at hrd'
                    have hneq := neqRow.1 x x
                    have hgd := neqRow.2
                    simp only [encR, decide_true, Bool.not_true] at hneq
                    have hgd' : ∀ (op : BinOp) (a b : Operand) (w : World), Sem.run Tryz.prog (eqGuard op 30 a b (.agg #[.string x.1, .int .i64 x.2.1, .int .i64 x.2.2]) (.agg #[.string x.1, .int .i64 x.2.1, .int .i64 x.2.2])) w = .ok () w := fun op a b w => hgd op a b x x w
                    clear hgd he hsz hrd
                    obtain ⟨xp, xk, xv⟩ := x
                    dsimp only at a1 a2 a3 hck htx hrd' hneq hgd'
                    go_wp2_with fail
                    refine hck.mono ?_
                    rintro e w21 ⟨rfl, hb21⟩
                    clear hck
                    have hB21 : Below w.heap.size w w21 := hBq.trans (hb21.mono hBq.size)
                    have a1' := below_keep hb21 a1
                    have a2' := below_keep hb21 a2
                    have a3' := below_keep hb21 a3
                    clear a1 a2 a3
                    go_wp2_with fail
                    refine (htx w21 (h.below hB21)).mono ?_
                    rintro e w22 ⟨rfl, hb22⟩
                    clear htx
                    have hB22 : Below w.heap.size w w22 := hB21.trans (hb22.mono hB21.size)
                    go_wp2_with fail
                    refine (hrd' w22 (h.below hB22)).mono ?_
                    rintro e w23 ⟨rfl, hb23⟩
                    clear hrd'
                    have hB23 : Below w.heap.size w w23 := hB22.trans (hb23.mono hB22.size)
                    have hal : Below w23.heap.size w23 (w23.alloc (.cells #[.string xp, .int .i64 xk, .int .i64 xv] 30)) := (Below.refl _ _).alloc (Nat.le_refl _) _
                    have d1 := below_keep hal (below_keep hb23 (below_keep hb22 a1'))
                    have d2 := below_keep hal (below_keep hb23 (below_keep hb22 a2'))
                    have d3 := below_keep hal (below_keep hb23 (below_keep hb22 a3'))
                    clear a1' a2' a3'
                    go_wp2
                    go_quiet (fail)
                    go_wp2
                    have hbF : Below w20.heap.size w20 ((w23.alloc (.cells #[.string xp, .int .i64 xk, .int .i64 xv] 30)).drewN nq) := by
                      have g1 := hbq.trans (hb21.mono hbq.size)
                      have g2 := g1.trans (hb22.mono g1.size)
                      have g3 := g2.trans (hb23.mono g2.size)
                      exact below_drewN (g3.alloc g3.size _) nq
                    go_roundw
                    case rel => exact ⟨n + 1, by omega, by go_num, hbF⟩
                    case measure => simp [intOf]; omega
                  · obtain ⟨j, hj⟩ : ∃ j, rowE x = j + 1 := ⟨rowE x - 1, by omega⟩
                    rw [hj] at hck
                    simp only [errV] at hck
                    clear he hj htx hrd
                    obtain ⟨xp, xk, xv⟩ := x
                    dsimp only at a1 a2 a3 hck
                    go_wp2_with fail
                    refine hck.mono ?_
                    rintro e w21 ⟨rfl, hb21⟩
                    clear hck a1 a2 a3
                    have hbF : Below w20.heap.size w20 w21 := hbq.trans (hb21.mono hbq.size)
                    go_wp2
                    go_roundw
                    case rel => exact ⟨n + 1, by omega, by go_num, hbF⟩
                    case measure => simp [intOf]; omega
              · go_wp2
                go_ret
                exact ⟨rfl, hBq⟩
  · rw [longN_yes hlb] at hlong
    clear hL hM hlb
    go_enter Tryz.func3, Tryz.ntmps3
    go_wp2_with fail
    refine hro.mono ?_
    rintro e w1 ⟨rfl, hb1⟩
    have hl1 := hlong w1 hb1
    clear hlong hro
    go_wp2_with fail
    refine hl1.mono ?_
    rintro e w2 ⟨rfl, rfl⟩
    clear hl1
    go_wp2
    go_ret
    exact ⟨rfl, hb1⟩
end Go.Proofs.YtgffkkijfmoooaaGreatDoor
