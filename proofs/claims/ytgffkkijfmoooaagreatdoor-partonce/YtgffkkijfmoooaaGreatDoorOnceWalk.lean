/-
  The walk of PartOnce: whatever spec and rows: true; what was there is as it was.
-/
import Derived.Test.YtgffkkijfmoooaaGreatDoorPartPure
import Derived.Test.YtgffkkijfmoooaaGreatDoorSortsWalk
import Derived.Laws.Cover1
namespace Go.Proofs.YtgffkkijfmoooaaGreatDoor
open Go.RowKit Go.Extern.Stop Go.Stop Go.Extern Go.Sort Go.Shelf Go.Lib

theorem spec_n (s : List UInt8) : (specO s).2.1 = 0 ∨ (1 ≤ (specO s).2.2 ∧ (specO s).2.2 ≤ 1000) := by
  have hnO : ∀ l, (nO l).1 = 0 → 1 ≤ (nO l).2 ∧ (nO l).2 ≤ 1000 := fun l => by
    unfold nO
    split
    · intro h; cases h
    · split
      · intro h; cases h
      · split
        · intro h; cases h
        · intro _; dsimp only; omega
  unfold specO
  split
  · exact Or.inl rfl
  · split
    · split
      · rename_i h3; exact Or.inr (hnO _ h3)
      · exact Or.inl rfl
    · split
      · split
        · rename_i h4; exact Or.inr (hnO _ h4)
        · exact Or.inl rfl
      · exact Or.inl rfl

theorem mark_size (c : UInt8) (n : Int) (h0 : -1073741824 ≤ n) (h1 : n ≤ 1073741824) : (markB c n).size ≤ 1000 := by
  have := itoa_len n h0 h1
  unfold markB
  rw [← size_list, ByteArray.data_append]
  simp [bytesOf]
  omega

theorem grp_size (k : Nat) (n : Int) (hn : k = 0 ∨ (1 ≤ n ∧ n ≤ 1000)) (x : Rw) (hx : x.1.size ≤ 30) (h : rowE x = 0) : (grpB k n x).size ≤ 1000 := by
  have hk := key_in h
  unfold grpB
  split
  · omega
  · rename_i h0
    have hn' := hn.resolve_left h0
    split
    · have h3 := Int.emod_nonneg x.2.1 (show n ≠ 0 by omega)
      have h4 := Int.emod_lt_of_pos x.2.1 (show 0 < n by omega)
      generalize x.2.1 % n = r at *
      exact mark_size _ _ (by omega) (by omega)
    · have := ediv_in x.2.1 n hn'.1 hk.1 hk.2
      unfold truncB
      split
      · exact mark_size _ _ (by omega) (by omega)
      · exact mark_size _ _ (by omega) (by omega)

/-- The first row that is none. -/
theorem first_bad : ∀ xs : List Rw, (∀ x ∈ xs, rowE x = 0) ∨ ∃ j, ∃ h : j < xs.length, rowE xs[j] ≠ 0 ∧ ∀ i (h' : i < xs.length), i < j → rowE xs[i] = 0
  | [] => Or.inl fun _ h => by cases h
  | x :: xs => by
    by_cases hx : rowE x = 0
    · rcases first_bad xs with h | ⟨j, hj, hb, hg⟩
      · refine Or.inl fun y hy => ?_
        rcases List.mem_cons.1 hy with rfl | hy
        · exact hx
        · exact h y hy
      · refine Or.inr ⟨j + 1, by simpa using hj, by simpa using hb, fun i hi hij => ?_⟩
        cases i with
        | zero => simpa using hx
        | succ i => simpa using hg i (by simpa using hi) (by omega)
    · exact Or.inr ⟨0, by simp, by simpa using hx, fun i _ h => by omega⟩

theorem own_blk {w : World} {base : Nat} {e : TypeId} {size : Nat} {v : Value} {n : Nat} {xs : List Value} (h : w.ownsRow base e size v n xs) {k : Nat} (hk : v.ownBlock = some k) : base ≤ k := (own_lt h hk).1

set_option maxRecDepth 100000 in
set_option maxHeartbeats 4000000 in
theorem partOnce_any (q : Option Addr) (c : Nat) (s : ByteArray) (xs : List Rw) (w : World) (a : Nat → Addr) (h : Env w a) (hx : RowsAt w (.slice q xs.length c) xs) (hlx : xs.length ≤ maxLen) (hls : s.size ≤ maxLen) :
    Calls Tryz.prog 5 #[.string s, .slice q xs.length c] w fun e w' => e = .returned (.bool true) ∧ Below w.heap.size w w' := by
  have hpa := parted_any w a h
  have hlong := fun W (hW : Below w.heap.size w W) => longRows_any (.slice q xs.length c) xs 40 W (hx.below hW) hlx (by omega)
  generalize hL : xs.length = L at hx hlx hlong ⊢
  have HL : Hid (xs.length = L) := hL
  clear hL
  unfold maxLen at hlx hls
  by_cases hbig : 30 < s.size
  · have hbig' : (30 : Int) < (s.size : Int) := by omega
    clear hlong
    go_enter Tryz.func5, Tryz.ntmps5
    go_wp2_with fail
    refine hpa.mono ?_
    rintro e w1 ⟨rfl, hb1⟩
    clear hpa
    go_wp2
    go_ret
    exact ⟨rfl, hb1⟩
  · have hbig' : ¬ (30 : Int) < (s.size : Int) := by omega
    cases hlb : longB 40 xs
    · rw [longN_no hlb] at hlong
      have hl40 : L ≤ 40 := by have := longB_len hlb; rw [HL.out] at this; omega
      have HP : Hid (∀ x ∈ xs, x.1.size ≤ 30) := longB_part hlb
      clear hlb
      go_enter Tryz.func5, Tryz.ntmps5
      go_wp2_with fail
      refine hpa.mono ?_
      rintro e w1 ⟨rfl, hb1⟩
      have hl1 := hlong w1 hb1
      clear hlong hpa
      go_wp2_with fail
      refine hl1.mono ?_
      rintro e w2 ⟨rfl, rfl⟩
      clear hl1
      have how := ownRows_any (.slice q L c) xs w2 (hx.below hb1) (by rw [HL.out]; omega)
      go_wp2_with fail
      refine how.mono ?_
      rintro e w3 ⟨v3, rfl, ho3, hb3⟩
      clear how
      have hB3 : Below w.heap.size w w3 := hb1.trans (hb3.mono hb1.size)
      have hr3 := (rowsAt_of_own ho3).1
      obtain ⟨q3, c3, rfl⟩ := hr3.form
      clear ho3
      by_cases hsp : (specO s.data.toList).1 = 0
      · have hnk := spec_n s.data.toList
        have hsz : ∀ x ∈ xs, rowE x = 0 → (grpB (specO s.data.toList).2.1 (specO s.data.toList).2.2 x).size ≤ 1000 := fun x hm h0 => grp_size _ _ hnk x (HP.out x hm) h0
        rcases first_bad xs with hall | ⟨j, hj, hbad, hgood⟩
        · have hsplit := split_ok s q3 c3 xs w3 a (h.below hB3) (by omega) hr3 (by rw [HL.out]; omega) HP.out hsp hall hsz
          rw [HL.out] at hsplit hr3 ⊢
          go_wp2_with fail
          refine hsplit.mono ?_
          rintro e w4 ⟨gv, ts, D, hv, b1, b2, rfl, ⟨ss, hS, hts⟩, hrow, hG, _, hb4⟩
          clear hsplit
          have hB4 : Below w.heap.size w w4 := hB3.trans (hb4.mono hB3.size)
          obtain ⟨hrise, hnd, hmem, hTL⟩ := names_rise hG hS hts
          have hperm := groups_perm _ xs ts hnd hmem
          obtain ⟨gq, gc, rfl⟩ := own_form hrow
          have hGA := groupsAt_of hrow hG
          have hof : ∀ (W : World) (x : Rw), Below w.heap.size w W → x ∈ xs → Calls Tryz.prog 32 #[.string s, .agg #[.string x.1, .int .i64 x.2.1, .int .i64 x.2.2]] W fun e w' => e = .returned (.tuple #[.string (grpB (specO s.data.toList).2.1 (specO s.data.toList).2.2 x), .nilIface]) ∧ Below W.heap.size W w' := fun W x hW hm => by
            have hh := of_any s x W a (h.below hW) (by omega) (by have := HP.out x hm; unfold maxLen; omega)
            have e0 : ofE s.data.toList x = 0 := by unfold ofE; rw [if_pos hsp]; exact hall x hm
            have e1 : ofB s.data.toList x = grpB (specO s.data.toList).2.1 (specO s.data.toList).2.2 x := by unfold ofB; rw [if_pos e0]
            rw [e0, e1] at hh
            exact hh
          generalize grpB (specO s.data.toList).2.1 (specO s.data.toList).2.2 = p at *
          clear hrow hG hS hts hsz
          obtain ⟨T, hT⟩ : ∃ T, ts.length = T := ⟨_, rfl⟩
          have HT : Hid (ts.length = T) := hT
          rw [hT, HL.out] at hTL
          rw [hT]
          clear hT
          go_wp2
          go_loopw [8, 9] (fun all i wr => ∃ n : Nat, n ≤ T ∧ i = .int .i64 n ∧ Below w4.heap.size w4 wr ∧ wr.ownsRow w4.heap.size 30 3 all ((ts.take n).flatMap (grp p xs)).length (flatR ((ts.take n).flatMap (grp p xs)))) (fun _ i _ => T - (intOf i).toNat)
          case atStart => exact ⟨0, Nat.zero_le _, rfl, Below.refl _ _, by simp [flatR]; exact World.ownsRow_nil _ _ _ _⟩
          case round =>
            obtain ⟨n, hn, rfl, hb, hown⟩ := hrel
            have hBr : Below w.heap.size w wr := hB4.trans (hb.mono hB4.size)
            by_cases hlt : n < T
            · have hnt : n < ts.length := by rw [HT.out]; exact hlt
              have htk : ts.take (n + 1) = ts.take n ++ [ts[n]] := by rw [List.take_append_getElem hnt]
              have hlen40 : ((ts.take (n + 1)).flatMap (grp p xs)).length ≤ 40 := by
                have h1 : (ts.flatMap (grp p xs)).length = ((ts.take (n + 1)).flatMap (grp p xs)).length + ((ts.drop (n + 1)).flatMap (grp p xs)).length := by
                  rw [← List.length_append, ← List.flatMap_append, List.take_append_drop]
                rw [hperm.length_eq, HL.out] at h1
                omega
              rw [htk, List.flatMap_append] at hlen40
              have hgr := hGA.below hb
              obtain ⟨gg, rfl, c1, c2⟩ := hgr.cells n hnt
              have hro := hgr.rows ts[n]
              have hne := (hmem ts[n]).1 (List.getElem_mem _)
              have hin : ∀ x ∈ grp p xs ts[n], x ∈ xs ∧ p x = ⟨ts[n].toArray⟩ := fun x hx2 => by
                simp only [grp, List.mem_filter, decide_eq_true_eq] at hx2
                exact ⟨hx2.1, part_ext (by rw [hx2.2])⟩
              obtain ⟨hq, hc, hvf⟩ := hro.form
              have hpos : 0 < (grp p xs ts[n]).length := List.length_pos_iff.2 hne
              have hord : ∀ j (h : j < ts.length), j < n → ¬ ts[n] ≤ ts[j] := fun j hj hjn => List.pairwise_iff_getElem.1 hrise j n hj hnt hjn
              have hprev : ∀ j, n = j + 1 → ∃ pB : ByteArray, wr.cell? ⟨gg, j * 2, none⟩ = some (.string pB) ∧ Op.bytesLess (⟨ts[n].toArray⟩ : ByteArray).toList pB.toList = false ∧ ((⟨ts[n].toArray⟩ : ByteArray).toList == pB.toList) = false := fun j hj => by
                have hjt : j < ts.length := by omega
                obtain ⟨gg', e, d1, _⟩ := hgr.cells j hjt
                cases e
                refine ⟨⟨ts[j].toArray⟩, d1, ?_⟩
                have := leq_false (hord j hjt (by omega))
                rw [Bool.or_eq_false_iff] at this
                rw [ByteArray.toList_eq, ByteArray.toList_eq]
                simpa using this
              have hof2 : ∀ (W : World) (x : Rw), Below w.heap.size w W → x ∈ grp p xs ts[n] → Calls Tryz.prog 32 #[.string s, .agg #[.string x.1, .int .i64 x.2.1, .int .i64 x.2.2]] W fun e w' => e = .returned (.tuple #[.string ⟨ts[n].toArray⟩, .nilIface]) ∧ Below W.heap.size W w' := fun W x hW hm => by
                have hh := hof W x hW (hin x hm).1
                rw [(hin x hm).2] at hh
                exact hh
              rw [hvf] at c2 hro
              have e1 : (ts.take (n + 1)).flatMap (grp p xs) = (ts.take n).flatMap (grp p xs) ++ grp p xs ts[n] := by rw [htk, List.flatMap_append]; simp
              have e2 : encStr ts[n] = .string ⟨ts[n].toArray⟩ := rfl
              rw [e2] at c1
              simp only [List.flatMap_cons, List.flatMap_nil, List.append_nil] at hlen40
              clear e2 htk hord hin hne hvf hgr
              obtain ⟨R, hR⟩ : ∃ R, grp p xs ts[n] = R := ⟨_, rfl⟩
              obtain ⟨Acc, hAcc⟩ : ∃ Acc, (ts.take n).flatMap (grp p xs) = Acc := ⟨_, rfl⟩
              rw [hR] at c2 hro hpos hof2 e1 hlen40
              rw [hAcc] at hown e1 hlen40
              have HE : Hid ((ts.take (n + 1)).flatMap (grp p xs) = Acc ++ R) := e1
              have OW : Hid (wr.ownsRow w4.heap.size 30 3 u8 Acc.length (flatR Acc)) := hown
              rw [List.length_append] at hlen40
              clear hR hAcc e1 hown
              generalize (⟨ts[n].toArray⟩ : ByteArray) = nB at c1 hprev hof2
              obtain ⟨M, hM⟩ : ∃ M, R.length = M := ⟨_, rfl⟩
              have HM : Hid (R.length = M) := hM
              rw [hM] at c2 hro hpos hlen40
              clear hM
              obtain ⟨bR, oR, hqe, hcells⟩ : ∃ bR oR, hq = some ⟨bR, oR, none⟩ ∧ RowCells wr bR oR R := by
                rcases hro with ⟨_, _, e, e'⟩ | ⟨bR, oR, cap2, e, hcl⟩
                · exfalso; have := HM.out; rw [e'] at this; simp at this; omega
                · injection e with e1 e2 e3
                  exact ⟨bR, oR, e1, hcl⟩
              subst hqe
              clear hro hnt
              have hi : (n : Int) < (T : Int) := by omega
              have hi0 : (0 : Int) ≤ (n : Int) := by omega
              have hM0 : ¬ (M : Int) = 0 := by omega
              have hM1 : ¬ M = 0 := by omega
              have hmx : Tryz.prog.follows .mixedOrders = true := by kernel_rfl
              rcases Nat.eq_zero_or_pos n with h0 | h0
              · subst h0
                simp only [Nat.zero_mul, Nat.zero_add] at c1 c2
                clear hprev
                have hz0 : ((0 : Nat) : Int) = 0 := rfl
                rw [hz0] at hi hi0 ⊢
                go_wp2_with fail
                go_quiet (fail)
                have hbW : Below w4.heap.size w4 (wr.drewN nq) := below_drewN hb nq
                have hbW2 : Below wr.heap.size wr (wr.drewN nq) := below_drewN (Below.refl _ _) nq
                have k1 := below_keep hbW2 c1
                have k2 := below_keep hbW2 c2
                have hcells2 : RowCells (wr.drewN nq) bR oR R := hcells.below hbW2
                have OW2 : Hid ((wr.drewN nq).ownsRow w4.heap.size 30 3 u8 Acc.length (flatR Acc)) := own_below OW.out hbW2
                clear hcells OW
                generalize wr.drewN nq = W1 at hbW k1 k2 hcells2 OW2 ⊢
                go_wp2
                have hq1 : ((M : Int) == 0) = false := by rw [beq_eq_false_iff_ne]; omega
                simp only [hq1]
                clear hq1
                go_loopw [10] (fun k wi => ∃ m : Nat, m ≤ M ∧ k = .int .i64 m ∧ Below W1.heap.size W1 wi) (fun k _ => M - (intOf k).toNat)
                case atStart => exact ⟨0, Nat.zero_le _, rfl, Below.refl _ _⟩
                case round =>
                  obtain ⟨m, hm, rfl, hbi⟩ := hrel
                  have f1 := below_keep hbi k1
                  have f2 := below_keep hbi k2
                  by_cases hmlt : m < M
                  · have hmr : m < R.length := by rw [HM.out]; exact hmlt
                    obtain ⟨g1, g2, g3⟩ := hcells2.below hbi m hmr
                    have hBi : Below w.heap.size w wr := hB4.trans ((hbW.trans (hbi.mono hbW.size)).mono hB4.size)
                    have ho := hof2 wr R[m] hBi (List.getElem_mem _)
                    generalize R[m] = x at g1 g2 g3 ho
                    obtain ⟨xp, xk, xv⟩ := x
                    dsimp only at g1 g2 g3 ho
                    have hmi : (m : Int) < (M : Int) := by omega
                    clear hmr
                    go_wp2_with fail
                    refine ho.mono ?_
                    rintro e w6 ⟨rfl, hb6⟩
                    clear ho g1 g2 g3
                    have l1 := below_keep hb6 f1
                    have l2 := below_keep hb6 f2
                    have hb7 : Below W1.heap.size W1 w6 := hbi.trans (hb6.mono hbi.size)
                    clear f1 f2
                    go_wp2
                    go_roundw
                    case rel => exact ⟨m + 1, by omega, by go_num, hb7⟩
                    case measure => simp [intOf]; omega
                  · obtain rfl : m = M := by omega
                    have hcells3 := hcells2.below hbi
                    have hbw : Below w4.heap.size w4 wr := hbW.trans (hbi.mono hbW.size)
                    have OW3 : Hid (wr.ownsRow w4.heap.size 30 3 u8 Acc.length (flatR Acc)) := own_below OW2.out hbi
                    obtain ⟨i0, hi9, hz9, hs9, hby9⟩ := Tryz.rowInfo
                    go_wp2_with (at_builtin; refine wpList_append_own _ rfl _ _ 22 rfl w4.heap.size 30 i0 (.agg #[.string ⟨#[]⟩, .int .i64 0, .int .i64 0]) 3 32 Tryz.underlying22 hi9 hz9 hs9 hby9 rfl (by decide) u8 Acc.length (flatR Acc) rfl OW3.out ⟨bR, oR, none⟩ m hc (flatR R) rfl ?qc1 ?qc2 ?qc3 ?qc4 ?qc5 ?qc6 ?_)
                    case qc1 => rw [flat_len, HM.out]
                    case qc2 =>
                      intro t u hu
                      rw [Addr.add_lit]
                      exact cells_of_flat hcells3 t u hu
                    case qc3 => exact flat_one _
                    case qc4 => unfold maxLen; omega
                    case qc5 => omega
                    case qc6 => exact hbw.size
                    intro v' w7 hown7 hgrow7 hnil7
                    have hb8 : Below w4.heap.size w4 w7 := hbw.grown hgrow7 hbw.size (fun k hk => own_blk OW3.out hk)
                    have OW7 : Hid (w7.ownsRow w4.heap.size 30 3 v' (Acc ++ R).length (flatR (Acc ++ R))) := by
                      show w7.ownsRow _ _ _ _ _ _
                      rw [List.length_append, HM.out, flat_append]
                      exact hown7
                    clear hown7 hgrow7 hnil7
                    go_wp2
                    go_roundw
                    case rel => exact ⟨0 + 1, by omega, by go_num, hb8, by rw [HE.out]; exact OW7.out⟩
                    case measure => simp [intOf]; omega
              · obtain ⟨j, rfl⟩ : ∃ j, n = j + 1 := ⟨n - 1, by omega⟩
                obtain ⟨pB, d1, hl1, hl2⟩ := hprev j rfl
                have hi3 : (j : Int) < (T : Int) := by omega
                have hi4 : (0 : Int) ≤ (j : Int) := by omega
                have hi5 : IntKind.i64.wrap (j : Int) = (j : Int) := IntWalk.i64_in _ (by omega)
                have hi6 : (0 : Int) < (j : Int) + 1 := by omega
                have hi7 : (0 : Int) ≤ (j : Int) + 1 := by omega
                have hi8 : ((j : Int) + 1).toNat = j + 1 := by omega
                simp only [Nat.add_mul, Nat.one_mul] at c1 c2
                have c1' : wr.cell? ⟨gg, (j + 1) * 2, none⟩ = some (.string nB) := by rw [Nat.add_mul]; exact c1
                have c2' : wr.cell? ⟨gg, (j + 1) * 2 + 1, none⟩ = some (.slice (some ⟨bR, oR, none⟩) M hc) := by rw [Nat.add_mul]; exact c2
                clear hprev
                have hcast : ((j + 1 : Nat) : Int) = (j : Int) + 1 := by omega
                rw [hcast] at hi ⊢
                clear hcast
                go_wp2_with fail
                go_quiet (fail)
                have hbW : Below w4.heap.size w4 (wr.drewN nq) := below_drewN hb nq
                have hbW2 : Below wr.heap.size wr (wr.drewN nq) := below_drewN (Below.refl _ _) nq
                have k1 := below_keep hbW2 c1'
                have k2 := below_keep hbW2 c2'
                have hcells2 : RowCells (wr.drewN nq) bR oR R := hcells.below hbW2
                have OW2 : Hid ((wr.drewN nq).ownsRow w4.heap.size 30 3 u8 Acc.length (flatR Acc)) := own_below OW.out hbW2
                clear hcells OW
                generalize wr.drewN nq = W1 at hbW k1 k2 hcells2 OW2 ⊢
                go_wp2
                have hq1 : ((M : Int) == 0) = false := by rw [beq_eq_false_iff_ne]; omega
                simp only [hq1]
                clear hq1
                go_loopw [10] (fun k wi => ∃ m : Nat, m ≤ M ∧ k = .int .i64 m ∧ Below W1.heap.size W1 wi) (fun k _ => M - (intOf k).toNat)
                case atStart => exact ⟨0, Nat.zero_le _, rfl, Below.refl _ _⟩
                case round =>
                  obtain ⟨m, hm, rfl, hbi⟩ := hrel
                  have f1 := below_keep hbi k1
                  have f2 := below_keep hbi k2
                  by_cases hmlt : m < M
                  · have hmr : m < R.length := by rw [HM.out]; exact hmlt
                    obtain ⟨g1, g2, g3⟩ := hcells2.below hbi m hmr
                    have hBi : Below w.heap.size w wr := hB4.trans ((hbW.trans (hbi.mono hbW.size)).mono hB4.size)
                    have ho := hof2 wr R[m] hBi (List.getElem_mem _)
                    generalize R[m] = x at g1 g2 g3 ho
                    obtain ⟨xp, xk, xv⟩ := x
                    dsimp only at g1 g2 g3 ho
                    have hmi : (m : Int) < (M : Int) := by omega
                    clear hmr
                    go_wp2_with fail
                    refine ho.mono ?_
                    rintro e w6 ⟨rfl, hb6⟩
                    clear ho g1 g2 g3
                    have l1 := below_keep hb6 f1
                    have l2 := below_keep hb6 f2
                    have hb7 : Below W1.heap.size W1 w6 := hbi.trans (hb6.mono hbi.size)
                    clear f1 f2
                    go_wp2
                    go_roundw
                    case rel => exact ⟨m + 1, by omega, by go_num, hb7⟩
                    case measure => simp [intOf]; omega
                  · obtain rfl : m = M := by omega
                    have hcells3 := hcells2.below hbi
                    have hbw : Below w4.heap.size w4 wr := hbW.trans (hbi.mono hbW.size)
                    have OW3 : Hid (wr.ownsRow w4.heap.size 30 3 u8 Acc.length (flatR Acc)) := own_below OW2.out hbi
                    obtain ⟨i0, hi9, hz9, hs9, hby9⟩ := Tryz.rowInfo
                    go_wp2_with (at_builtin; refine wpList_append_own _ rfl _ _ 22 rfl w4.heap.size 30 i0 (.agg #[.string ⟨#[]⟩, .int .i64 0, .int .i64 0]) 3 32 Tryz.underlying22 hi9 hz9 hs9 hby9 rfl (by decide) u8 Acc.length (flatR Acc) rfl OW3.out ⟨bR, oR, none⟩ m hc (flatR R) rfl ?qc1 ?qc2 ?qc3 ?qc4 ?qc5 ?qc6 ?_)
                    case qc1 => rw [flat_len, HM.out]
                    case qc2 =>
                      intro t u hu
                      rw [Addr.add_lit]
                      exact cells_of_flat hcells3 t u hu
                    case qc3 => exact flat_one _
                    case qc4 => unfold maxLen; omega
                    case qc5 => omega
                    case qc6 => exact hbw.size
                    intro v' w7 hown7 hgrow7 hnil7
                    have hb8 : Below w4.heap.size w4 w7 := hbw.grown hgrow7 hbw.size (fun k hk => own_blk OW3.out hk)
                    have OW7 : Hid (w7.ownsRow w4.heap.size 30 3 v' (Acc ++ R).length (flatR (Acc ++ R))) := by
                      show w7.ownsRow _ _ _ _ _ _
                      rw [List.length_append, HM.out, flat_append]
                      exact hown7
                    clear hown7 hgrow7 hnil7
                    go_wp2
                    go_roundw
                    case rel => exact ⟨j + 1 + 1, by omega, by go_num, hb8, by rw [HE.out]; exact OW7.out⟩
                    case measure => simp [intOf]; omega
            · obtain rfl : n = T := by omega
              have hta : ts.take n = ts := List.take_of_length_le (by rw [HT.out]; exact Nat.le_refl _)
              rw [hta] at hown
              have hsm := same_any u8 (.slice q L c) (ts.flatMap (grp p xs)) xs wr (rowsAt_of_own hown).1 (hx.below hBr) (by rw [hperm.length_eq, HL.out]; omega) (by rw [HL.out]; omega)
              rw [decide_eq_true (sortR_of_perm hperm)] at hsm
              clear hown hta
              go_wp2_with fail
              refine hsm.mono ?_
              rintro e w9 ⟨rfl, hb9⟩
              clear hsm
              go_wp2
              go_ret
              exact ⟨rfl, hBr.trans (hb9.mono hBr.size)⟩
        · have hsplit := split_bad s q3 c3 xs w3 a (h.below hB3) (by omega) hr3 (by rw [HL.out]; omega) HP.out hsp j hj hbad hgood hsz
          rw [HL.out] at hsplit ⊢
          clear hsz hnk
          go_wp2_with fail
          refine hsplit.mono ?_
          rintro e w4 ⟨fb, rfl, _, _, hb4⟩
          clear hsplit
          go_wp2
          go_ret
          exact ⟨rfl, hB3.trans (hb4.mono hB3.size)⟩
      · have hsplit := split_none s q3 c3 xs.length w3 a (h.below hB3) (by omega) hsp
        obtain ⟨m, hm⟩ : ∃ m, (specO s.data.toList).1 = m + 1 := ⟨(specO s.data.toList).1 - 1, by omega⟩
        rw [hm] at hsplit
        simp only [errV] at hsplit
        clear hsp hm
        go_wp2_with fail
        refine hsplit.mono ?_
        rintro e w4 ⟨rfl, hb4⟩
        clear hsplit
        go_wp2
        go_ret
        exact ⟨rfl, hB3.trans (hb4.mono hB3.size)⟩
    · rw [longN_yes hlb] at hlong
      clear hlb
      go_enter Tryz.func5, Tryz.ntmps5
      go_wp2_with fail
      refine hpa.mono ?_
      rintro e w1 ⟨rfl, hb1⟩
      have hl1 := hlong w1 hb1
      clear hlong hpa
      go_wp2_with fail
      refine hl1.mono ?_
      rintro e w2 ⟨rfl, rfl⟩
      clear hl1
      go_wp2
      go_ret
      exact ⟨rfl, hb1⟩
end Go.Proofs.YtgffkkijfmoooaaGreatDoor
