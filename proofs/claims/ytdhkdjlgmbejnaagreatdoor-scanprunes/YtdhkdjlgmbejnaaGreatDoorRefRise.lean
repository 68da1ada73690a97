/-
  The contract of the document's own RisingOf: keys, rising, each once.
-/
import Derived.Test.YtdhkdjlgmbejnaaGreatDoorErrs
namespace Go.Proofs.YtdhkdjlgmbejnaaGreatDoor
open Go.RowKit Go.Extern.Stop Go.Stop Go.Extern Go.Sort Go.Shelf Go.Lib

theorem take_cell {O : List Int} {k j : Nat} {u : Value} (h : ((O.take k).map (Value.int .i64))[j]? = some u) : ∃ hj : j < O.length, u = .int .i64 O[j] := by
  rw [List.getElem?_map, Option.map_eq_some_iff] at h
  obtain ⟨y, hy, rfl⟩ := h
  rw [List.getElem?_take] at hy
  split at hy
  · obtain ⟨hj, e⟩ := List.getElem?_eq_some_iff.1 hy
    exact ⟨hj, by rw [e]⟩
  · cases hy
theorem drop_cell {O : List Int} {k j : Nat} {u : Value} (h : ((O.drop k).map (Value.int .i64))[j]? = some u) : ∃ hj : k + j < O.length, u = .int .i64 O[k + j] := by
  rw [List.getElem?_map, Option.map_eq_some_iff] at h
  obtain ⟨y, hy, rfl⟩ := h
  rw [List.getElem?_drop] at hy
  obtain ⟨hj, e⟩ := List.getElem?_eq_some_iff.1 hy
  exact ⟨hj, by rw [e]⟩
theorem ints_one (zs : List Int) : ∀ u ∈ zs.map (Value.int .i64), u.oneCell' = true := by
  intro u hu
  obtain ⟨y, _, rfl⟩ := List.mem_map.1 hu
  rfl

theorem rise_insert (zs O : List Int) (x : Int) (k : Nat) (hO : O = riseZ zs) (h1 : ∀ j (h : j < O.length), j < k → O[j] < x) (h2 : ∀ h : k < O.length, x < O[k]) : O.take k ++ x :: O.drop k = riseZ (zs ++ [x]) := by
  have hs : O.Pairwise (· < ·) := by rw [hO]; exact rise_sorted zs
  have hpr := List.pairwise_iff_getElem.1 hs
  refine (rise_is ?_ fun y => ?_).symm
  · have hs' := hs
    rw [← List.take_append_drop k O, List.pairwise_append] at hs'
    rw [List.pairwise_append]
    refine ⟨hs'.1, ?_, ?_⟩
    · rw [List.pairwise_cons]
      refine ⟨fun b hb => ?_, hs'.2.1⟩
      obtain ⟨j, hj, rfl⟩ := List.mem_iff_getElem.1 hb
      rw [List.getElem_drop]
      have hj' : k + j < O.length := by rw [List.length_drop] at hj; omega
      have h := h2 (by omega)
      rcases Nat.eq_zero_or_pos j with h0 | h0
      · subst h0; exact h
      · have := hpr k (k + j) (by omega) hj' (by omega)
        omega
    · intro a ha b hb
      obtain ⟨i, hi, rfl⟩ := List.mem_iff_getElem.1 ha
      rw [List.mem_cons] at hb
      rcases hb with rfl | hb
      · rw [List.getElem_take]
        rw [List.length_take] at hi
        exact h1 i (by omega) (by omega)
      · exact hs'.2.2 _ ha b hb
  · rw [List.mem_append, List.mem_cons, List.mem_append, List.mem_singleton, ← rise_mem zs y, ← hO]
    constructor
    · rintro (h | h | h)
      · exact Or.inl (List.mem_of_mem_take h)
      · exact Or.inr h
      · exact Or.inl (List.mem_of_mem_drop h)
    · rintro (h | h)
      · rw [← List.take_append_drop k O, List.mem_append] at h
        rcases h with h | h
        · exact Or.inl h
        · exact Or.inr (Or.inr h)
      · exact Or.inr (Or.inl h)

theorem rise_again (zs O : List Int) (x : Int) (hO : O = riseZ zs) (hx : x ∈ O) : O = riseZ (zs ++ [x]) := by
  refine (rise_is (by rw [hO]; exact rise_sorted zs) fun y => ?_).symm
  rw [List.mem_append, List.mem_singleton, ← rise_mem zs y, ← hO]
  constructor
  · exact Or.inl
  · rintro (h | rfl)
    · exact h
    · exact hx

set_option maxRecDepth 100000 in
set_option maxHeartbeats 4000000 in
theorem risingOf_any (v : Value) (zs : List Int) (w : World) (hz : KeysAt w v zs) (hl : zs.length ≤ 1000) :
    Calls Tryz.prog 79 #[v] w fun e w' => ∃ v', e = .returned v' ∧ KeysAt w' v' (riseZ zs) ∧ Below w.heap.size w w' := by
  obtain ⟨i0, hi0, hz0, hs0, hby0⟩ := Tryz.numInfo
  obtain ⟨q, cap, rfl⟩ := hz.form
  generalize hL : zs.length = L at hz hl ⊢
  have HX : Hid (zs.length = L) := hL
  clear hL
  go_enter Tryz.func79, Tryz.ntmps79
  go_wp2
  go_loopw [3, 4] (fun out k wr => ∃ n : Nat, n ≤ L ∧ k = .int .i64 n ∧ Below w.heap.size w wr ∧ wr.ownsRow w.heap.size 3 1 out (riseZ (zs.take n)).length ((riseZ (zs.take n)).map (Value.int .i64))) (fun _ k _ => L - (intOf k).toNat)
  case atStart => exact ⟨0, by omega, rfl, Below.refl _ _, by rw [List.take_zero, rise_nil]; exact World.ownsRow_nil _ _ _ _⟩
  case round =>
    obtain ⟨n, hn, rfl, hb, hown⟩ := hrel
    by_cases hlt : n < L
    · have hltx : n < zs.length := by rw [HX.out]; exact hlt
      have hrows := hz.below hb
      rcases hrows with ⟨_, _, e, e'⟩ | ⟨b, o, cap2, e, hcells⟩
      · exfalso; have := HX.out; rw [e'] at this; simp at this; omega
      injection e with e1 e2 e3
      subst e1
      clear e2 e3
      have h1 := hcells n hltx
      clear hcells
      have hi : (n : Int) < (L : Int) := by omega
      have hi0n : (0 : Int) ≤ (n : Int) := by omega
      have htk : zs.take (n + 1) = zs.take n ++ [zs[n]] := by rw [List.take_append_getElem hltx]
      have hOl : (riseZ (zs.take n)).length ≤ n := Nat.le_trans (rise_len _) (List.length_take_le _ _)
      have hins := fun k => rise_insert (zs.take n) (riseZ (zs.take n)) zs[n] k rfl
      have hagn := rise_again (zs.take n) (riseZ (zs.take n)) zs[n] rfl
      rw [← htk] at hins hagn
      have HNEXT : Hid (∀ k, (∀ j (h : j < (riseZ (zs.take n)).length), j < k → (riseZ (zs.take n))[j] < zs[n]) → (∀ h : k < (riseZ (zs.take n)).length, zs[n] < (riseZ (zs.take n))[k]) → (riseZ (zs.take n)).take k ++ zs[n] :: (riseZ (zs.take n)).drop k = riseZ (zs.take (n + 1))) := hins
      have HAGN : Hid (zs[n] ∈ riseZ (zs.take n) → riseZ (zs.take n) = riseZ (zs.take (n + 1))) := hagn
      clear hins htk hagn
      generalize zs[n] = x at h1 HNEXT HAGN
      generalize riseZ (zs.take n) = O at hown hOl HNEXT HAGN
      generalize hOO : riseZ (zs.take (n + 1)) = O' at HNEXT HAGN
      have HOO : Hid (riseZ (zs.take (n + 1)) = O') := hOO
      clear hOO hltx
      obtain ⟨M, hM⟩ : ∃ M, O.length = M := ⟨_, rfl⟩
      have OL : Hid (O.length = M) := hM
      rw [hM] at hown hOl
      have OW : Hid (wr.ownsRow w.heap.size 3 1 u3 M (O.map (Value.int .i64))) := hown
      have hsh : u3 = .slice none 0 0 ∧ O = [] ∨ ∃ g cp, u3 = .slice (some ⟨g, 0, none⟩) M cp ∧ M ≤ cp ∧ g < wr.heap.size ∧ ∀ j (h : j < O.length), wr.cell? ⟨g, j, none⟩ = some (.int .i64 O[j]) := by
        by_cases hv : u3 = .slice none 0 0
        · refine Or.inl ⟨hv, ?_⟩
          subst hv
          rcases hown.2 with ⟨_, e0⟩ | ⟨g', cap', cur, e, _⟩
          · exact List.length_eq_zero_iff.1 (hM.trans e0)
          · cases e
        · obtain ⟨g, cp, rfl, hbg, hgl, hc1, hc2, hc3, hH⟩ := holds_of_ownsRow hown hv
          refine Or.inr ⟨g, cp, rfl, hc1, hgl, fun j hj => ?_⟩
          have := (hH j (by simpa using hj)).1
          rw [Nat.zero_add, getElem!_pos _ j (by simpa using hj)] at this
          simpa using this
      clear hown hM
      rcases hsh with ⟨rfl, rfl⟩ | ⟨g, cp, rfl, hcp, hgl, hOc⟩
      · have M0 : Hid (M = 0) := OL.out.symm
        have hO' : O' = [x] := by
          have := HNEXT.out 0 (by intro j h; simp at h) (by intro h; simp at h)
          simpa using this.symm
        subst hO'
        clear HNEXT HAGN OW hOl
        go_wp2
        refine wp_loop_rounds 1 ?_
        rw [rounds_succ]
        go_wp2
        go_quiet (fail)
        have hbD : Below w.heap.size w (wr.drewN nq) := below_drewN hb nq
        have h1D := below_keep (below_drewN (Below.refl wr.heap.size wr) nq) h1
        clear h1
        generalize wr.drewN nq = WD at hbD h1D ⊢
        have hal : Below WD.heap.size WD (WD.alloc (.cells #[.int .i64 x] 3)) := (Below.refl _ _).alloc (Nat.le_refl _) _
        have hbA : Below w.heap.size w (WD.alloc (.cells #[.int .i64 x] 3)) := hbD.alloc hbD.size _
        go_wp2_with (first
          | (at_builtin; refine wpList_append_nothing rfl _ _ 50 rfl _ rfl rfl (fun ty W => append_nothing none 0 0 ty W (Nat.le_refl _)) ?_)
          | (at_builtin; refine wpList_append_own _ rfl _ _ 50 rfl w.heap.size 3 i0 (.int .i64 0) 1 8 Tryz.underlying50 hi0 hz0 hs0 hby0 rfl (by decide) (.slice none 0 0) 0 [] rfl ?qc0 ⟨WD.heap.size, 0, none⟩ 1 1 [.int .i64 x] rfl ?qc1 ?qc2 ?qc3 ?qc4 ?qc5 ?qc6 ?_))
        case qc0 => exact World.ownsRow_nil _ _ _ _
        case qc1 => rfl
        case qc2 => exact cell_one _ _ _
        case qc3 => exact ints_one [x]
        case qc4 => unfold maxLen; omega
        case qc5 => omega
        case qc6 => exact hbA.size
        intro v' w4 hown4 hgrow hnil
        have hbC : Below w.heap.size w w4 := hbA.grown hgrow hbA.size (fun k hk => by simp [Value.ownBlock] at hk)
        obtain ⟨g4, c4, rfl⟩ : ∃ g4 c4, v' = .slice (some ⟨g4, 0, none⟩) 1 c4 := own_next hown4
        have hc4 : 1 ≤ c4 := by
          rcases hown4.2 with ⟨e, _⟩ | ⟨g', cap', cur, e, _, _, hcc, _⟩
          · cases e
          · injection e with _ _ e3
            omega
        have OW4 : Hid (w4.ownsRow w.heap.size 3 1 (.slice (some ⟨g4, 0, none⟩) 1 c4) (0 + 1) ([] ++ [.int .i64 x])) := hown4
        clear hown4 hnil hgrow
        go_wp2_with (at_builtin; refine wpList_append_nothing rfl _ _ 50 rfl _ rfl rfl (fun ty W => append_nothing (some ⟨g4, 0, none⟩) 1 c4 ty W hc4) ?_)
        go_roundw
        case rel => exact ⟨n + 1, by omega, by go_num, hbC, by rw [HOO.out]; exact OW4.out⟩
        case measure => simp [intOf]; omega
      · have OC : Hid (∀ j (h : j < O.length), wr.cell? ⟨g, j, none⟩ = some (.int .i64 O[j])) := hOc
        clear hOc
        generalize wr = W0 at *
        go_wp2
        go_loopw [5] (fun at_ wi => ∃ k : Nat, k ≤ M ∧ at_ = .int .i64 k ∧ Below W0.heap.size W0 wi ∧ ∀ j (h : j < O.length), j < k → O[j] < x) (fun at_ _ => M - (intOf at_).toNat)
        case atStart => exact ⟨0, by omega, rfl, Below.refl _ _, fun j _ h' => absurd h' (by omega)⟩
        case round =>
          obtain ⟨k, hkM, rfl, hbi, hall⟩ := hrel
          have HA : Hid (∀ j (h : j < O.length), j < k → O[j] < x) := hall
          clear hall
          have d1 := below_keep hbi h1
          by_cases hkl : k < M
          · have hkO : k < O.length := by rw [OL.out]; exact hkl
            have p1 := below_keep hbi (OC.out k hkO)
            obtain ⟨y, hy⟩ : ∃ y, O[k] = y := ⟨_, rfl⟩
            have HY : Hid (O[k] = y) := hy
            have HYM : Hid (y ∈ O) := by show _ ∈ _; rw [← hy]; exact List.getElem_mem _
            rw [hy] at p1
            clear hy
            have hi1 : (k : Int) < (M : Int) := by omega
            have hi4 : (0 : Int) ≤ (k : Int) := by omega
            by_cases hyx : y < x
            · go_wp2
              go_quiet (fail)
              have hb9 : Below W0.heap.size W0 (wr.drewN nq) := below_drewN hbi nq
              go_wp2
              go_roundw
              case rel => exact ⟨k + 1, by omega, by go_num, hb9, fun j h hj => by
                rcases Nat.lt_or_ge j k with h' | h'
                · exact HA.out j h h'
                · obtain rfl : j = k := by omega
                  rw [HY.out]; exact hyx⟩
              case measure => simp [intOf]; omega
            · go_wp2
              go_quiet (fail)
              have hb9 : Below W0.heap.size W0 (wr.drewN nq) := below_drewN hbi nq
              have d2 := below_keep hb9 h1
              have p2 : (wr.drewN nq).cell? ⟨g, k, none⟩ = some (.int .i64 y) := by rw [← HY.out]; exact below_keep hb9 (OC.out k hkO)
              clear d1 p1
              generalize wr.drewN nq = W1 at hb9 d2 p2 ⊢
              by_cases hyx2 : y = x
              · go_wp2
                go_quiet (fail)
                have hbF : Below w.heap.size w (W1.drewN nq) := by
                  have q := below_drewN hb9 nq
                  exact hb.trans (q.mono hb.size)
                have HOWN : Hid ((W1.drewN nq).ownsRow w.heap.size 3 1 (.slice (some ⟨g, 0, none⟩) M cp) O'.length (O'.map (Value.int .i64))) := by
                  show World.ownsRow _ _ _ _ _ _ _
                  have e := HAGN.out (by rw [← hyx2]; exact HYM.out)
                  rw [← e, OL.out]
                  exact own_below OW.out (below_drewN hb9 nq)
                go_wp2
                go_roundw
                case rel => exact ⟨n + 1, by omega, by go_num, hbF, by rw [HOO.out]; exact HOWN.out⟩
                case measure => simp [intOf]; omega
              · have hfin := HNEXT.out k HA.out (fun h => by rw [HY.out]; omega)
                have FIN : Hid (O.take k ++ x :: O.drop k = O') := hfin
                clear hfin HNEXT HAGN
                go_wp2
                go_quiet (fail)
                have hbT : Below W0.heap.size W0 (W1.drewN nq) := below_drewN hb9 nq
                have e1 := below_keep hbT h1
                have CT : Hid (∀ j (h : j < O.length), (W1.drewN nq).cell? ⟨g, j, none⟩ = some (.int .i64 O[j])) := fun j h => below_keep hbT (OC.out j h)
                clear OC d2 p2 hb9
                generalize W1.drewN nq = WT at hbT e1 CT ⊢
                have hne : ¬ cp = k := by omega
                clear hi1
                go_wp2_with (at_builtin; refine wpList_append_own _ rfl _ _ 50 rfl WT.heap.size 3 i0 (.int .i64 0) 1 8 Tryz.underlying50 hi0 hz0 hs0 hby0 rfl (by decide) (.slice none 0 0) 0 [] rfl ?qc0 ⟨g, 0, none⟩ (k) cp ((O.take (k)).map (Value.int .i64)) rfl ?qc1 ?qc2 ?qc3 ?qc4 ?qc5 ?qc6 ?_)
                case qc0 => exact World.ownsRow_nil _ _ _ _
                case qc1 => have := OL.out; rw [List.length_map, List.length_take]; omega
                case qc2 =>
                  intro j u hj
                  rw [Addr.add_lit, Nat.zero_add]
                  obtain ⟨hjl, rfl⟩ := take_cell hj
                  exact CT.out j hjl
                case qc3 => exact ints_one _
                case qc4 => unfold maxLen; omega
                case qc5 => omega
                case qc6 => exact Nat.le_refl _
                intro v1 w1 hown1 hgrow1 hnil1
                have hB1 : Below WT.heap.size WT w1 := (Below.refl _ _).grown hgrow1 (Nat.le_refl _) (fun k hk => by simp [Value.ownBlock] at hk)
                have OW1 : Hid (w1.ownsRow WT.heap.size 3 1 v1 (0 + (k)) ([] ++ (O.take (k)).map (Value.int .i64))) := own_cast hown1 (by omega) (by simp)
                clear hown1 hnil1 hgrow1
                have g1 := below_keep hB1 e1
                have hal : Below w1.heap.size w1 (w1.alloc (.cells #[.int .i64 x] 3)) := (Below.refl _ _).alloc (Nat.le_refl _) _
                have hB2 : Below WT.heap.size WT (w1.alloc (.cells #[.int .i64 x] 3)) := hB1.alloc hB1.size _
                go_wp2_with (at_builtin; refine wpList_append_own _ rfl _ _ 50 rfl WT.heap.size 3 i0 (.int .i64 0) 1 8 Tryz.underlying50 hi0 hz0 hs0 hby0 rfl (by decide) v1 (0 + (k)) ([] ++ (O.take (k)).map (Value.int .i64)) rfl ?qc0 ⟨w1.heap.size, 0, none⟩ 1 1 [.int .i64 x] rfl ?qc1 ?qc2 ?qc3 ?qc4 ?qc5 ?qc6 ?_)
                case qc0 => exact own_below OW1.out hal
                case qc1 => rfl
                case qc2 => exact cell_one _ _ _
                case qc3 => exact ints_one [x]
                case qc4 => unfold maxLen; omega
                case qc5 => omega
                case qc6 => exact hB2.size
                intro v2 w2 hown2 hgrow2 hnil2
                have hB3 : Below WT.heap.size WT w2 := hB2.grown hgrow2 hB2.size (fun k hk => own_block OW1.out hk)
                have OW2 : Hid (w2.ownsRow WT.heap.size 3 1 v2 (0 + (k) + 1) ([] ++ (O.take (k)).map (Value.int .i64) ++ [.int .i64 x])) := own_cast hown2 (by omega) (by simp)
                clear hown2 hnil2 hgrow2
                have z1 : (((k) : Nat) : Int) ≤ (M : Int) := by omega
                have z2 : (((k) : Nat) : Int) ≤ (cp : Int) := by omega
                have CT2 : Hid (∀ j (h : j < O.length), w2.cell? ⟨g, j, none⟩ = some (.int .i64 O[j])) := fun j h => below_keep hB3 (CT.out j h)
                go_wp2_with (at_builtin; refine wpList_append_own _ rfl _ _ 50 rfl WT.heap.size 3 i0 (.int .i64 0) 1 8 Tryz.underlying50 hi0 hz0 hs0 hby0 rfl (by decide) v2 (0 + (k) + 1) ([] ++ (O.take (k)).map (Value.int .i64) ++ [.int .i64 x]) rfl ?qc0 _ _ _ ((O.drop (k)).map (Value.int .i64)) rfl ?qc1 ?qc2 ?qc3 ?qc4 ?qc5 ?qc6 ?_)
                case qc0 => exact OW2.out
                case qc1 => have := OL.out; rw [List.length_map, List.length_drop]; omega
                case qc2 =>
                  intro j u hj
                  rw [Addr.add_lit]
                  obtain ⟨hjl, rfl⟩ := drop_cell hj
                  have := CT2.out _ hjl
                  first
                    | exact absurd hjl (by have := OL.out; omega)
                    | simpa using this
                case qc3 => exact ints_one _
                case qc4 => unfold maxLen; omega
                case qc5 => omega
                case qc6 => exact hB3.size
                intro v3 w3 hown3 hgrow3 hnil3
                have hB4 : Below WT.heap.size WT w3 := hB3.grown hgrow3 hB3.size (fun k hk => own_block OW2.out hk)
                have hbF : Below w.heap.size w w3 := by
                  have q := hbT.trans (hB4.mono hbT.size)
                  exact hb.trans (q.mono hb.size)
                have hown5 : w3.ownsRow w.heap.size 3 1 v3 O'.length (O'.map (Value.int .i64)) := by
                  have q := hown3.mono (Nat.le_trans hb.size hbT.size)
                  rw [← FIN.out]
                  exact own_cast q (by have := OL.out; simp; omega) (by simp)
                have OW5 : Hid (w3.ownsRow w.heap.size 3 1 v3 O'.length (O'.map (Value.int .i64))) := hown5
                clear hown5 hown3 hnil3 hgrow3
                go_wp2
                go_roundw
                case rel => exact ⟨n + 1, by omega, by go_num, hbF, by rw [HOO.out]; exact OW5.out⟩
                case measure => simp [intOf]; omega
          · obtain rfl : k = M := by omega
            have hfin := HNEXT.out k HA.out (fun h => absurd h (by rw [OL.out]; omega))
            have FIN : Hid (O.take k ++ x :: O.drop k = O') := hfin
            clear hfin HNEXT HAGN
            have hnk : ¬ (k : Int) < (k : Int) := by omega
            go_wp2
            go_quiet (fail)
            have hbT : Below W0.heap.size W0 (wr.drewN nq) := below_drewN hbi nq
            have e1 := below_keep hbT h1
            have CT : Hid (∀ j (h : j < O.length), (wr.drewN nq).cell? ⟨g, j, none⟩ = some (.int .i64 O[j])) := fun j h => below_keep hbT (OC.out j h)
            clear OC d1
            generalize wr.drewN nq = WT at hbT e1 CT ⊢
            rcases Nat.lt_or_ge k cp with hcm | hcm
            · have hne : ¬ cp = k := by omega
              go_wp2_with (at_builtin; refine wpList_append_own _ rfl _ _ 50 rfl WT.heap.size 3 i0 (.int .i64 0) 1 8 Tryz.underlying50 hi0 hz0 hs0 hby0 rfl (by decide) (.slice none 0 0) 0 [] rfl ?qc0 ⟨g, 0, none⟩ (k) cp ((O.take (k)).map (Value.int .i64)) rfl ?qc1 ?qc2 ?qc3 ?qc4 ?qc5 ?qc6 ?_)
              case qc0 => exact World.ownsRow_nil _ _ _ _
              case qc1 => have := OL.out; rw [List.length_map, List.length_take]; omega
              case qc2 =>
                intro j u hj
                rw [Addr.add_lit, Nat.zero_add]
                obtain ⟨hjl, rfl⟩ := take_cell hj
                exact CT.out j hjl
              case qc3 => exact ints_one _
              case qc4 => unfold maxLen; omega
              case qc5 => omega
              case qc6 => exact Nat.le_refl _
              intro v1 w1 hown1 hgrow1 hnil1
              have hB1 : Below WT.heap.size WT w1 := (Below.refl _ _).grown hgrow1 (Nat.le_refl _) (fun k hk => by simp [Value.ownBlock] at hk)
              have OW1 : Hid (w1.ownsRow WT.heap.size 3 1 v1 (0 + (k)) ([] ++ (O.take (k)).map (Value.int .i64))) := own_cast hown1 (by omega) (by simp)
              clear hown1 hnil1 hgrow1
              have g1 := below_keep hB1 e1
              have hal : Below w1.heap.size w1 (w1.alloc (.cells #[.int .i64 x] 3)) := (Below.refl _ _).alloc (Nat.le_refl _) _
              have hB2 : Below WT.heap.size WT (w1.alloc (.cells #[.int .i64 x] 3)) := hB1.alloc hB1.size _
              go_wp2_with (at_builtin; refine wpList_append_own _ rfl _ _ 50 rfl WT.heap.size 3 i0 (.int .i64 0) 1 8 Tryz.underlying50 hi0 hz0 hs0 hby0 rfl (by decide) v1 (0 + (k)) ([] ++ (O.take (k)).map (Value.int .i64)) rfl ?qc0 ⟨w1.heap.size, 0, none⟩ 1 1 [.int .i64 x] rfl ?qc1 ?qc2 ?qc3 ?qc4 ?qc5 ?qc6 ?_)
              case qc0 => exact own_below OW1.out hal
              case qc1 => rfl
              case qc2 => exact cell_one _ _ _
              case qc3 => exact ints_one [x]
              case qc4 => unfold maxLen; omega
              case qc5 => omega
              case qc6 => exact hB2.size
              intro v2 w2 hown2 hgrow2 hnil2
              have hB3 : Below WT.heap.size WT w2 := hB2.grown hgrow2 hB2.size (fun k hk => own_block OW1.out hk)
              have OW2 : Hid (w2.ownsRow WT.heap.size 3 1 v2 (0 + (k) + 1) ([] ++ (O.take (k)).map (Value.int .i64) ++ [.int .i64 x])) := own_cast hown2 (by omega) (by simp)
              clear hown2 hnil2 hgrow2
              have z1 : (((k) : Nat) : Int) ≤ (k : Int) := by omega
              have z2 : (((k) : Nat) : Int) ≤ (cp : Int) := by omega
              have CT2 : Hid (∀ j (h : j < O.length), w2.cell? ⟨g, j, none⟩ = some (.int .i64 O[j])) := fun j h => below_keep hB3 (CT.out j h)
              go_wp2_with (at_builtin; refine wpList_append_own _ rfl _ _ 50 rfl WT.heap.size 3 i0 (.int .i64 0) 1 8 Tryz.underlying50 hi0 hz0 hs0 hby0 rfl (by decide) v2 (0 + (k) + 1) ([] ++ (O.take (k)).map (Value.int .i64) ++ [.int .i64 x]) rfl ?qc0 _ _ _ ((O.drop (k)).map (Value.int .i64)) rfl ?qc1 ?qc2 ?qc3 ?qc4 ?qc5 ?qc6 ?_)
              case qc0 => exact OW2.out
              case qc1 => have := OL.out; rw [List.length_map, List.length_drop]; omega
              case qc2 =>
                intro j u hj
                rw [Addr.add_lit]
                obtain ⟨hjl, rfl⟩ := drop_cell hj
                have := CT2.out _ hjl
                first
                  | exact absurd hjl (by have := OL.out; omega)
                  | simpa using this
              case qc3 => exact ints_one _
              case qc4 => unfold maxLen; omega
              case qc5 => omega
              case qc6 => exact hB3.size
              intro v3 w3 hown3 hgrow3 hnil3
              have hB4 : Below WT.heap.size WT w3 := hB3.grown hgrow3 hB3.size (fun k hk => own_block OW2.out hk)
              have hbF : Below w.heap.size w w3 := by
                have q := hbT.trans (hB4.mono hbT.size)
                exact hb.trans (q.mono hb.size)
              have hown5 : w3.ownsRow w.heap.size 3 1 v3 O'.length (O'.map (Value.int .i64)) := by
                have q := hown3.mono (Nat.le_trans hb.size hbT.size)
                rw [← FIN.out]
                exact own_cast q (by have := OL.out; simp; omega) (by simp)
              have OW5 : Hid (w3.ownsRow w.heap.size 3 1 v3 O'.length (O'.map (Value.int .i64))) := hown5
              clear hown5 hown3 hnil3 hgrow3
              go_wp2
              go_roundw
              case rel => exact ⟨n + 1, by omega, by go_num, hbF, by rw [HOO.out]; exact OW5.out⟩
              case measure => simp [intOf]; omega
            · have hcm2 : cp = k := by omega
              subst hcm2
              go_wp2_with (at_builtin; refine wpList_append_own _ rfl _ _ 50 rfl WT.heap.size 3 i0 (.int .i64 0) 1 8 Tryz.underlying50 hi0 hz0 hs0 hby0 rfl (by decide) (.slice none 0 0) 0 [] rfl ?qc0 ⟨g, 0, none⟩ (cp) cp ((O.take (cp)).map (Value.int .i64)) rfl ?qc1 ?qc2 ?qc3 ?qc4 ?qc5 ?qc6 ?_)
              case qc0 => exact World.ownsRow_nil _ _ _ _
              case qc1 => have := OL.out; rw [List.length_map, List.length_take]; omega
              case qc2 =>
                intro j u hj
                rw [Addr.add_lit, Nat.zero_add]
                obtain ⟨hjl, rfl⟩ := take_cell hj
                exact CT.out j hjl
              case qc3 => exact ints_one _
              case qc4 => unfold maxLen; omega
              case qc5 => omega
              case qc6 => exact Nat.le_refl _
              intro v1 w1 hown1 hgrow1 hnil1
              have hB1 : Below WT.heap.size WT w1 := (Below.refl _ _).grown hgrow1 (Nat.le_refl _) (fun k hk => by simp [Value.ownBlock] at hk)
              have OW1 : Hid (w1.ownsRow WT.heap.size 3 1 v1 (0 + (cp)) ([] ++ (O.take (cp)).map (Value.int .i64))) := own_cast hown1 (by omega) (by simp)
              clear hown1 hnil1 hgrow1
              have g1 := below_keep hB1 e1
              have hal : Below w1.heap.size w1 (w1.alloc (.cells #[.int .i64 x] 3)) := (Below.refl _ _).alloc (Nat.le_refl _) _
              have hB2 : Below WT.heap.size WT (w1.alloc (.cells #[.int .i64 x] 3)) := hB1.alloc hB1.size _
              go_wp2_with (at_builtin; refine wpList_append_own _ rfl _ _ 50 rfl WT.heap.size 3 i0 (.int .i64 0) 1 8 Tryz.underlying50 hi0 hz0 hs0 hby0 rfl (by decide) v1 (0 + (cp)) ([] ++ (O.take (cp)).map (Value.int .i64)) rfl ?qc0 ⟨w1.heap.size, 0, none⟩ 1 1 [.int .i64 x] rfl ?qc1 ?qc2 ?qc3 ?qc4 ?qc5 ?qc6 ?_)
              case qc0 => exact own_below OW1.out hal
              case qc1 => rfl
              case qc2 => exact cell_one _ _ _
              case qc3 => exact ints_one [x]
              case qc4 => unfold maxLen; omega
              case qc5 => omega
              case qc6 => exact hB2.size
              intro v2 w2 hown2 hgrow2 hnil2
              have hB3 : Below WT.heap.size WT w2 := hB2.grown hgrow2 hB2.size (fun k hk => own_block OW1.out hk)
              have OW2 : Hid (w2.ownsRow WT.heap.size 3 1 v2 (0 + (cp) + 1) ([] ++ (O.take (cp)).map (Value.int .i64) ++ [.int .i64 x])) := own_cast hown2 (by omega) (by simp)
              clear hown2 hnil2 hgrow2
              have z1 : (((cp) : Nat) : Int) ≤ (cp : Int) := by omega
              have z2 : (((cp) : Nat) : Int) ≤ (cp : Int) := by omega
              have CT2 : Hid (∀ j (h : j < O.length), w2.cell? ⟨g, j, none⟩ = some (.int .i64 O[j])) := fun j h => below_keep hB3 (CT.out j h)
              go_wp2_with (at_builtin; refine wpList_append_own _ rfl _ _ 50 rfl WT.heap.size 3 i0 (.int .i64 0) 1 8 Tryz.underlying50 hi0 hz0 hs0 hby0 rfl (by decide) v2 (0 + (cp) + 1) ([] ++ (O.take (cp)).map (Value.int .i64) ++ [.int .i64 x]) rfl ?qc0 _ _ _ ((O.drop (cp)).map (Value.int .i64)) rfl ?qc1 ?qc2 ?qc3 ?qc4 ?qc5 ?qc6 ?_)
              case qc0 => exact OW2.out
              case qc1 => have := OL.out; rw [List.length_map, List.length_drop]; omega
              case qc2 =>
                intro j u hj
                rw [Addr.add_lit]
                obtain ⟨hjl, rfl⟩ := drop_cell hj
                have := CT2.out _ hjl
                first
                  | exact absurd hjl (by have := OL.out; omega)
                  | simpa using this
              case qc3 => exact ints_one _
              case qc4 => unfold maxLen; omega
              case qc5 => omega
              case qc6 => exact hB3.size
              intro v3 w3 hown3 hgrow3 hnil3
              have hB4 : Below WT.heap.size WT w3 := hB3.grown hgrow3 hB3.size (fun k hk => own_block OW2.out hk)
              have hbF : Below w.heap.size w w3 := by
                have q := hbT.trans (hB4.mono hbT.size)
                exact hb.trans (q.mono hb.size)
              have hown5 : w3.ownsRow w.heap.size 3 1 v3 O'.length (O'.map (Value.int .i64)) := by
                have q := hown3.mono (Nat.le_trans hb.size hbT.size)
                rw [← FIN.out]
                exact own_cast q (by have := OL.out; simp; omega) (by simp)
              have OW5 : Hid (w3.ownsRow w.heap.size 3 1 v3 O'.length (O'.map (Value.int .i64))) := hown5
              clear hown5 hown3 hnil3 hgrow3
              go_wp2
              go_roundw
              case rel => exact ⟨n + 1, by omega, by go_num, hbF, by rw [HOO.out]; exact OW5.out⟩
              case measure => simp [intOf]; omega
    · have hn' : n = L := by omega
      subst hn'
      have ht : zs.take n = zs := List.take_of_length_le (by rw [HX.out]; omega)
      rw [ht] at hown
      have OW : Hid (KeysAt wr u3 (riseZ zs)) := keysAt_own hown
      clear hown ht
      go_wp2
      go_ret
      exact ⟨u3, rfl, OW.out, hb⟩
end Go.Proofs.YtdhkdjlgmbejnaaGreatDoor
