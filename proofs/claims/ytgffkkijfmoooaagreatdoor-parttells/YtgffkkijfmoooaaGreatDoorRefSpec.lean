/-
  The contracts of the document's own SpecOf and GroupOf.
-/
import Derived.Test.YtgffkkijfmoooaaGreatDoorSpecPure
import Derived.OwnWalk
namespace Go.Proofs.YtgffkkijfmoooaaGreatDoor
open Go.RowKit Go.Extern.Stop Go.Stop Go.Extern Go.Sort Go.Shelf Go.Lib

theorem two_of {ts : List ByteArray} (h : ts.length = 2) : ∃ K N, ts = [K, N] := by
  match ts, h with
  | [K, N], _ => exact ⟨K, N, rfl⟩

set_option maxRecDepth 100000 in
set_option maxHeartbeats 2000000 in
theorem specOf_any (s : ByteArray) (w : World) (hs : s.size ≤ 1000) :
    Calls Tryz.prog 33 #[.string s] w fun e w' => e = .returned (.tuple #[.string (specW s.data.toList), .int .i64 (specO s.data.toList).2.2, .int .i64 (specO s.data.toList).1]) ∧ Below w.heap.size w w' := by
  by_cases hp : s.data.toList = kPart
  · have e0 : specO s.data.toList = (0, 0, 0) := by unfold specO; rw [if_pos hp]
    have e1 : specW s.data.toList = s := by unfold specW; rw [e0]; simp only [if_pos]; rw [← hp]; exact bytesOf_data s
    rw [e0, e1]
    dsimp only
    have hpb := eqB_of hp
    unfold kPart at hpb
    clear e0 e1 hp hs
    go_enter Tryz.func33, Tryz.ntmps33
    go_wp2
    go_ret3
    exact ⟨rfl, Below.refl _ _⟩
  · have hpb := neB_of hp
    unfold kPart at hpb
    have hcut := cutText_any s w (by omega)
    by_cases h2 : (words s.data.toList).length = 2
    · obtain ⟨lk, ln, hw⟩ : ∃ lk ln, words s.data.toList = [lk, ln] := by
        generalize words s.data.toList = W at h2
        match W, h2 with
        | [a, b], _ => exact ⟨a, b, rfl⟩
      have hsp := spec_two hp hw
      have hwl := words_len s.data.toList
      rw [hw] at hcut hwl
      have hln : ln.length ≤ s.size := by rw [← size_list]; exact hwl ln (by simp)
      have HS : Hid (specO s.data.toList = if lk = kBucket then (if (nO ln).1 = 0 then (0, 1, (nO ln).2) else ((nO ln).1, 0, 0)) else if lk = kTrunc then (if (nO ln).1 = 0 then (0, 2, (nO ln).2) else ((nO ln).1, 0, 0)) else (1, 0, 0)) := hsp
      clear hsp hwl hp h2 hw
      go_enter Tryz.func33, Tryz.ntmps33
      go_wp2_with fail
      refine hcut.mono ?_
      rintro e w1 ⟨v, ts, rfl, hts, htm, hb1⟩
      clear hcut
      have htl : ts.length = 2 := by have := congrArg List.length htm; simpa using this
      obtain ⟨K, N, rfl⟩ := two_of htl
      simp only [List.map_cons, List.map_nil, List.cons.injEq, and_true] at htm
      obtain ⟨eK, eN⟩ := htm
      obtain ⟨b, cap, rfl, _, hcell⟩ := hts
      have c0 := hcell 0 (by simp)
      have c1 := hcell 1 (by simp)
      simp only [List.getElem_cons_zero, List.getElem_cons_succ] at c0 c1
      have hNs : N.size ≤ 1000 := by rw [← size_list, eN]; omega
      have hno := numberOf_any N w1 (by unfold maxLen; omega)
      have hsz := size_list N
      rw [eN] at hno hsz
      unfold numR at hno
      clear hcell htl hln
      simp only [List.length_cons, List.length_nil, Nat.zero_add, Nat.reduceAdd]
      have hnod : nO ln = (match numO ln with
        | none => (1, 0)
        | some n => if n < 0 ∨ 9 < ln.length then (1, 0) else if n < 1 ∨ 1000 < n then (2, 0) else (0, n)) := rfl
      cases hn : numO ln with
      | none =>
        rw [hn] at hno hnod
        dsimp only at hno hnod
        have HE : Hid (specO s.data.toList = (1, 0, 0)) := by show _ = _; rw [HS.out, hnod]; simp
        clear hnod hn HS
        go_wp2_with fail
        refine hno.mono ?_
        rintro e w2 ⟨rfl, rfl⟩
        clear hno
        go_wp2
        go_ret3
        exact ⟨by unfold specW; rw [HE.out]; rfl, hb1⟩
      | some n =>
        rw [hn] at hno hnod
        dsimp only at hno hnod
        clear hn
        by_cases hbad : n < 0 ∨ 9 < ln.length
        · rw [if_pos hbad] at hnod
          have HE : Hid (specO s.data.toList = (1, 0, 0)) := by show _ = _; rw [HS.out, hnod]; simp
          clear hnod HS
          rcases (show n < 0 ∨ (¬ n < 0 ∧ 9 < ln.length) by omega) with hb | ⟨hb, hb9⟩
          · go_wp2_with fail
            refine hno.mono ?_
            rintro e w2 ⟨rfl, rfl⟩
            clear hno hsz
            go_wp2
            go_ret3
            exact ⟨by unfold specW; rw [HE.out]; rfl, hb1⟩
          · have hN9 : (9 : Int) < (N.size : Int) := by omega
            clear hb9 hsz hbad
            go_wp2_with fail
            refine hno.mono ?_
            rintro e w2 ⟨rfl, rfl⟩
            clear hno
            go_wp2
            go_ret3
            exact ⟨by unfold specW; rw [HE.out]; rfl, hb1⟩
        · rw [if_neg hbad] at hnod
          have hn0 : ¬ n < 0 := by omega
          have hN9 : ¬ (9 : Int) < (N.size : Int) := by omega
          clear hbad hsz
          by_cases hbk : lk = kBucket ∨ lk = kTrunc
          · have hfin : ∃ k, (k = 1 ∨ k = 2) ∧ specO s.data.toList = (if (nO ln).1 = 0 then (0, k, (nO ln).2) else ((nO ln).1, 0, 0)) ∧ K = (if k = 1 then bytesOf kBucket else bytesOf kTrunc) := by
              have hKb : K = bytesOf lk := by rw [← eK]; exact (bytesOf_data K).symm
              by_cases h1 : lk = kBucket
              · exact ⟨1, Or.inl rfl, by rw [HS.out, if_pos h1], by rw [hKb, h1]; rfl⟩
              · have h3 : lk = kTrunc := hbk.resolve_left h1
                exact ⟨2, Or.inr rfl, by rw [HS.out, if_neg h1, if_pos h3], by rw [hKb, h3]; rfl⟩
            obtain ⟨k, hk12, hE, hKk⟩ := hfin
            have hKor : ((K.toList == [98, 117, 99, 107, 101, 116]) = true) ∨ ((K.toList == [98, 117, 99, 107, 101, 116]) = false ∧ (K.toList == [116, 114, 117, 110, 99]) = true) := by
              by_cases h1 : lk = kBucket
              · exact Or.inl (by have := eqB_of (eK.trans h1); unfold kBucket at this; exact this)
              · have h3 : lk = kTrunc := hbk.resolve_left h1
                have q1 := neB_of (fun e => h1 (eK.symm.trans e))
                have q2 := eqB_of (eK.trans h3)
                unfold kBucket at q1
                unfold kTrunc at q2
                exact Or.inr ⟨q1, q2⟩
            clear hbk HS
            by_cases hr : n < 1 ∨ 1000 < n
            · rw [if_pos hr] at hnod
              rw [hnod] at hE
              simp only [show ¬ ((2 : Nat) = 0) by omega, if_false] at hE
              have HE : Hid (specO s.data.toList = (2, 0, 0)) := hE
              clear hnod hE hKk hk12
              rcases (show n < 1 ∨ (¬ n < 1 ∧ 1000 < n) by omega) with hb | ⟨hb, hb9⟩
              · rcases hKor with q1 | ⟨q1, q2⟩
                all_goals
                  go_wp2_with fail
                  refine hno.mono ?_
                  rintro e w2 ⟨rfl, rfl⟩
                  clear hno
                  go_wp2
                  go_ret3
                  exact ⟨by unfold specW; rw [HE.out]; rfl, hb1⟩
              · rcases hKor with q1 | ⟨q1, q2⟩
                all_goals
                  go_wp2_with fail
                  refine hno.mono ?_
                  rintro e w2 ⟨rfl, rfl⟩
                  clear hno
                  go_wp2
                  go_ret3
                  exact ⟨by unfold specW; rw [HE.out]; rfl, hb1⟩
            · rw [if_neg hr] at hnod
              rw [hnod] at hE
              simp only [if_true] at hE
              have hW : specW s.data.toList = K := by
                unfold specW
                rw [hE]
                rcases hk12 with rfl | rfl
                · rw [hKk]; rfl
                · rw [hKk]; rfl
              have HE : Hid (specO s.data.toList = (0, k, n)) := hE
              have HW : Hid (specW s.data.toList = K) := hW
              have hb : ¬ n < 1 := by omega
              have hb9 : ¬ 1000 < n := by omega
              clear hnod hE hKk hW hr hk12
              rcases hKor with q1 | ⟨q1, q2⟩
              all_goals
                go_wp2_with fail
                refine hno.mono ?_
                rintro e w2 ⟨rfl, rfl⟩
                clear hno
                go_wp2
                go_ret3
                exact ⟨by rw [HW.out, HE.out]; rfl, hb1⟩
          · have hE : specO s.data.toList = (1, 0, 0) := by rw [HS.out, if_neg (fun e => hbk (Or.inl e)), if_neg (fun e => hbk (Or.inr e))]
            have q1 := neB_of (fun e => hbk (Or.inl (eK.symm.trans e)))
            have q2 := neB_of (fun e => hbk (Or.inr (eK.symm.trans e)))
            unfold kBucket at q1
            unfold kTrunc at q2
            have HE : Hid (specO s.data.toList = (1, 0, 0)) := hE
            clear hnod HS hE hbk
            go_wp2_with fail
            refine hno.mono ?_
            rintro e w2 ⟨rfl, rfl⟩
            clear hno
            go_wp2
            go_ret3
            exact ⟨by unfold specW; rw [HE.out]; rfl, hb1⟩
    · have HE : Hid (specO s.data.toList = (1, 0, 0)) := spec_other hp h2
      clear hp
      go_enter Tryz.func33, Tryz.ntmps33
      go_wp2_with fail
      refine hcut.mono ?_
      rintro e w1 ⟨v, ts, rfl, hts, htm, hb1⟩
      clear hcut
      have htl : ts.length ≠ 2 := by have := congrArg List.length htm; simp only [List.length_map] at this; omega
      have hti : ¬ (ts.length : Int) = 2 := by omega
      obtain ⟨b, cap, rfl, _, _⟩ := hts
      clear htm h2 htl
      go_wp2
      go_ret3
      exact ⟨by unfold specW; rw [HE.out]; rfl, hb1⟩

theorem specW_part (l : List UInt8) (h : (specO l).1 = 0) (hk : (specO l).2.1 = 0) : specW l = bytesOf kPart := by
  unfold specW; rw [if_pos h, if_pos hk]
theorem specW_bucket (l : List UInt8) (h : (specO l).1 = 0) (hk : (specO l).2.1 = 1) : specW l = bytesOf kBucket := by
  unfold specW; rw [if_pos h, if_neg (by omega), if_pos hk]
theorem specW_trunc (l : List UInt8) (h : (specO l).1 = 0) (hk : (specO l).2.1 ≠ 0) (hk1 : (specO l).2.1 ≠ 1) : specW l = bytesOf kTrunc := by
  unfold specW; rw [if_pos h, if_neg hk, if_neg hk1]

theorem spec_n' (s : List UInt8) : (specO s).2.1 = 0 ∨ (1 ≤ (specO s).2.2 ∧ (specO s).2.2 ≤ 1000) := by
  have hnO : ∀ l, (nO l).1 = 0 → 1 ≤ (nO l).2 ∧ (nO l).2 ≤ 1000 := fun l h => by
    obtain ⟨n, _, _, _, h1, h2, e⟩ := nO_fit h
    rw [e]; dsimp only; omega
  unfold specO
  split
  · exact Or.inl rfl
  · split
    · split
      · rename_i h3; exact Or.inr (hnO _ h3)
      · exact Or.inl rfl
    · split
      · split
        · rename_i h4; exact Or.inr (hnO _ h4)
        · exact Or.inl rfl
      · exact Or.inl rfl

end Go.Proofs.YtgffkkijfmoooaaGreatDoor
