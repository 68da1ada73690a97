/-
  The contract of the document's own ReadIDs.
-/
import Derived.Test.YtniipgaacdpncaaGreatDoorRefMeta
import Derived.Deep.CutBlock
namespace Go.Proofs.YtniipgaacdpncaaGreatDoor
open Go.RowKit Go.Extern.Stop Go.Stop Go.Extern Go.Sort Go.Shelf Go.Lib

/-- What ReadIDs hands back. -/
def ReadIP (w : World) (R : List Int × Nat × Option Nat) (e : Ending) (w' : World) : Prop := ∃ v, e = .returned (.tuple #[v, .agg #[.int .i64 R.2.1, .int .i64 (atZ R.2.2)]]) ∧ KeysAt w' v R.1 ∧ (∀ k, v.ownBlock = some k → w.heap.size ≤ k) ∧ Below w.heap.size w w'

theorem readI_bad {l k : List UInt8} {ws : List (List UInt8)} (h : words l.dropLast = k :: ws) (hb : ¬ (l.getLast? = some 10 ∧ k = kMeta) ∨ numsO ws = none) : readI l = ([], 1, none) := by
  unfold readI
  rw [h]
  dsimp only
  split
  · rename_i h1
    rcases hb with h2 | h2
    · exact absurd h1 h2
    · rw [h2]
  · rfl
theorem readI_ok {l : List UInt8} {ws : List (List UInt8)} {zs : List Int} (h : words l.dropLast = kMeta :: ws) (hl : l.getLast? = some 10) (hn : numsO ws = some zs) : readI l = if (idsE zs).1 ≠ 0 then ([], idsE zs) else (zs, 0, none) := by
  unfold readI
  rw [h]
  dsimp only
  rw [if_pos ⟨hl, rfl⟩, hn]

theorem nilNew {B : Nat} : ∀ k, (Value.slice none 0 0).ownBlock = some k → B ≤ k := fun k hk => by simp [Value.ownBlock] at hk
theorem nilKeys (W : World) : KeysAt W (.slice none 0 0) [] := Or.inl ⟨none, 0, rfl, rfl⟩

theorem words_count : ∀ l : List UInt8, (words l).length ≤ l.length + 1
  | [] => by simp [words]
  | c :: r => by
    have := words_count r
    unfold words
    split
    · simp; omega
    · split
      · simp
      · rename_i e
        rw [e] at this
        simp at this ⊢
        omega

theorem words_ne (l : List UInt8) : words l ≠ [] := by
  cases l with
  | nil => simp [words]
  | cons c r =>
    unfold words
    split
    · simp
    · split <;> simp

theorem nums_end {B : Nat} {W : World} {ts : List ByteArray} {e : Ending} (h : NumsPostN B W e ts) : ∃ (v : Value) (b : Bool), e = .returned (.tuple #[v, .bool b]) ∧ ((∃ zs, numsO (ts.map (·.data.toList)) = some zs ∧ b = true ∧ KeysAt W v zs ∧ ∀ k, v.ownBlock = some k → B ≤ k) ∨ (numsO (ts.map (·.data.toList)) = none ∧ b = false)) := by
  rcases h with ⟨zs, v, h1, h2, h3, h4, h5⟩ | ⟨j, t, h1, h2, h3⟩
  · refine ⟨v, true, h3, Or.inl ⟨zs, numsO_good (by rw [List.length_map]; exact h1) (fun j t ht => ?_), rfl, h4, h5⟩⟩
    rw [List.getElem?_map] at ht
    cases e : ts[j]? with
    | none => rw [e] at ht; cases ht
    | some u =>
      rw [e] at ht
      obtain rfl : u.data.toList = t := Option.some.inj ht
      exact h2 j u e
  · exact ⟨_, false, h3, Or.inr ⟨numsO_bad (j := j) (t := t.data.toList) (by rw [List.getElem?_map, h1]; rfl) h2, rfl⟩⟩

theorem numsO_len : ∀ {ws : List (List UInt8)} {zs : List Int}, numsO ws = some zs → zs.length = ws.length
  | [], zs, h => by
    obtain rfl : [] = zs := Option.some.inj h
    rfl
  | w :: r, zs, h => by
    unfold numsO at h
    split at h
    · rename_i z ys _ h2
      obtain rfl := Option.some.inj h
      simp [numsO_len h2]
    · cases h

theorem keys_off {W : World} {F : Nat} {v : Value} {zs : List Int} (h : KeysAt W v zs) (hn : ∀ k, v.ownBlock = some k → F < k) (p r : Int) : KeysAt ((W.setCell ⟨F, 0, none⟩ (.int .i64 p)).setCell ⟨F, 1, none⟩ (.int .i64 r)) v zs := by
  rcases h with h | ⟨b, o, cap, rfl, hc⟩
  · exact Or.inl h
  · have hb : F < b := hn b (by simp [Value.ownBlock])
    refine Or.inr ⟨b, o, cap, rfl, fun j hj => ?_⟩
    rw [World.cell?_setCell_other _ _ _ _ (by intro e; injection e with e; omega), World.cell?_setCell_other _ _ _ _ (by intro e; injection e with e; omega)]
    exact hc j hj

set_option maxRecDepth 100000 in
set_option maxHeartbeats 8000000 in
theorem readIDs_any (s : ByteArray) (w : World) (hs : s.size ≤ 10000) :
    Calls Tryz.prog 12 #[.string s] w (ReadIP w (readI s.data.toList)) := by
  have hszl := size_list s
  have hal : Below w.heap.size w (w.alloc (.cells #[.int .i64 0, .int .i64 0] 25)) := (Below.refl _ _).alloc (Nat.le_refl _) _
  have hfc : FC (w.alloc (.cells #[.int .i64 0, .int .i64 0] 25)) w.heap.size 0 0 := heap_alloc_new _ _
  have hle : w.heap.size ≤ w.heap.size := Nat.le_refl _
  generalize hR : readI s.data.toList = R
  have HR : Hid (readI s.data.toList = R) := hR
  clear hR
  by_cases h0 : s.size = 0
  · have hRR : R = ([], 1, none) := by
      rw [← HR.out, List.length_eq_zero_iff.1 (hszl.trans h0)]
      rfl
    subst hRR
    have hi : (s.size : Int) = 0 := by omega
    clear HR
    go_enter Tryz.func12, Tryz.ntmps12
    go_upto_region 1 with fail
    generalize w.alloc (.cells #[.int .i64 0, .int .i64 0] 25) = WA at hal hfc ⊢
    have hbr := bare_of 1 WA
    go_wp2_with fail
    refine hbr.mono ?_
    rintro e w1 ⟨rfl, hb1⟩
    clear hbr
    have hf1 := hfc.below hb1
    have hB1 : Below w.heap.size w w1 := hal.trans (hb1.mono hal.size)
    have j0 := hf1.c0
    have j1 := hf1.c1
    have jz := hf1.fz
    clear hfc hal hb1 hf1
    go_wp2
    refine bodyPost_ret (v := .tuple #[.slice none 0 0, .agg #[.int .i64 1, .int .i64 (-1)]]) (by simp [results, Tryz.results12, go_sem, j0, j1]) rfl ?_
    exact ⟨.slice none 0 0, rfl, nilKeys _, nilNew, (hB1.setCell hle _).setCell hle _⟩
  obtain ⟨M, hM⟩ : ∃ M, s.size - 1 = M := ⟨_, rfl⟩
  have hMs : M < s.size := by omega
  have hMw : IntKind.i64.wrap ((s.size : Int) - 1) = (M : Int) := by rw [IntWalk.i64_in _ (by omega)]; omega
  have hi0 : ¬ (s.size : Int) = 0 := by omega
  have hi1 : (0 : Int) ≤ (M : Int) := by omega
  have hi2 : (M : Int) < (s.size : Int) := by omega
  have hi3 : (M : Int) ≤ (s.size : Int) := by omega
  have hxe : (s.extract 0 M).data.toList = s.data.toList.dropLast := by
    rw [extract_data, List.dropLast_eq_take, hszl, hM]; simp
  have hcu := fun W => cutText_any (s.extract 0 M) W (by rw [← size_list, hxe, List.length_dropLast]; omega)
  rw [hxe] at hcu
  have HWL : Hid (∀ t ∈ words s.data.toList.dropLast, t.length ≤ 10000) := fun t ht => by
    have := words_len s.data.toList.dropLast t ht
    rw [List.length_dropLast] at this
    omega
  have HWC : Hid ((words s.data.toList.dropLast).length ≤ 10001) := by
    show _ ≤ _
    have := words_count s.data.toList.dropLast
    rw [List.length_dropLast] at this
    omega
  have hlast : s.data.toList.getLast? = some s[M] := by
    rw [List.getLast?_eq_getElem?, hszl, hM]
    exact byte_list s M hMs
  have hlb : ∀ (_ : s[M] = 10), (s[M].toNat : Int) = 10 := fun e => by rw [e]; rfl
  have hlc : ∀ (_ : s[M] ≠ 10), ¬ (s[M].toNat : Int) = 10 := fun e e' => e (UInt8.toNat_inj.1 (by have e10 : (10 : UInt8).toNat = 10 := rfl; omega))
  have HNE := words_ne s.data.toList.dropLast
  have HBAD : Hid (∀ k ws, words s.data.toList.dropLast = k :: ws → (¬ (s[M] = 10 ∧ k = kMeta) ∨ numsO ws = none) → R = ([], 1, none)) := fun k ws h hb => by
    rw [← HR.out]
    refine readI_bad h ?_
    rcases hb with h1 | h1
    · refine Or.inl ?_
      rintro ⟨h2, h3⟩
      rw [hlast] at h2
      exact h1 ⟨Option.some.inj h2, h3⟩
    · exact Or.inr h1
  have HOK : Hid (∀ ws zs, words s.data.toList.dropLast = kMeta :: ws → s[M] = 10 → numsO ws = some zs → R = if (idsE zs).1 ≠ 0 then ([], idsE zs) else (zs, 0, none)) := fun ws zs h hb hn => by
    rw [← HR.out]
    exact readI_ok h (by rw [hlast, hb]) hn
  generalize words s.data.toList.dropLast = wds at hcu HWL HWC HNE HBAD HOK
  clear HR hlast hxe hszl hM
  go_enter Tryz.func12, Tryz.ntmps12
  go_upto_region 1 with fail
  generalize w.alloc (.cells #[.int .i64 0, .int .i64 0] 25) = WA at hal hfc ⊢
  have hcu1 := hcu WA
  clear hcu
  go_wp2_with fail
  with_reducible refine hcu1.mono ?_
  rintro e w1 ⟨v1, ts, rfl, htx, hts, hb1⟩
  clear hcu1
  obtain ⟨b1, c1, rfl, hc1, hcell⟩ := htx
  have hB1 : Below w.heap.size w w1 := hal.trans (hb1.mono hal.size)
  have hf1 := hfc.below hb1
  clear hal hfc hb1
  obtain ⟨K, TS, rfl⟩ : ∃ K TS, ts = K :: TS := by
    cases ts with
    | nil => exact absurd hts.symm HNE
    | cons K TS => exact ⟨K, TS, rfl⟩
  have k0 := hcell 0 (by simp)
  simp only [List.getElem_cons_zero] at k0
  have hTl : TS.length ≤ 10000 := by
    have := HWC.out
    rw [← hts] at this
    simp at this
    omega
  have hTs : ∀ t ∈ TS, t.size ≤ maxLen := fun t ht => by
    have := HWL.out t.data.toList (by rw [← hts]; exact List.mem_cons_of_mem _ (List.mem_map.2 ⟨t, ht, rfl⟩))
    rw [size_list] at this
    unfold maxLen; omega
  have hnm : ∀ o cap, (TS ≠ [] → o = 1) → Calls Tryz.prog 30 #[.slice (some ⟨b1, o, none⟩) TS.length cap] w1 fun e w' => NumsPostN w1.heap.size w' e TS ∧ Below w1.heap.size w1 w' := fun o cap ho => numbersOf_new b1 o cap TS w1 (fun j hj => by
    have hne : TS ≠ [] := fun e => by rw [e] at hj; simp at hj
    rw [ho hne, Nat.add_comm 1 j]
    have := hcell (j + 1) (by simp; omega)
    simpa using this) hTs (by omega)
  have hts' : wds = K.data.toList :: TS.map (·.data.toList) := by rw [← hts]; rfl
  have HT0 : Hid (TS = [] ↔ TS.length = 0) := List.length_eq_zero_iff.symm
  clear hcell hTs hts HWL HWC HNE
  simp only [List.length_cons] at hc1 ⊢
  obtain ⟨N, hN⟩ : ∃ N, TS.length = N := ⟨_, rfl⟩
  have HN : Hid (TS.length = N) := hN
  rw [hN] at hc1 hnm hTl ⊢
  clear hN
  have hn1 : (1 : Int) ≤ ((N + 1 : Nat) : Int) := by omega
  have hn2 : ((N + 1 : Nat) : Int) ≤ (c1 : Int) := by omega
  have hn3 : N + 1 - 1 = N := by omega
  go_upto_region 4 with fail
  go_wp2_with fail
  all_goals first
    | with_reducible refine (hnm 1 _ (fun _ => rfl)).mono ?_
    | with_reducible refine (hnm 0 _ (fun h => absurd (HT0.out.2 (by rw [HN.out]; omega)) h)).mono ?_
  all_goals
    rintro e w2 ⟨hres, hb2⟩
    obtain ⟨v5, bv, rfl, hnu⟩ : ∃ (v : Value) (b : Bool), e = .returned (.tuple #[v, .bool b]) ∧ ((∃ zs, numsO (TS.map (·.data.toList)) = some zs ∧ b = true ∧ KeysAt w2 v zs ∧ ∀ k, v.ownBlock = some k → w1.heap.size ≤ k) ∨ (numsO (TS.map (·.data.toList)) = none ∧ b = false)) := nums_end hres
    have hB2 : Below w.heap.size w w2 := hB1.trans (hb2.mono hB1.size)
    have hf2 := hf1.below hb2
    have k2 := below_keep hb2 k0
    have hwk : w.heap.size < w1.heap.size := hf1.lt
    clear hres hnm hf1 k0 hB1 hb2
    by_cases hgood : s[M] = 10 ∧ K.data.toList = kMeta ∧ bv = true
    · obtain ⟨g1, g2, rfl⟩ := hgood
      obtain ⟨zs, hzs, hkz, hkn⟩ : ∃ zs, numsO (TS.map (·.data.toList)) = some zs ∧ KeysAt w2 v5 zs ∧ ∀ k, v5.ownBlock = some k → w1.heap.size ≤ k := by
        rcases hnu with ⟨zs, h1, _, h2, h3⟩ | ⟨_, h⟩
        · exact ⟨zs, h1, h2, h3⟩
        · cases h
      have hRR := HOK.out (TS.map (·.data.toList)) zs (by rw [hts', g2]) g1 hzs
      have hzl : zs.length ≤ 10000 := by
        have := numsO_len hzs
        rw [List.length_map, HN.out] at this
        omega
      have hl1 := hlb g1
      have d1 := eqB_of g2
      simp only [kMeta] at d1
      have hif := idsFault_any v5 zs w2 hkz (by omega)
      obtain ⟨q5, c5, rfl⟩ := hkz.shape
      have HK5 : Hid (KeysAt w2 (.slice q5 zs.length c5) zs) := hkz
      have HKN : Hid (∀ k, (Value.slice q5 zs.length c5).ownBlock = some k → w.heap.size < k) := fun k hk => Nat.lt_of_lt_of_le hwk (hkn k hk)
      clear hkn
      clear hnu HOK HBAD hlb hlc g2 hzs hts' hkz
      generalize hCE : idsE zs = CE at hif hRR
      clear hCE
      obtain ⟨EC, EA⟩ := CE
      dsimp only at hif hRR
      have HRE : Hid (R = if EC ≠ 0 then ([], (EC, EA)) else (zs, 0, none)) := hRR
      clear hRR
      go_wp2_with fail
      refine hif.mono ?_
      rintro e w3 ⟨rfl, hb3⟩
      clear hif k2
      have hB3 : Below w.heap.size w w3 := hB2.trans (hb3.mono hB2.size)
      have hf3 := hf2.below hb3
      have HK3 : Hid (KeysAt w3 (.slice q5 zs.length c5) zs) := HK5.out.below hb3
      clear hf2 HK5 hB2 hb3
      have hal4 : Below w3.heap.size w3 (w3.alloc (.cells #[.int .i64 EC, .int .i64 (atZ EA)] 25)) := (Below.refl _ _).alloc (Nat.le_refl _) _
      have hB4 : Below w.heap.size w (w3.alloc (.cells #[.int .i64 EC, .int .i64 (atZ EA)] 25)) := hB3.trans (hal4.mono hB3.size)
      have hf4 := hf3.below hal4
      have hg4 : FC (w3.alloc (.cells #[.int .i64 EC, .int .i64 (atZ EA)] 25)) w3.heap.size EC (atZ EA) := heap_alloc_new _ _
      have HK4 : Hid (KeysAt (w3.alloc (.cells #[.int .i64 EC, .int .i64 (atZ EA)] 25)) (.slice q5 zs.length c5) zs) := HK3.out.below hal4
      have hFF : w.heap.size < w3.heap.size := hf3.lt
      clear hal4 hf3 HK3 hB3
      go_upto_region 8 with fail
      generalize w3.alloc (.cells #[.int .i64 EC, .int .i64 (atZ EA)] 25) = w4 at hB4 hf4 hg4 HK4 ⊢
      generalize w3.heap.size = G at hg4 hFF ⊢
      have i0 := hg4.c0
      have i1 := hg4.c1
      by_cases hE : EC = 0
      · have hRR : R = (zs, 0, none) := by rw [HRE.out, if_neg (by simpa using hE)]
        subst hRR
        subst hE
        have hfi := fine_of w4
        go_wp2_with fail
        refine hfi.mono ?_
        rintro e w5 ⟨rfl, hb5⟩
        clear hfi
        have hB5 : Below w.heap.size w w5 := hB4.trans (hb5.mono hB4.size)
        have hf5 := hf4.below hb5
        have HK5 : Hid (KeysAt w5 (.slice q5 zs.length c5) zs) := HK4.out.below hb5
        have HKF : Hid (KeysAt ((w5.setCell ⟨w.heap.size, 0, none⟩ (.int .i64 0)).setCell ⟨w.heap.size, 1, none⟩ (.int .i64 (-1))) (.slice q5 zs.length c5) zs) := keys_off HK5.out HKN.out 0 (-1)
        have j0 := hf5.c0
        have j1 := hf5.c1
        have jz := hf5.fz
        have hfF := hf5.set 0 (-1)
        have m0 := hfF.c0
        have m1 := hfF.c1
        clear hf5 hf4 hg4 i0 i1 hb5 hfF
        go_wp2
        refine bodyPost_ret (v := .tuple #[.slice q5 zs.length c5, .agg #[.int .i64 0, .int .i64 (-1)]]) (by simp [results, Tryz.results12, go_sem, m0, m1]) rfl ?_
        exact ⟨_, rfl, HKF.out, fun k hk => Nat.le_of_lt (HKN.out k hk), (hB5.setCell hle _).setCell hle _⟩
      · have hRR : R = ([], (EC, EA)) := by rw [HRE.out, if_pos hE]
        subst hRR
        have hEp : (0 : Int) < (EC : Int) := by omega
        have hdr : Below w4.heap.size w4 w4.drew := (Below.refl _ _).drew
        have hBd := hB4.drew
        have hfd := hf4.below hdr
        have hgd := hg4.below hdr
        have j0 := hf4.c0
        have j1 := hf4.c1
        have jz := hf4.fz
        have m0 := hfd.c0
        have m1 := hfd.c1
        have mz := hfd.fz
        have q0 := hgd.c0
        have q1 := hgd.c1
        clear hdr hfd hgd
        go_wp2_with fail
        go_region
        all_goals go_wp2
        all_goals refine bodyPost_ret (v := .tuple #[.slice none 0 0, .agg #[.int .i64 (EC : Int), .int .i64 (atZ EA)]]) (by simp [results, Tryz.results12, go_sem, j0, j1]) rfl ?_
        all_goals refine ⟨.slice none 0 0, rfl, nilKeys _, nilNew, ?_⟩
        all_goals first
          | exact (hB4.setCell hle _).setCell hle _
          | exact (hBd.setCell hle _).setCell hle _
          | exact ((hB4.setCell hle _).setCell hle _).drew
    · have hRR : R = ([], 1, none) := HBAD.out K.data.toList (TS.map (·.data.toList)) hts' (by
        by_cases g1 : s[M] = 10 ∧ K.data.toList = kMeta
        · right
          rcases hnu with ⟨_, _, h, _, _⟩ | ⟨h, _⟩
          · exact absurd ⟨g1.1, g1.2, h⟩ hgood
          · exact h
        · exact Or.inl g1)
      subst hRR
      have hc3 : s[M] ≠ 10 ∨ (s[M] = 10 ∧ K.data.toList ≠ kMeta) ∨ (s[M] = 10 ∧ K.data.toList = kMeta ∧ bv = false) := by
        by_cases g1 : s[M] = 10
        · by_cases g2 : K.data.toList = kMeta
          · cases bv
            · exact Or.inr (Or.inr ⟨g1, g2, rfl⟩)
            · exact absurd ⟨g1, g2, rfl⟩ hgood
          · exact Or.inr (Or.inl ⟨g1, g2⟩)
        · exact Or.inl g1
      have hbr := bare_of 1 w2
      clear hnu HOK HBAD hgood
      have FIN : Hid (∀ w5, Below w2.heap.size w2 w5 → ReadIP w ([], 1, none) (.returned (.tuple #[.slice none 0 0, .agg #[.int .i64 1, .int .i64 (-1)]])) ((w5.setCell ⟨w.heap.size, 0, none⟩ (.int .i64 1)).setCell ⟨w.heap.size, 1, none⟩ (.int .i64 (-1)))) := fun w5 hb5 =>
        ⟨.slice none 0 0, rfl, nilKeys _, nilNew, ((hB2.trans (hb5.mono hB2.size)).setCell hle _).setCell hle _⟩
      rcases hc3 with g1 | ⟨g1, g2⟩ | ⟨g1, g2, rfl⟩
      · have hl1 := hlc g1
        clear hlb hlc g1 hts'
        go_wp2_with fail
        refine hbr.mono ?_
        rintro e w5 ⟨rfl, hb5⟩
        clear hbr
        have hf5 := hf2.below hb5
        have j0 := hf5.c0
        have j1 := hf5.c1
        have jz := hf5.fz
        clear hf5 hf2 k2
        go_wp2
        exact bodyPost_ret (v := .tuple #[.slice none 0 0, .agg #[.int .i64 1, .int .i64 (-1)]]) (by simp [results, Tryz.results12, go_sem, j0, j1]) rfl (FIN.out w5 hb5)
      · have hl1 := hlb g1
        have d1 := neB_of g2
        simp only [kMeta] at d1
        clear hlb hlc g1 g2 hts'
        go_wp2_with fail
        refine hbr.mono ?_
        rintro e w5 ⟨rfl, hb5⟩
        clear hbr
        have hf5 := hf2.below hb5
        have j0 := hf5.c0
        have j1 := hf5.c1
        have jz := hf5.fz
        clear hf5 hf2 k2
        go_wp2
        exact bodyPost_ret (v := .tuple #[.slice none 0 0, .agg #[.int .i64 1, .int .i64 (-1)]]) (by simp [results, Tryz.results12, go_sem, j0, j1]) rfl (FIN.out w5 hb5)
      · have hl1 := hlb g1
        have d1 := eqB_of g2
        simp only [kMeta] at d1
        clear hlb hlc g1 g2 hts'
        go_wp2_with fail
        refine hbr.mono ?_
        rintro e w5 ⟨rfl, hb5⟩
        clear hbr
        have hf5 := hf2.below hb5
        have j0 := hf5.c0
        have j1 := hf5.c1
        have jz := hf5.fz
        clear hf5 hf2 k2
        go_wp2
        exact bodyPost_ret (v := .tuple #[.slice none 0 0, .agg #[.int .i64 1, .int .i64 (-1)]]) (by simp [results, Tryz.results12, go_sem, j0, j1]) rfl (FIN.out w5 hb5)
end Go.Proofs.YtniipgaacdpncaaGreatDoor
