/-
  The walk of TxnLoses.
-/
import Derived.Test.YtijbmahnjonmmaaGreatDoorTxnLs
namespace Go.Proofs.YtijbmahnjonmmaaGreatDoor
open Go.RowKit Go.Extern.Stop Go.Stop Go.Extern Go.Sort Go.Shelf Go.Lib

theorem loses_begin {w W : World} {s : Sn} {vf v1 v2 : Value} {bx k1 k2 k3 k4 : Nat} (hsn : SnAt W bx s vf) (hbx : w.heap.size ≤ bx) (h0 : bx < k1) (h12 : k2 ≤ k3) (h4 : k4 ≤ W.heap.size) (h13 : k1 ≤ k3) (hs1 : k2 ≤ W.heap.size)
    (hT : TxHas 66 w.heap.size W v1 (fun k => k1 ≤ k ∧ k < k2) (s, [], [])) (hU : TxHas 66 w.heap.size W v2 (fun k => k3 ≤ k ∧ k < k4) (s, [], [])) :
    LoI w.heap.size W W.heap.size bx s vf v1 v2 (s, [], []) (s, [], []) [] [] (.slice none 0 0) (.slice none 0 0) :=
  ⟨hsn, hbx, hsn.lt, Nat.le_refl _, ⟨_, _, hT, hU, fun k hk => ⟨fun e => by omega, by omega, by simp [Value.ownBlock], by simp [Value.ownBlock], by omega⟩, fun k hk => ⟨by omega, by simp [Value.ownBlock], by simp [Value.ownBlock], by omega⟩⟩, World.ownsRow_nil _ _ _ _, World.ownsRow_nil _ _ _ _, fun k hk => by simp [Value.ownBlock] at hk, fun k hk => by simp [Value.ownBlock] at hk⟩

set_option maxRecDepth 100000 in
set_option maxHeartbeats 32000000 in
theorem txnLoses_any (w : World) (a : Nat → Addr) (h : EnvX w a) (s : Sn) (vf va vb : Value) (la lb : List Ch) (id day idx : Int) (hx : FlsAt w vf s.2.2.2.2.2.2) (ho : s.2.2.2.2.2.1.size ≤ maxLen) (hl : s.2.2.2.2.2.2.length ≤ maxLen) (hsz : ∀ f ∈ s.2.2.2.2.2.2, f.1.size ≤ maxLen ∧ f.2.1.size ≤ maxLen) (hA : ChIn w va la) (hB : ChIn w vb lb) (hid : -9223372036854775808 ≤ id) :
    Calls Tryz.prog 3 #[snV s vf, va, vb, .int .i64 id, .int .i64 day, .int .i64 idx] w fun e w' => e = .returned (.bool true) ∧ Below w.heap.size w w' := by
  have HENV : Hid (∀ W, Below w.heap.size w W → EnvX W a) := fun W hb => h.below hb
  have HX : Hid (∀ W, Below w.heap.size w W → FlsAt W vf s.2.2.2.2.2.2) := fun W hb => hx.below hb
  have HCH : Hid (∀ W, Below w.heap.size w W → Calls Tryz.prog 5 #[] W fun e w' => e = .returned (.bool true) ∧ Below W.heap.size W w') := fun W hb => changed_any W a (h.below hb)
  have HLS : Hid (∀ W, Below w.heap.size w W → Calls Tryz.prog 6 #[snV s vf] W fun e w' => e = .returned (.int .i64 (if longSn s then 1 else 0)) ∧ Below W.heap.size W w') := fun W hb => longSnap_any s vf W (hx.below hb) ho hl hsz
  have HLA : Hid (∀ W, Below w.heap.size w W → Calls Tryz.prog 7 #[va] W fun e w' => e = .returned (.bool (chsLong la)) ∧ Below W.heap.size W w') := fun W hb => longChanges_any va la W (hA.1.below hb (Nat.le_refl _)) hA.2.1 hA.2.2
  have HLB : Hid (∀ W, Below w.heap.size w W → Calls Tryz.prog 7 #[vb] W fun e w' => e = .returned (.bool (chsLong lb)) ∧ Below W.heap.size W w') := fun W hb => longChanges_any vb lb W (hB.1.below hb (Nat.le_refl _)) hB.2.1 hB.2.2
  have HCA : Hid (∀ W, Below w.heap.size w W → ChsAt W va la) := fun W hb => hA.1.below hb (Nat.le_refl _)
  have HCB : Hid (∀ W, Below w.heap.size w W → ChsAt W vb lb) := fun W hb => hB.1.below hb (Nat.le_refl _)
  obtain ⟨qf, cf, hvf⟩ := hx.form
  obtain ⟨qa, ca, hva⟩ := hA.1.form
  obtain ⟨qb, cb, hvb⟩ := hB.1.form
  have hal : Below w.heap.size w (w.alloc (.cells #[.int .i64 s.1, .int .i64 s.2.1, .int .i64 s.2.2.1, .int .i64 s.2.2.2.1, .int .i64 s.2.2.2.2.1, .string s.2.2.2.2.2.1, vf] 24)) := (Below.refl _ _).alloc (Nat.le_refl _) _
  have hsn := SnAt.new w s vf
  obtain ⟨L0, hL0⟩ : ∃ n, s.2.2.2.2.2.2.length = n := ⟨_, rfl⟩
  obtain ⟨LA, hLA⟩ : ∃ n, la.length = n := ⟨_, rfl⟩
  obtain ⟨LB, hLB⟩ : ∃ n, lb.length = n := ⟨_, rfl⟩
  have HL0 : Hid (s.2.2.2.2.2.2.length = L0) := hL0
  have HLAL : Hid (la.length = LA) := hLA
  have HLBL : Hid (lb.length = LB) := hLB
  rw [hL0] at hvf
  rw [hLA] at hva
  rw [hLB] at hvb
  subst hvf hva hvb
  clear hx ho hl hsz hA hB h hL0 hLA hLB
  have HS : Hid (∀ W, SnAt W w.heap.size s (.slice qf L0 cf) → W.cell? ⟨w.heap.size, 0, none⟩ = some (.int .i64 s.1) ∧ W.cell? ⟨w.heap.size, 1, none⟩ = some (.int .i64 s.2.1) ∧ W.cell? ⟨w.heap.size, 2, none⟩ = some (.int .i64 s.2.2.1) ∧ W.cell? ⟨w.heap.size, 3, none⟩ = some (.int .i64 s.2.2.2.1) ∧ W.cell? ⟨w.heap.size, 4, none⟩ = some (.int .i64 s.2.2.2.2.1) ∧ W.cell? ⟨w.heap.size, 5, none⟩ = some (.string s.2.2.2.2.2.1) ∧ W.cell? ⟨w.heap.size, 6, none⟩ = some (.slice qf L0 cf)) := fun W h => h.cells
  unfold snV at HLS ⊢
  go_enter Tryz.func3, Tryz.ntmps3
  go_upto_region 1 with fail
  generalize w.alloc (.cells #[.int .i64 s.1, .int .i64 s.2.1, .int .i64 s.2.2.1, .int .i64 s.2.2.2.1, .int .i64 s.2.2.2.2.1, .string s.2.2.2.2.2.1, .slice qf L0 cf] 24) = W0 at hal hsn ⊢
  go_wp2_with fail
  refine (HCH.out W0 hal).mono ?_
  rintro e w1 ⟨rfl, hb1⟩
  clear HCH
  have hB1 : Below w.heap.size w w1 := hal.trans (hb1.mono hal.size)
  have hsn1 := hsn.below hb1
  obtain ⟨x0, x1, x2, x3, x4, x5, x6⟩ := HS.out w1 hsn1
  clear hsn hal hb1
  cases hR1 : longSn s with
  | true =>
    have hls := HLS.out w1 hB1
    rw [hR1, if_pos rfl] at hls
    go_wp2_with (go_at_call 6; with_reducible refine hls.mono ?_; rintro e w2 ⟨rfl, hb2⟩)
    go_ret
    exact ⟨rfl, hB1.trans (hb2.mono hB1.size)⟩
  | false =>
  have hls := HLS.out w1 hB1
  rw [hR1, if_neg (by simp)] at hls
  obtain ⟨hop30, hl61, hshort⟩ := longSn_no hR1
  have HSH : Hid (Short s.2.2.2.2.2.2) := hshort
  rw [HL0.out] at hl61
  clear HLS hR1 hop30 hshort
  have HL2 : Hid (∀ w2, Below w1.heap.size w1 w2 → Below w.heap.size w w2) := fun w2 hb => hB1.trans (hb.mono hB1.size)
  cases hR2 : chsLong la with
  | true =>
    rw [hR2] at HLA
    go_wp2_with (first
      | (go_at_call 6; with_reducible refine hls.mono ?_; rintro e w2 ⟨rfl, hb2⟩; have hla := HLA.out w2 (HL2.out w2 hb2))
      | (go_at_call 7; with_reducible refine hla.mono ?_; rintro e w3 ⟨rfl, hb3⟩))
    go_ret
    exact ⟨rfl, (HL2.out w2 hb2).trans (hb3.mono (HL2.out w2 hb2).size)⟩
  | false =>
  obtain ⟨hLA30, hshA⟩ := chs_short hR2
  have HSA : Hid (∀ x ∈ la, x.2.2.size ≤ 30 ∧ x.2.1.1.size ≤ 30 ∧ x.2.1.2.1.size ≤ 30) := hshA
  rw [HLAL.out] at hLA30
  rw [hR2] at HLA
  clear hR2 hshA
  have HL3 : Hid (∀ w2 w3, Below w1.heap.size w1 w2 → Below w2.heap.size w2 w3 → Below w.heap.size w w3) := fun w2 w3 h2 h3 => (HL2.out w2 h2).trans (h3.mono (HL2.out w2 h2).size)
  cases hR3 : chsLong lb with
  | true =>
    rw [hR3] at HLB
    go_wp2_with (first
      | (go_at_call 6; with_reducible refine hls.mono ?_; rintro e w2 ⟨rfl, hb2⟩; have hla := HLA.out w2 (HL2.out w2 hb2))
      | (go_at_call 7; with_reducible refine hla.mono ?_; rintro e w3 ⟨rfl, hb3⟩; have hlb := HLB.out w3 (HL3.out w2 w3 hb2 hb3); clear hla)
      | (go_at_call 7; with_reducible refine hlb.mono ?_; rintro e w4 ⟨rfl, hb4⟩))
    go_ret
    exact ⟨rfl, (HL3.out w2 w3 hb2 hb3).trans (hb4.mono (HL3.out w2 w3 hb2 hb3).size)⟩
  | false =>
  obtain ⟨hLB30, hshB⟩ := chs_short hR3
  have HSB : Hid (∀ x ∈ lb, x.2.2.size ≤ 30 ∧ x.2.1.1.size ≤ 30 ∧ x.2.1.2.1.size ≤ 30) := hshB
  rw [HLBL.out] at hLB30
  rw [hR3] at HLB
  clear hR3 hshB
  by_cases hR4 : 1073741824 < id
  · go_wp2_with (first
      | (go_at_call 6; with_reducible refine hls.mono ?_; rintro e w2 ⟨rfl, hb2⟩; have hla := HLA.out w2 (HL2.out w2 hb2))
      | (go_at_call 7; with_reducible refine hla.mono ?_; rintro e w3 ⟨rfl, hb3⟩; have hlb := HLB.out w3 (HL3.out w2 w3 hb2 hb3); clear hla)
      | (go_at_call 7; with_reducible refine hlb.mono ?_; rintro e w4 ⟨rfl, hb4⟩))
    go_ret
    exact ⟨rfl, (HL3.out w2 w3 hb2 hb3).trans (hb4.mono (HL3.out w2 w3 hb2 hb3).size)⟩
  go_upto_region 4 with (first
    | (go_at_call 6; with_reducible refine hls.mono ?_; rintro e w2 ⟨rfl, hb2⟩; have hla := HLA.out w2 (HL2.out w2 hb2))
    | (go_at_call 7; with_reducible refine hla.mono ?_; rintro e w3 ⟨rfl, hb3⟩; have hlb := HLB.out w3 (HL3.out w2 w3 hb2 hb3); clear hla)
    | (go_at_call 7; with_reducible refine hlb.mono ?_; rintro e w4 ⟨rfl, hb4⟩))
  have hB4 : Below w.heap.size w w4 := (HL3.out w2 w3 hb2 hb3).trans (hb4.mono (HL3.out w2 w3 hb2 hb3).size)
  have hsn4 := ((hsn1.below hb2).below hb3).below hb4
  clear hls hlb HLA HLB HL2 HL3 hb2 hb3 hb4 hsn1 hB1 x0 x1 x2 x3 x4 x5 x6
  have HOW : Hid (∀ W, Below w.heap.size w W → Calls Tryz.prog 9 #[snV s (.slice qf L0 cf)] W fun e w' => ∃ v', e = .returned (snV s v') ∧ FlsAt w' v' s.2.2.2.2.2.2 ∧ Below W.heap.size W w') := fun W hb => ownSnap_any s _ W (HX.out W hb) (by rw [HL0.out]; omega)
  have HBG : Hid (∀ W v, Below w.heap.size w W → FlsAt W v s.2.2.2.2.2.2 → Calls Tryz.prog 8 #[snV s v] W fun e w' => BeginP 66 W a s e w') := fun W v hb hf => begin_any s v W a (HENV.out W hb) hf (by rw [HL0.out]; omega) HSH.out
  unfold snV at HOW HBG
  obtain ⟨x0, x1, x2, x3, x4, x5, x6⟩ := HS.out w4 hsn4
  go_wp2_with fail
  refine (HOW.out w4 hB4).mono ?_
  rintro e w5 ⟨v5, rfl, hf5, hb5⟩
  have hB5 : Below w.heap.size w w5 := hB4.trans (hb5.mono hB4.size)
  have hsn5 := hsn4.below hb5
  clear hb5 hsn4 hB4 x0 x1 x2 x3 x4 x5 x6
  go_wp2_with fail
  refine (HBG.out w5 v5 hB5 hf5).mono ?_
  rintro e w6 ⟨v6, ev6, rfl, ht6, hb6, hor6⟩
  have hB6 : Below w.heap.size w w6 := hB5.trans (hb6.mono hB5.size)
  have hsn6 := hsn5.below hb6
  have hlt5 : w.heap.size < w5.heap.size := hsn5.lt
  clear hf5 hsn5
  obtain ⟨x0, x1, x2, x3, x4, x5, x6⟩ := HS.out w6 hsn6
  go_upto_region 5 with fail
  go_wp2_with fail
  refine (HOW.out w6 hB6).mono ?_
  rintro e w7 ⟨v7, rfl, hf7, hb7⟩
  have hB7 : Below w.heap.size w w7 := hB6.trans (hb7.mono hB6.size)
  have hsn7 := hsn6.below hb7
  clear hsn6 x0 x1 x2 x3 x4 x5 x6
  go_wp2_with fail
  refine (HBG.out w7 v7 hB7 hf7).mono ?_
  rintro e w8 ⟨v8, ev8, rfl, ht8, hb8, hor8⟩
  have hB8 : Below w.heap.size w w8 := hB7.trans (hb8.mono hB7.size)
  have hsn8 := hsn7.below hb8
  clear hf7 hsn7 HOW HBG hB7
  by_cases hE : (snapE s).1 = 0
  case neg =>
    obtain ⟨t6, u6, rfl⟩ := ht6.bad hE
    obtain ⟨t8, u8, rfl⟩ := ht8.bad hE
    obtain rfl : v6 = .pointer none := by
      rcases hor6 with ⟨_, h'⟩ | ⟨h', _⟩
      · exact h'
      · exact absurd h' hE
    obtain rfl : v8 = .pointer none := by
      rcases hor8 with ⟨_, h'⟩ | ⟨h', _⟩
      · exact h'
      · exact absurd h' hE
    clear ht6 ht8 hor6 hor8 hsn8 hE
    go_wp2
    go_ret
    exact ⟨rfl, hB8⟩
  case pos =>
  obtain rfl : ev6 = .nilIface := ht6.ok hE
  obtain rfl : ev8 = .nilIface := ht8.ok hE
  have hT6 : TxHas 66 w.heap.size w8 v6 (fun k => w5.heap.size ≤ k ∧ k < w6.heap.size) (s, [], []) := by
    rcases hor6 with ⟨h', _⟩ | ⟨_, h'⟩
    · exact absurd hE h'
    · exact ((h' w.heap.size hB5.size).below hb7).below hb8
  have hT8 : TxHas 66 w.heap.size w8 v8 (fun k => w7.heap.size ≤ k ∧ k < w8.heap.size) (s, [], []) := by
    rcases hor8 with ⟨h', _⟩ | ⟨_, h'⟩
    · exact absurd hE h'
    · exact h' w.heap.size (Nat.le_trans hB6.size hb7.size)
  have HLI : Hid (LoI w.heap.size w8 w8.heap.size w.heap.size s (.slice qf L0 cf) v6 v8 (s, [], []) (s, [], []) [] [] (.slice none 0 0) (.slice none 0 0)) := loses_begin hsn8 (Nat.le_refl _) hlt5 hb7.size (Nat.le_refl _) (Nat.le_trans hb6.size hb7.size) (Nat.le_trans hb7.size hb8.size) hT6 hT8
  have HLP : Hid (LoP LA 0 s (s, [], []) (s, [], []) [] []) := ⟨txOk_begin hE, txOk_begin hE, rfl, rfl, rfl, rfl, ⟨by simp, by simp⟩, by simp⟩
  obtain ⟨tb, rfl⟩ := has_ptr hT6
  obtain ⟨ub, rfl⟩ := has_ptr hT8
  have HE : Hid ((snapE s).1 = 0) := hE
  clear ht6 ht8 hor6 hor8 hT6 hT8 hsn8 hE hb6 hb7 hb8 hB5 hB6 hlt5
  have hi1 : IntKind.i64.wrap ((LA : Int) + (LB : Int)) = (LA : Int) + (LB : Int) := IntWalk.i64_in _ (by omega)
  go_wp2_with fail
  go_loopw [18, 19, 20, 21, 22] (fun sa sr k _ _ wr => ∃ (n : Nat) (t u : Tx) (ad rm : List ByteArray), n ≤ LA + LB ∧ k = .int .i64 n ∧ LoP LA n s t u ad rm ∧ LoI w.heap.size wr wr.heap.size w.heap.size s (.slice qf L0 cf) (.pointer (some ⟨tb, 0, none⟩)) (.pointer (some ⟨ub, 0, none⟩)) t u ad rm sa sr ∧ Below w.heap.size w wr) (fun _ _ k _ _ _ => LA + LB - (intOf k).toNat)
  case atStart => exact ⟨0, (s, [], []), (s, [], []), [], [], by omega, rfl, HLP.out, HLI.out, hB8⟩
  case round =>
    clear hB8 HLI HLP
    obtain ⟨n, t, u, ad, rm, hn, rfl, hP, hI, hb⟩ := hrel
    have HP : Hid (LoP LA n s t u ad rm) := hP
    have HI : Hid (LoI w.heap.size wr wr.heap.size w.heap.size s (.slice qf L0 cf) (.pointer (some ⟨tb, 0, none⟩)) (.pointer (some ⟨ub, 0, none⟩)) t u ad rm u18 u19) := hI
    have HB : Hid (Below w.heap.size w wr) := hb
    have hcnt : t.2.1.length + t.2.2.length ≤ 30 ∧ u.2.1.length + u.2.2.length ≤ 30 ∧ ad.length ≤ 100 ∧ rm.length ≤ 100 := by
      have h1 := hP.nT
      have h2 := hP.nU
      have h3 := hP.ad
      have h4 := hP.rm
      rw [h3, h4]
      simp only [List.length_append, List.length_map]
      omega
    have HCNT : Hid (t.2.1.length + t.2.2.length ≤ 30 ∧ u.2.1.length + u.2.2.length ≤ 30 ∧ ad.length ≤ 100 ∧ rm.length ≤ 100) := hcnt
    have HTS : Hid (t.1.2.2.2.2.2.2.length ≤ 1000 ∧ u.1.2.2.2.2.2.2.length ≤ 1000) := by
      rw [hP.bt, hP.bu, HL0.out]
      exact ⟨by omega, by omega⟩
    clear hP hI hcnt
    have hzn := CAt.new wr (false, (⟨#[]⟩, ⟨#[]⟩, 0, 0, 0, 0), ⟨#[]⟩)
    have hzb : Below wr.heap.size wr (wr.alloc (.cells #[.bool false, .string ⟨#[]⟩, .string ⟨#[]⟩, .int .i64 0, .int .i64 0, .int .i64 0, .int .i64 0, .string ⟨#[]⟩] 39)) := (Below.refl _ _).alloc (Nat.le_refl _) _
    dsimp only at hzn
    by_cases hlt : n < LA + LB
    · by_cases hn2 : n < LA
      · have hltx : n < la.length := by rw [HLAL.out]; exact hn2
        have hi3 : (n : Int) < (LA : Int) := by omega
        have hi2 : (n : Int) < (LA : Int) + (LB : Int) := by omega
        have hi0' : (0 : Int) ≤ (n : Int) := by omega
        obtain ⟨b, o, hq, hbl, hc⟩ := (HCA.out _ (HB.out.trans (hzb.mono HB.out.size))).cells (fun e => by rw [e] at hltx; simp at hltx)
        subst hq
        obtain ⟨c0, c1, c2, c3, c4, c5, c6, c7⟩ := hc n hltx
        obtain ⟨z1, z2, z3⟩ := HSA.out la[n] (List.getElem_mem _)
        have HSTEP : Hid (LoStep LA n s la[n] true t u ad rm) := by
          have h' := lo_step HP.out la[n]
          rw [decide_eq_true hn2] at h'
          exact h'
        clear hc hbl
        generalize la[n] = x at c0 c1 c2 c3 c4 c5 c6 c7 z1 z2 z3 HSTEP
        clear hltx
        obtain ⟨isAdd, ⟨fp, fq, fn, flo, fhi, fseq⟩, p⟩ := x
        dsimp only at c0 c1 c2 c3 c4 c5 c6 c7 z1 z2 z3
        go_upto_region 16 with fail
        generalize wr.alloc (.cells #[.bool false, .string ⟨#[]⟩, .string ⟨#[]⟩, .int .i64 0, .int .i64 0, .int .i64 0, .int .i64 0, .string ⟨#[]⟩] 39) = W1 at *
        obtain ⟨y0, y1, y2, y3, y4, y5, y6, y7, yf⟩ := hzn.cells
        dsimp only at y0 y1 y2 y3 y4 y5 y6 y7
        have hC2 := hzn.set (isAdd, (fp, fq, fn, flo, fhi, fseq), p)
        have hb2 := chSet_below (x := (isAdd, (fp, fq, fn, flo, fhi, fseq), p)) hzb (Nat.le_refl wr.heap.size)
        unfold chSet at hC2 hb2
        dsimp only at hC2 hb2
        clear hzn hzb
        go_upto_region 19 with fail
        clear c0 c1 c2 c3 c4 c5 c6 c7 y0 y1 y2 y3 y4 y5 y6 y7 yf
        generalize ((((((((W1.setCell ⟨wr.heap.size, 0, none⟩ (.bool isAdd)).setCell ⟨wr.heap.size, 1, none⟩ (.string fp)).setCell ⟨wr.heap.size, 2, none⟩ (.string fq)).setCell ⟨wr.heap.size, 3, none⟩ (.int .i64 fn)).setCell ⟨wr.heap.size, 4, none⟩ (.int .i64 flo)).setCell ⟨wr.heap.size, 5, none⟩ (.int .i64 fhi)).setCell ⟨wr.heap.size, 6, none⟩ (.int .i64 fseq)).setCell ⟨wr.heap.size, 7, none⟩ (.string p)) = W2 at *
        have HI2 := HI.out.quiet hb2
        have hB2 : Below w.heap.size w W2 := HB.out.trans (hb2.mono HB.out.size)
        obtain ⟨y0, y1, y2, y3, y4, y5, y6, y7, -⟩ := hC2.cells
        dsimp only at y0 y1 y2 y3 y4 y5 y6 y7
        have hcA := lo_add HI2 hC2 (Nat.le_refl _) a (HENV.out W2 hB2) (by have := HCNT.out.1; omega) (by dsimp only; omega) (by dsimp only; omega)
        have hcR := lo_rem HI2 hC2 (Nat.le_refl _) a (HENV.out W2 hB2) (by have := HCNT.out.1; omega) (by have := HTS.out; omega)
        unfold flV at hcA
        dsimp only at hcA hcR
        clear HI2 hC2 HI
        cases isAdd with
        | true =>
          obtain ⟨hs0, hs1⟩ := HSTEP.out.1 rfl
          dsimp only at hs0 hs1
          simp only [if_true] at hs0 hs1
          have HS0 : Hid (_ → _) := hs0
          have HS1 : Hid (_ → _) := hs1
          clear hs0 hs1 HSTEP hcR
          generalize hTE : tAddE t (fp, fq, fn, flo, fhi, fseq) = TE at hcA HS0 HS1
          generalize hNT : tAdd t (fp, fq, fn, flo, fhi, fseq) = NT at hcA HS0 HS1
          clear hTE hNT
          by_cases h0 : TE = 0
          · subst h0
            simp only [errV] at hcA
            have HP3 : Hid _ := HS0.out rfl
            clear HS0 HS1
            go_upto_region 21 with (go_at_call 10; with_reducible refine hcA.mono ?_; rintro e w3 ⟨rfl, hI3, hC3, hb3⟩)
            have k1 := hC3.cells.2.1
            dsimp only at k1
            obtain ⟨sx, W4, hr, hI4, hb4⟩ := hI3.appA fp rfl (by have := HCNT.out; omega)
            have HI4 : Hid _ := hI4
            have hB4 : Below w.heap.size w W4 := (hB2.trans hb3).trans hb4
            obtain ⟨sq, sc, hsx⟩ := own_form hI4.ads
            clear hI3 hC3 hI4 hsx
            go_wp2_with (at_builtin; refine wpList_append_ran (by rfl) _ _ _ (by rfl) _ _ _ (by rfl) (by rfl) hr ?_)
            all_goals go_roundw
            case rel => exact ⟨n + 1, _, _, _, _, by omega, by go_num, HP3.out, HI4.out, hB4⟩
            case measure => simp [intOf]; omega
          · obtain ⟨nn, rfl⟩ : ∃ k, TE = k + 1 := ⟨TE - 1, by omega⟩
            simp only [errV] at hcA
            have HP3 : Hid _ := HS1.out (by omega)
            clear HS0 HS1 h0
            go_wp2_with (go_at_call 10; with_reducible refine hcA.mono ?_; rintro e w3 ⟨rfl, hI3, hC3, hb3⟩)
            have HI3 : Hid _ := hI3
            have hB3 : Below w.heap.size w w3 := hB2.trans hb3
            clear hI3 hC3
            go_roundw
            case rel => exact ⟨n + 1, _, _, _, _, by omega, by go_num, HP3.out, HI3.out, hB3⟩
            case measure => simp [intOf]; omega
        | false =>
          obtain ⟨hs0, hs1⟩ := HSTEP.out.2 rfl
          dsimp only at hs0 hs1
          simp only [if_true] at hs0 hs1
          have HS0 : Hid (_ → _) := hs0
          have HS1 : Hid (_ → _) := hs1
          clear hs0 hs1 HSTEP hcA
          generalize hTE : tRemE t p = TE at hcR HS0 HS1
          generalize hNT : tRem t p = NT at hcR HS0 HS1
          clear hTE hNT
          by_cases h0 : TE = 0
          · subst h0
            simp only [errV] at hcR
            have HP3 : Hid _ := HS0.out rfl
            clear HS0 HS1
            go_upto_region 23 with (go_at_call 11; with_reducible refine hcR.mono ?_; rintro e w3 ⟨rfl, hI3, hC3, hb3⟩)
            have k1 := hC3.cells.2.2.2.2.2.2.2.1
            dsimp only at k1
            obtain ⟨sx, W4, hr, hI4, hb4⟩ := hI3.appR p rfl (by have := HCNT.out; omega)
            have HI4 : Hid _ := hI4
            have hB4 : Below w.heap.size w W4 := (hB2.trans hb3).trans hb4
            obtain ⟨sq, sc, hsx⟩ := own_form hI4.rms
            clear hI3 hC3 hI4 hsx
            go_wp2_with (at_builtin; refine wpList_append_ran (by rfl) _ _ _ (by rfl) _ _ _ (by rfl) (by rfl) hr ?_)
            all_goals go_roundw
            case rel => exact ⟨n + 1, _, _, _, _, by omega, by go_num, HP3.out, HI4.out, hB4⟩
            case measure => simp [intOf]; omega
          · obtain ⟨nn, rfl⟩ : ∃ k, TE = k + 1 := ⟨TE - 1, by omega⟩
            simp only [errV] at hcR
            have HP3 : Hid _ := HS1.out (by omega)
            clear HS0 HS1 h0
            go_wp2_with (go_at_call 11; with_reducible refine hcR.mono ?_; rintro e w3 ⟨rfl, hI3, hC3, hb3⟩)
            have HI3 : Hid _ := hI3
            have hB3 : Below w.heap.size w w3 := hB2.trans hb3
            clear hI3 hC3
            go_roundw
            case rel => exact ⟨n + 1, _, _, _, _, by omega, by go_num, HP3.out, HI3.out, hB3⟩
            case measure => simp [intOf]; omega
      · obtain ⟨m, hm⟩ : ∃ m, n = LA + m := ⟨n - LA, by omega⟩
        have hmL : m < LB := by omega
        have hltx : m < lb.length := by rw [HLBL.out]; exact hmL
        have hi3 : ¬ (n : Int) < (LA : Int) := by omega
        have hsb : (n : Int) - (LA : Int) = (m : Int) := by omega
        have hwm : IntKind.i64.wrap (m : Int) = (m : Int) := IntWalk.i64_in _ (by omega)
        have hm0 : (0 : Int) ≤ (m : Int) := by omega
        have hm1 : (m : Int) < (LB : Int) := by omega
        clear hm hmL
        have hi2 : (n : Int) < (LA : Int) + (LB : Int) := by omega
        have hi0' : (0 : Int) ≤ (n : Int) := by omega
        obtain ⟨b, o, hq, hbl, hc⟩ := (HCB.out _ (HB.out.trans (hzb.mono HB.out.size))).cells (fun e => by rw [e] at hltx; simp at hltx)
        subst hq
        obtain ⟨c0, c1, c2, c3, c4, c5, c6, c7⟩ := hc m hltx
        obtain ⟨z1, z2, z3⟩ := HSB.out lb[m] (List.getElem_mem _)
        have HSTEP : Hid (LoStep LA n s lb[m] false t u ad rm) := by
          have h' := lo_step HP.out lb[m]
          rw [decide_eq_false hn2] at h'
          exact h'
        clear hc hbl
        generalize lb[m] = x at c0 c1 c2 c3 c4 c5 c6 c7 z1 z2 z3 HSTEP
        clear hltx
        obtain ⟨isAdd, ⟨fp, fq, fn, flo, fhi, fseq⟩, p⟩ := x
        dsimp only at c0 c1 c2 c3 c4 c5 c6 c7 z1 z2 z3
        go_upto_region 18 with fail
        generalize wr.alloc (.cells #[.bool false, .string ⟨#[]⟩, .string ⟨#[]⟩, .int .i64 0, .int .i64 0, .int .i64 0, .int .i64 0, .string ⟨#[]⟩] 39) = W1 at *
        obtain ⟨y0, y1, y2, y3, y4, y5, y6, y7, yf⟩ := hzn.cells
        dsimp only at y0 y1 y2 y3 y4 y5 y6 y7
        have hC2 := hzn.set (isAdd, (fp, fq, fn, flo, fhi, fseq), p)
        have hb2 := chSet_below (x := (isAdd, (fp, fq, fn, flo, fhi, fseq), p)) hzb (Nat.le_refl wr.heap.size)
        unfold chSet at hC2 hb2
        dsimp only at hC2 hb2
        clear hzn hzb
        go_upto_region 19 with fail
        clear c0 c1 c2 c3 c4 c5 c6 c7 y0 y1 y2 y3 y4 y5 y6 y7 yf
        generalize ((((((((W1.setCell ⟨wr.heap.size, 0, none⟩ (.bool isAdd)).setCell ⟨wr.heap.size, 1, none⟩ (.string fp)).setCell ⟨wr.heap.size, 2, none⟩ (.string fq)).setCell ⟨wr.heap.size, 3, none⟩ (.int .i64 fn)).setCell ⟨wr.heap.size, 4, none⟩ (.int .i64 flo)).setCell ⟨wr.heap.size, 5, none⟩ (.int .i64 fhi)).setCell ⟨wr.heap.size, 6, none⟩ (.int .i64 fseq)).setCell ⟨wr.heap.size, 7, none⟩ (.string p)) = W2 at *
        have HI2 := HI.out.quiet hb2
        have hB2 : Below w.heap.size w W2 := HB.out.trans (hb2.mono HB.out.size)
        obtain ⟨y0, y1, y2, y3, y4, y5, y6, y7, -⟩ := hC2.cells
        dsimp only at y0 y1 y2 y3 y4 y5 y6 y7
        have hcA := lo_add HI2.swap hC2 (Nat.le_refl _) a (HENV.out W2 hB2) (by have := HCNT.out.2.1; omega) (by dsimp only; omega) (by dsimp only; omega)
        have hcR := lo_rem HI2.swap hC2 (Nat.le_refl _) a (HENV.out W2 hB2) (by have := HCNT.out.2.1; omega) (by have := HTS.out; omega)
        unfold flV at hcA
        dsimp only at hcA hcR
        clear HI2 hC2 HI
        cases isAdd with
        | true =>
          obtain ⟨hs0, hs1⟩ := HSTEP.out.1 rfl
          dsimp only at hs0 hs1
          simp only [Bool.false_eq_true, if_false] at hs0 hs1
          have HS0 : Hid (_ → _) := hs0
          have HS1 : Hid (_ → _) := hs1
          clear hs0 hs1 HSTEP hcR
          generalize hTE : tAddE u (fp, fq, fn, flo, fhi, fseq) = TE at hcA HS0 HS1
          generalize hNT : tAdd u (fp, fq, fn, flo, fhi, fseq) = NT at hcA HS0 HS1
          clear hTE hNT
          by_cases h0 : TE = 0
          · subst h0
            simp only [errV] at hcA
            have HP3 : Hid _ := HS0.out rfl
            clear HS0 HS1
            go_upto_region 21 with (go_at_call 10; with_reducible refine hcA.mono ?_; rintro e w3 ⟨rfl, hI3, hC3, hb3⟩)
            have k1 := hC3.cells.2.1
            dsimp only at k1
            obtain ⟨sx, W4, hr, hI4, hb4⟩ := hI3.swap.appA fp rfl (by have := HCNT.out; omega)
            have HI4 : Hid _ := hI4
            have hB4 : Below w.heap.size w W4 := (hB2.trans hb3).trans hb4
            obtain ⟨sq, sc, hsx⟩ := own_form hI4.ads
            clear hI3 hC3 hI4 hsx
            go_wp2_with (at_builtin; refine wpList_append_ran (by rfl) _ _ _ (by rfl) _ _ _ (by rfl) (by rfl) hr ?_)
            all_goals go_roundw
            case rel => exact ⟨n + 1, _, _, _, _, by omega, by go_num, HP3.out, HI4.out, hB4⟩
            case measure => simp [intOf]; omega
          · obtain ⟨nn, rfl⟩ : ∃ k, TE = k + 1 := ⟨TE - 1, by omega⟩
            simp only [errV] at hcA
            have HP3 : Hid _ := HS1.out (by omega)
            clear HS0 HS1 h0
            go_wp2_with (go_at_call 10; with_reducible refine hcA.mono ?_; rintro e w3 ⟨rfl, hI3, hC3, hb3⟩)
            have HI3 : Hid _ := hI3.swap
            have hB3 : Below w.heap.size w w3 := hB2.trans hb3
            clear hI3 hC3
            go_roundw
            case rel => exact ⟨n + 1, _, _, _, _, by omega, by go_num, HP3.out, HI3.out, hB3⟩
            case measure => simp [intOf]; omega
        | false =>
          obtain ⟨hs0, hs1⟩ := HSTEP.out.2 rfl
          dsimp only at hs0 hs1
          simp only [Bool.false_eq_true, if_false] at hs0 hs1
          have HS0 : Hid (_ → _) := hs0
          have HS1 : Hid (_ → _) := hs1
          clear hs0 hs1 HSTEP hcA
          generalize hTE : tRemE u p = TE at hcR HS0 HS1
          generalize hNT : tRem u p = NT at hcR HS0 HS1
          clear hTE hNT
          by_cases h0 : TE = 0
          · subst h0
            simp only [errV] at hcR
            have HP3 : Hid _ := HS0.out rfl
            clear HS0 HS1
            go_upto_region 23 with (go_at_call 11; with_reducible refine hcR.mono ?_; rintro e w3 ⟨rfl, hI3, hC3, hb3⟩)
            have k1 := hC3.cells.2.2.2.2.2.2.2.1
            dsimp only at k1
            obtain ⟨sx, W4, hr, hI4, hb4⟩ := hI3.swap.appR p rfl (by have := HCNT.out; omega)
            have HI4 : Hid _ := hI4
            have hB4 : Below w.heap.size w W4 := (hB2.trans hb3).trans hb4
            obtain ⟨sq, sc, hsx⟩ := own_form hI4.rms
            clear hI3 hC3 hI4 hsx
            go_wp2_with (at_builtin; refine wpList_append_ran (by rfl) _ _ _ (by rfl) _ _ _ (by rfl) (by rfl) hr ?_)
            all_goals go_roundw
            case rel => exact ⟨n + 1, _, _, _, _, by omega, by go_num, HP3.out, HI4.out, hB4⟩
            case measure => simp [intOf]; omega
          · obtain ⟨nn, rfl⟩ : ∃ k, TE = k + 1 := ⟨TE - 1, by omega⟩
            simp only [errV] at hcR
            have HP3 : Hid _ := HS1.out (by omega)
            clear HS0 HS1 h0
            go_wp2_with (go_at_call 11; with_reducible refine hcR.mono ?_; rintro e w3 ⟨rfl, hI3, hC3, hb3⟩)
            have HI3 : Hid _ := hI3.swap
            have hB3 : Below w.heap.size w w3 := hB2.trans hb3
            clear hI3 hC3
            go_roundw
            case rel => exact ⟨n + 1, _, _, _, _, by omega, by go_num, HP3.out, HI3.out, hB3⟩
            case measure => simp [intOf]; omega
    · have hi2 : ¬ (n : Int) < (LA : Int) + (LB : Int) := by omega
      clear hzn hzb
      have hsnR := HI.out.sn
      obtain ⟨FT, FU, hT, hU, -, -⟩ := HI.out.has
      have HU : Hid (TxHas 66 w.heap.size wr (.pointer (some ⟨ub, 0, none⟩)) FU u) := hU
      have HSA2 : Hid (∀ W, Below wr.heap.size wr W → TsAt W u18 ad) := fun W hb => (tsAt_own HI.out.ads).below hb
      have HSR2 : Hid (∀ W, Below wr.heap.size wr W → TsAt W u19 rm) := fun W hb => (tsAt_own HI.out.rms).below hb
      obtain ⟨qs, cs, hu18⟩ := own_form HI.out.ads
      obtain ⟨qr, cr, hu19⟩ := own_form HI.out.rms
      obtain ⟨AD, hAD⟩ : ∃ k, ad.length = k := ⟨_, rfl⟩
      obtain ⟨RM, hRM⟩ : ∃ k, rm.length = k := ⟨_, rfl⟩
      have HADL : Hid (ad.length = AD) := hAD
      have HRML : Hid (rm.length = RM) := hRM
      rw [hAD] at hu18
      rw [hRM] at hu19
      subst hu18 hu19
      have hAD1 : AD ≤ 100 := by rw [← hAD]; exact HCNT.out.2.2.1
      have hRM1 : RM ≤ 100 := by rw [← hRM]; exact HCNT.out.2.2.2
      clear hAD hRM
      have hc1 := commit_any w.heap.size _ FT t s (.slice qf L0 cf) id day idx wr a (HENV.out wr HB.out) hT HP.out.okT (HX.out wr HB.out) (by rw [HL0.out]; omega) HSH.out (by have := HCNT.out.1; omega) (by have := HCNT.out.1; omega)
      have HZ1 : Hid ((tComE t s id day idx).1 ≠ 0 → tCom t s id day idx = zeroS) := fun h => tCom_bad h
      have HG1 : Hid ((tComE t s id day idx).1 = 0 → tCom t s id day idx = tSnap t s id day idx ∧ (snapE (tSnap t s id day idx)).1 = 0) := fun h => ⟨(tCom_zero h).2.2.2.2, (tCom_zero h).2.2.2.1⟩
      generalize tCom t s id day idx = S1 at hc1 HZ1 HG1
      generalize hE1d : tComE t s id day idx = E1 at hc1 HZ1 HG1
      have HE1D : Hid (tComE t s id day idx = E1) := hE1d
      unfold snV at hc1
      clear hT hU hE1d HI HTS
      obtain ⟨x0, x1, x2, x3, x4, x5, x6⟩ := HS.out wr hsnR
      go_wp2_with fail
      refine hc1.mono ?_
      rintro e w9 ⟨v9, ev9, rfl, hf9, ht9, hb9⟩
      clear hc1 x0 x1 x2 x3 x4 x5 x6
      have hB9 : Below w.heap.size w w9 := HB.out.trans (hb9.mono HB.out.size)
      have hsn9 := hsnR.below hb9
      obtain ⟨q9, c9, hv9⟩ := hf9.form
      by_cases hE1 : E1.1 = 0
      case neg =>
        obtain ⟨tt, uu, rfl⟩ := ht9.bad hE1
        obtain rfl := HZ1.out hE1
        obtain rfl : v9 = .slice q9 0 c9 := hv9
        have hal9 : Below w.heap.size w (w9.alloc (.cells #[.int .i64 0, .int .i64 0, .int .i64 0, .int .i64 0, .int .i64 0, .string ⟨#[]⟩, .slice q9 0 c9] 24)) := hB9.alloc hB9.size _
        have HAL9 : Hid (Below w.heap.size w (w9.alloc (.cells #[.int .i64 0, .int .i64 0, .int .i64 0, .int .i64 0, .int .i64 0, .string ⟨#[]⟩, .slice q9 0 c9] 24))) := hal9
        have ez : snV zeroS (.slice q9 0 c9) = .agg #[.int .i64 0, .int .i64 0, .int .i64 0, .int .i64 0, .int .i64 0, .string ⟨#[]⟩, .slice q9 0 c9] := rfl
        rw [ez]
        clear ez ht9 hf9 hsn9 hsnR hE1 hal9
        go_wp2
        go_ret
        exact ⟨rfl, HAL9.out⟩
      case pos =>
      obtain ⟨hS1, hok1⟩ := HG1.out hE1
      obtain rfl := ht9.ok hE1
      have HE1Z : Hid ((tComE t s id day idx).1 = 0) := by show _ = _; rw [HE1D.out]; exact hE1
      have HOK1 : Hid ((snapE (tSnap t s id day idx)).1 = 0) := hok1
      subst hS1
      have HF9 : Hid (FlsAt w9 v9 (tFiles t s)) := hf9
      have HSH1 : Hid ((tFiles t s).length ≤ 60 ∧ Short (tFiles t s)) := ⟨(snap_rises hok1).1, fun g hg => file_30 ((snap_rises hok1).2.1 g hg).1⟩
      obtain ⟨L9, hL9⟩ : ∃ k, (tFiles t s).length = k := ⟨_, rfl⟩
      have hv9' : v9 = .slice q9 (tFiles t s).length c9 := hv9
      rw [hL9] at hv9'
      have HL9 : Hid ((tFiles t s).length = L9) := hL9
      subst hv9'
      have hsa := sn_new w9 id s.1 (s.2.2.1 + 1) day idx (tOp t) (.slice q9 L9 c9) (tFiles t s)
      have hal9 : Below w9.heap.size w9 (w9.alloc (.cells #[.int .i64 id, .int .i64 s.1, .int .i64 (s.2.2.1 + 1), .int .i64 day, .int .i64 idx, .string (tOp t), .slice q9 L9 c9] 24)) := (Below.refl _ _).alloc (Nat.le_refl _) _
      have es : snV (tSnap t s id day idx) (.slice q9 L9 c9) = .agg #[.int .i64 id, .int .i64 s.1, .int .i64 (s.2.2.1 + 1), .int .i64 day, .int .i64 idx, .string (tOp t), .slice q9 L9 c9] := rfl
      rw [es]
      have hw1 : IntKind.i64.wrap (id + 1) = id + 1 := IntWalk.i64_in _ (by omega)
      have hB10 := hB9.trans (hal9.mono hB9.size)
      have hbR10 := hb9.trans (hal9.mono hb9.size)
      have hsn10 := hsn9.below hal9
      have hc2 := commit_any w.heap.size _ FU u (tSnap t s id day idx) (.slice q9 L9 c9) (id + 1) day idx _ a (HENV.out _ hB10) (HU.out.below hbR10) HP.out.okU (HF9.out.below hal9) (by have := HSH1.out.1; show (tFiles t s).length ≤ 100; omega) HSH1.out.2 (by have := HCNT.out.2.1; omega) (by have := HCNT.out.2.1; omega)
      rw [es] at hc2
      clear es hv9 hL9 ht9 hf9 hsnR hsn9 hE1 hok1 HG1 HZ1 hal9
      have HZ2 : Hid ((tComE u (tSnap t s id day idx) (id + 1) day idx).1 ≠ 0 → tCom u (tSnap t s id day idx) (id + 1) day idx = zeroS) := fun h => tCom_bad h
      have HG2 : Hid ((tComE u (tSnap t s id day idx) (id + 1) day idx).1 = 0 → tCom u (tSnap t s id day idx) (id + 1) day idx = tSnap u (tSnap t s id day idx) (id + 1) day idx ∧ (snapE (tSnap u (tSnap t s id day idx) (id + 1) day idx)).1 = 0) := fun h => ⟨(tCom_zero h).2.2.2.2, (tCom_zero h).2.2.2.1⟩
      have HALL : Hid ((tComE u (tSnap t s id day idx) (id + 1) day idx).1 = 0 → (∀ f ∈ s.2.2.2.2.2.2, ¬ (inT rm f.1 = true ∧ inT ad f.1 = true) → (inT rm f.1 = true → hasP (tFiles u (tSnap t s id day idx)) f.1 = false) ∧ (inT rm f.1 = false → f ∈ tFiles u (tSnap t s id day idx))) ∧ (∀ p ∈ ad, hasP (tFiles u (tSnap t s id day idx)) p = true) ∧ (tFiles u (tSnap t s id day idx)).length + rm.length = s.2.2.2.2.2.2.length + ad.length) := fun h2 => by
        have hbt := HP.out.bt
        have hbu : u.1 = t.1 := HP.out.bu.trans hbt.symm
        have h1 : (tComE t t.1 id day idx).1 = 0 := by rw [hbt]; exact HE1Z.out
        have h2' : (tComE u (tSnap t t.1 id day idx) (id + 1) day idx).1 = 0 := by rw [hbt]; exact h2
        have h' := two_all HP.out.okT HP.out.okU hbu h1 h2'
        rw [← HP.out.ad, ← HP.out.rm, hbt] at h'
        exact h'
      generalize tCom u (tSnap t s id day idx) (id + 1) day idx = S2 at hc2 HZ2 HG2
      generalize tComE u (tSnap t s id day idx) (id + 1) day idx = E2 at hc2 HZ2 HG2 HALL
      obtain ⟨p0, p1, p2, p3, p4, p5, p6⟩ := hsa.cells
      dsimp only at p0 p1 p2 p3 p4 p5
      go_upto_region 27 with fail
      generalize w9.alloc (.cells #[.int .i64 id, .int .i64 s.1, .int .i64 (s.2.2.1 + 1), .int .i64 day, .int .i64 idx, .string (tOp t), .slice q9 L9 c9] 24) = w10 at *
      go_wp2_with fail
      refine hc2.mono ?_
      rintro e w11 ⟨v11, ev11, rfl, hf11, ht11, hb11⟩
      clear hc2 p0 p1 p2 p3 p4 p5 p6 hsa
      have hB11 : Below w.heap.size w w11 := hB10.trans (hb11.mono hB10.size)
      have hbR11 := hbR10.trans (hb11.mono hbR10.size)
      have hsn11 := hsn10.below hb11
      obtain ⟨q11, c11, hv11⟩ := hf11.form
      by_cases hE2 : E2.1 = 0
      case neg =>
        obtain ⟨tt, uu, rfl⟩ := ht11.bad hE2
        obtain rfl := HZ2.out hE2
        obtain rfl : v11 = .slice q11 0 c11 := hv11
        have hal11 : Below w.heap.size w (w11.alloc (.cells #[.int .i64 0, .int .i64 0, .int .i64 0, .int .i64 0, .int .i64 0, .string ⟨#[]⟩, .slice q11 0 c11] 24)) := hB11.alloc hB11.size _
        have HAL11 : Hid (Below w.heap.size w (w11.alloc (.cells #[.int .i64 0, .int .i64 0, .int .i64 0, .int .i64 0, .int .i64 0, .string ⟨#[]⟩, .slice q11 0 c11] 24))) := hal11
        have ez : snV zeroS (.slice q11 0 c11) = .agg #[.int .i64 0, .int .i64 0, .int .i64 0, .int .i64 0, .int .i64 0, .string ⟨#[]⟩, .slice q11 0 c11] := rfl
        rw [ez]
        clear ez ht11 hf11 hsn11 hsn10 hE2 hal11
        go_wp2
        go_ret
        exact ⟨rfl, HAL11.out⟩
      case pos =>
      obtain ⟨hS2, hok2⟩ := HG2.out hE2
      obtain rfl := ht11.ok hE2
      obtain ⟨ha1, ha2, ha3⟩ := HALL.out hE2
      subst hS2
      have HF11 : Hid (FlsAt w11 v11 (tFiles u (tSnap t s id day idx))) := hf11
      have HUP : Hid (UpF (tFiles u (tSnap t s id day idx))) := (snap_rises hok2).2.2
      have HSH2 : Hid ((tFiles u (tSnap t s id day idx)).length ≤ 60 ∧ Short (tFiles u (tSnap t s id day idx))) := ⟨(snap_rises hok2).1, fun g hg => file_30 ((snap_rises hok2).2.1 g hg).1⟩
      have HOK2 : Hid (snapE (id + 1, id, s.2.2.1 + 2, day, idx, tOp u, tFiles u (tSnap t s id day idx)) = (0, none)) := by
        show _ = _
        have h' := (snap_good hok2).2.2.2
        have e : tSnap u (tSnap t s id day idx) (id + 1) day idx = (id + 1, id, s.2.2.1 + 2, day, idx, tOp u, tFiles u (tSnap t s id day idx)) := by
          show (id + 1, id, s.2.2.1 + 1 + 1, day, idx, tOp u, tFiles u (tSnap t s id day idx)) = _
          rw [Int.add_assoc]
          rfl
        rw [e] at h'
        exact h'
      have hv11' : v11 = .slice q11 (tFiles u (tSnap t s id day idx)).length c11 := hv11
      have es : ∀ v, snV (tSnap u (tSnap t s id day idx) (id + 1) day idx) v = .agg #[.int .i64 (id + 1), .int .i64 id, .int .i64 (s.2.2.1 + 2), .int .i64 day, .int .i64 idx, .string (tOp u), v] := fun v => by
        show Value.agg #[.int .i64 (id + 1), .int .i64 id, .int .i64 (s.2.2.1 + 1 + 1), .int .i64 day, .int .i64 idx, .string (tOp u), v] = _
        rw [Int.add_assoc]
        rfl
      rw [es]
      have hbd := (sbnd_all.1 (snap_good HE.out).1).2.1.1
      have HA1 : Hid (∀ f ∈ s.2.2.2.2.2.2, ¬ (inT rm f.1 = true ∧ inT ad f.1 = true) → (inT rm f.1 = true → hasP (tFiles u (tSnap t s id day idx)) f.1 = false) ∧ (inT rm f.1 = false → f ∈ tFiles u (tSnap t s id day idx))) := ha1
      have HA2 : Hid (∀ p ∈ ad, hasP (tFiles u (tSnap t s id day idx)) p = true) := ha2
      rw [HRML.out, HL0.out, HADL.out] at ha3
      clear ha1 ha2 hok2 hf11 hv11 ht11 hE2 HG2 HZ2 HALL HOK1 HE1Z HE1D HSH1 HF9 HL9 HU hsn10 hB10 hbR10 hb11 hb9 hB9
      generalize tFiles u (tSnap t s id day idx) = F2 at *
      generalize tOp u = OP2 at *
      obtain ⟨LF, hLF⟩ : ∃ k, F2.length = k := ⟨_, rfl⟩
      have HLF : Hid (F2.length = LF) := hLF
      rw [hLF] at hv11' ha3
      clear hLF
      subst hv11'
      have hsb := sn_new w11 (id + 1) id (s.2.2.1 + 2) day idx OP2 (.slice q11 LF c11) F2
      have hal11 : Below w11.heap.size w11 (w11.alloc (.cells #[.int .i64 (id + 1), .int .i64 id, .int .i64 (s.2.2.1 + 2), .int .i64 day, .int .i64 idx, .string OP2, .slice q11 LF c11] 24)) := (Below.refl _ _).alloc (Nat.le_refl _) _
      have hB12 := hB11.trans (hal11.mono hB11.size)
      have hbR12 := hbR11.trans (hal11.mono hbR11.size)
      have hsn12 := hsn11.below hal11
      have HF12 : Hid (FlsAt (w11.alloc (.cells #[.int .i64 (id + 1), .int .i64 id, .int .i64 (s.2.2.1 + 2), .int .i64 day, .int .i64 idx, .string OP2, .slice q11 LF c11] 24)) (.slice q11 LF c11) F2) := HF11.out.below hal11
      clear hal11 HF11 hsn11
      go_upto_region 30 with fail
      generalize w11.alloc (.cells #[.int .i64 (id + 1), .int .i64 id, .int .i64 (s.2.2.1 + 2), .int .i64 day, .int .i64 idx, .string OP2, .slice q11 LF c11] 24) = w12 at *
      generalize w11.heap.size = sb at *
      have hck := scheck_any (id + 1, id, s.2.2.1 + 2, day, idx, OP2, F2) (.slice q11 LF c11) w12 a (HENV.out w12 hB12).list HF12.out (by have := HSH2.out.1; dsimp only; omega) HSH2.out.2
      rw [HOK2.out] at hck
      unfold snV at hck
      dsimp only at hck
      obtain ⟨p0, p1, p2, p3, p4, p5, p6⟩ := hsb.cells
      dsimp only at p0 p1 p2 p3 p4 p5
      have x2 := (HS.out w12 hsn12).2.2.1
      have hw2 : IntKind.i64.wrap (s.2.2.1 + 2) = s.2.2.1 + 2 := IntWalk.i64_in _ (by omega)
      go_upto_region 32 with (go_at_call 13; (with_reducible refine hck.mono ?_); rintro e w13 ⟨ev13, rfl, ht13, hb13⟩; obtain rfl : ev13 = .nilIface := ht13)
      have hB13 : Below w.heap.size w w13 := hB12.trans (hb13.mono hB12.size)
      have hbR13 := hbR12.trans (hb13.mono hbR12.size)
      have HSB : Hid (∀ W, Below w13.heap.size w13 W → SnAt W sb (id + 1, id, s.2.2.1 + 2, day, idx, OP2, F2) (.slice q11 LF c11)) := fun W hb => (hsb.below hb13).below hb
      have HSX : Hid (∀ W, Below w13.heap.size w13 W → SnAt W w.heap.size s (.slice qf L0 cf)) := fun W hb => (hsn12.below hb13).below hb
      have HF13 : Hid (∀ W, Below w13.heap.size w13 W → FlsAt W (.slice q11 LF c11) F2) := fun W hb => (HF12.out.below hb13).below hb
      have HX13 : Hid (∀ W, Below w13.heap.size w13 W → FlsAt W (.slice qf L0 cf) s.2.2.2.2.2.2) := fun W hb => HX.out W (hB13.trans (hb.mono hB13.size))
      have HTA : Hid (∀ W, Below w13.heap.size w13 W → TsAt W (.slice qs AD cs) ad) := fun W hb => HSA2.out W (hbR13.trans (hb.mono hbR13.size))
      have HTR : Hid (∀ W, Below w13.heap.size w13 W → TsAt W (.slice qr RM cr) rm) := fun W hb => HSR2.out W (hbR13.trans (hb.mono hbR13.size))
      have HB13 : Hid (Below w.heap.size w w13) := hB13
      have hLF60 : LF ≤ 60 := by rw [← HLF.out]; exact HSH2.out.1
      clear hck p0 p1 p2 p3 p4 p5 p6 x2 hw2 hsb hsn12 hb13 HF12 HSA2 HSR2 hB12 hbR12 hbR13 hbR11 hB11 HOK2 HSH2 HX hB13 HCNT HB HSA HSH HCA HCB HENV HP HE hw1 hbd
      go_wp2_with fail
      go_loopw [26, 27, 28, 29] (fun k _ _ _ wx => ∃ n : Nat, n ≤ L0 ∧ k = .int .i64 n ∧ Below w13.heap.size w13 wx) (fun k _ _ _ _ => L0 - (intOf k).toNat)
      case atStart => exact ⟨0, by omega, rfl, Below.refl _ _⟩
      case round =>
        obtain ⟨n2, hn2, rfl, hb2⟩ := hrel
        have hsS := HSB.out _ hb2
        have hsX := HSX.out _ hb2
        have p6 := hsS.cells.2.2.2.2.2.2
        have x6 := (HS.out _ hsX).2.2.2.2.2.2
        clear hsS hsX
        by_cases hlt2 : n2 < L0
        · have hltx : n2 < s.2.2.2.2.2.2.length := by rw [HL0.out]; exact hlt2
          obtain ⟨b, o, hq, hc⟩ := (HX13.out _ hb2).cells (fun e => by rw [e] at hltx; simp at hltx)
          obtain ⟨d0, d1, d2, d3, d4, d5⟩ := hc n2 hltx
          have hfd := fun W (hb : Below w13.heap.size w13 W) => (findOf_any (.slice q11 LF c11) F2 s.2.2.2.2.2.2[n2].1 W (HF13.out W hb) (by rw [HLF.out]; omega)).mono (R' := fun e w' => e = .returned (.int .i64 (findF F2 s.2.2.2.2.2.2[n2].1)) ∧ Below W.heap.size W w') fun e w' ⟨he, hw⟩ => ⟨he, by subst hw; exact Below.refl _ _⟩
          have hir := fun W (hb : Below w13.heap.size w13 W) => inTs_any s.2.2.2.2.2.2[n2].1 (.slice qr RM cr) rm W (HTR.out W hb) (by rw [HRML.out]; omega)
          have hia := fun W (hb : Below w13.heap.size w13 W) => inTs_any s.2.2.2.2.2.2[n2].1 (.slice qs AD cs) ad W (HTA.out W hb) (by rw [HADL.out]; omega)
          have hall := HA1.out s.2.2.2.2.2.2[n2] (List.getElem_mem _)
          have HALLF : Hid (¬ (inT rm s.2.2.2.2.2.2[n2].1 = true ∧ inT ad s.2.2.2.2.2.2[n2].1 = true) → (inT rm s.2.2.2.2.2.2[n2].1 = true → hasP F2 s.2.2.2.2.2.2[n2].1 = false) ∧ (inT rm s.2.2.2.2.2.2[n2].1 = false → s.2.2.2.2.2.2[n2] ∈ F2)) := hall
          have HFH : Hid (decide (0 ≤ findF F2 s.2.2.2.2.2.2[n2].1) = hasP F2 s.2.2.2.2.2.2[n2].1) := findF_has _ _
          clear hc hall
          generalize s.2.2.2.2.2.2[n2] = f at d0 d1 d2 d3 d4 d5 hfd hir hia HALLF HFH
          clear hltx
          have HUF : Hid (f ∈ F2 → ∃ k, ∃ hk : k < F2.length, findF F2 f.1 = (k : Int) ∧ F2[k] = f) := fun hm => up_find HUP.out hm
          have hnq := fun W => neqF f W
          have hgd : ∀ (bo : BinOp) (a b : Operand) (w : World), Sem.run Tryz.prog (eqGuard bo 37 a b (flV f) (flV f)) w = .ok () w := fun bo a b w => guardF bo a b f f w
          have HFE : Hid (f.1 = f.1) := rfl
          generalize hFI : findF F2 f.1 = FI at hfd HFH HUF
          generalize hIR : inT rm f.1 = IR at hir HALLF
          generalize hIA : inT ad f.1 = IA at hia HALLF
          clear hFI hIR hIA
          unfold flV at hnq hgd
          obtain ⟨fp, fq, fn, flo, fhi, fseq⟩ := f
          dsimp only at d0 d1 d2 d3 d4 d5 hfd hir hia hnq hgd HFH
          have hi3 : (n2 : Int) < (L0 : Int) := by omega
          have hi4 : (0 : Int) ≤ (n2 : Int) := by omega
          subst hq
          have hbs : Below wr.heap.size wr wr := Below.refl _ _
          go_upto_region 35 with fail
          go_region_held3 (fun w' => Below wr.heap.size wr w' ∧ w'.cell? ⟨sb, 6, none⟩ = some (.slice q11 LF c11) ∧ w'.cell? ⟨w.heap.size, 6, none⟩ = some (.slice (some ⟨b, o, none⟩) L0 cf) ∧ w'.cell? ⟨b, o + n2 * 6, none⟩ = some (.string fp))
            (first
              | (go_split_ands; with_reducible exact ⟨Below.trans (by with_reducible assumption) (hbX.mono (Below.size (by with_reducible assumption))), below_keep hbX (by with_reducible assumption), below_keep hbX (by with_reducible assumption), below_keep hbX (by with_reducible assumption)⟩)
              | (go_split_ands; with_reducible refine ⟨Below.drew (by with_reducible assumption), ?_, ?_, ?_⟩; all_goals go_keep)
              | (go_split_ands; with_reducible exact ⟨by assumption, by assumption, by assumption, by assumption⟩))
            (first
              | (go_at_call 14; (with_reducible refine (hfd _ (by go_split_ands; exact hb2.trans (Below.mono (by with_reducible assumption) hb2.size))).mono ?_); rintro e wX ⟨rfl, hbX⟩))
          go_split_ands
          have hbX2 : Below wr.heap.size wr wX := by with_reducible assumption
          have hb3 : Below w13.heap.size w13 wX := hb2.trans (hbX2.mono hb2.size)
          have e0 := below_keep hbX2 d0
          have e1 := below_keep hbX2 d1
          have e2 := below_keep hbX2 d2
          have e3 := below_keep hbX2 d3
          have e4 := below_keep hbX2 d4
          have e5 := below_keep hbX2 d5
          have g6 := below_keep hbX2 x6
          have s6 := below_keep hbX2 p6
          clear hfd hbs d0 d1 d2 d3 d4 d5 x6 p6 hbX hbX2
          have hir2 := hir wX hb3
          have hia2 := hia wX hb3
          clear hir hia
          go_wp2_with fail
          refine hir2.mono ?_
          rintro e wY ⟨rfl, rfl⟩
          clear hir2
          go_wp2_with fail
          refine hia2.mono ?_
          rintro e wZ ⟨rfl, rfl⟩
          clear hia2
          cases IR with
          | true =>
            cases IA with
            | true =>
              clear hnq hgd HALLF HUF HFH HFE e1 e2 e3 e4 e5
              go_wp2
              go_roundw
              case rel => exact ⟨n2 + 1, by omega, by go_num, hb3⟩
              case measure => simp [intOf]; omega
            | false =>
              have hhp := (HALLF.out (by simp)).1 rfl
              rw [hhp] at HFH
              have hneg : FI < 0 := by
                have := of_decide_eq_false HFH.out
                omega
              have hneg2 : ¬ (0 : Int) ≤ FI := by omega
              clear hnq hgd HALLF HUF HFH HFE hhp e1 e2 e3 e4 e5
              go_wp2
              go_roundw
              case rel => exact ⟨n2 + 1, by omega, by go_num, hb3⟩
              case measure => simp [intOf]; omega
          | false =>
            have hmem := (HALLF.out (by simp)).2 rfl
            obtain ⟨k2, hk2, hFk, hfk⟩ := HUF.out hmem
            obtain ⟨b2, o2, hq2, hc2⟩ := (HF13.out _ hb3).cells (fun e => by rw [e] at hk2; simp at hk2)
            obtain ⟨m0, m1, m2, m3, m4, m5⟩ := hc2 k2 hk2
            rw [hfk] at m0 m1 m2 m3 m4 m5
            dsimp only at m0 m1 m2 m3 m4 m5
            have hkL : k2 < LF := by rw [← HLF.out]; exact hk2
            have hj1 : (k2 : Int) < (LF : Int) := by omega
            have hj2 : (0 : Int) ≤ (k2 : Int) := by omega
            have hj3 : ¬ (k2 : Int) < 0 := by omega
            subst hFk hq2
            clear HALLF HUF HFH HFE hmem hc2 hfk hk2
            cases IA with
            | true =>
              go_upto_region 42 with fail
              go_quiet (fail)
              go_wp2
              go_roundw
              case rel => exact ⟨n2 + 1, by omega, by go_num, below_drewN hb3 _⟩
              case measure => simp [intOf]; omega
            | false =>
              go_upto_region 42 with fail
              go_quiet (fail)
              go_wp2
              go_roundw
              case rel => exact ⟨n2 + 1, by omega, by go_num, below_drewN hb3 _⟩
              case measure => simp [intOf]; omega
        · obtain rfl : n2 = L0 := by omega
          have hi3 : ¬ (n2 : Int) < (n2 : Int) := by omega
          have hbE := hb2
          go_wp2_with fail
          clear x6
          go_loopw [30] (fun k wz => ∃ n : Nat, n ≤ AD ∧ k = .int .i64 n ∧ Below w13.heap.size w13 wz) (fun k _ => AD - (intOf k).toNat)
          case atStart => exact ⟨0, by omega, rfl, hbE⟩
          case round =>
            clear p6 hbE hb2 hi3
            obtain ⟨n3, hn3, rfl, hb4⟩ := hrel
            have hsS := HSB.out _ hb4
            have hsX := HSX.out _ hb4
            have p6 := hsS.cells.2.2.2.2.2.2
            have x6 := (HS.out _ hsX).2.2.2.2.2.2
            clear hsS hsX
            by_cases hlt3 : n3 < AD
            · have hltx : n3 < ad.length := by rw [HADL.out]; exact hlt3
              obtain ⟨b, hq, hc⟩ := (HTA.out _ hb4).cells (fun e => by rw [e] at hltx; simp at hltx)
              have d0 := hc n3 hltx
              have hfd := fun W (hb : Below w13.heap.size w13 W) => (findOf_any (.slice q11 LF c11) F2 ad[n3] W (HF13.out W hb) (by rw [HLF.out]; omega)).mono (R' := fun e w' => e = .returned (.int .i64 (findF F2 ad[n3])) ∧ Below W.heap.size W w') fun e w' ⟨he, hw⟩ => ⟨he, by subst hw; exact Below.refl _ _⟩
              have hge : ¬ findF F2 ad[n3] < 0 := by
                have h1 := findF_has F2 ad[n3]
                rw [HA2.out ad[n3] (List.getElem_mem _)] at h1
                have := of_decide_eq_true h1
                omega
              generalize findF F2 ad[n3] = FI at hfd hge
              generalize ad[n3] = pp at d0 hfd
              clear hc hltx
              have hi5 : (n3 : Int) < (AD : Int) := by omega
              have hi6 : (0 : Int) ≤ (n3 : Int) := by omega
              subst hq
              have hbs : Below wr.heap.size wr wr := Below.refl _ _
              go_upto_region 47 with fail
              go_region_held3 (fun w' => Below wr.heap.size wr w' ∧ w'.cell? ⟨sb, 6, none⟩ = some (.slice q11 LF c11) ∧ w'.cell? ⟨b, n3, none⟩ = some (.string pp))
                (first
                  | (go_split_ands; with_reducible exact ⟨Below.trans (by with_reducible assumption) (hbX.mono (Below.size (by with_reducible assumption))), below_keep hbX (by with_reducible assumption), below_keep hbX (by with_reducible assumption)⟩)
                  | (go_split_ands; with_reducible refine ⟨Below.drew (by with_reducible assumption), ?_, ?_⟩; all_goals go_keep)
                  | (go_split_ands; with_reducible exact ⟨by assumption, by assumption, by assumption⟩))
                (first
                  | (go_at_call 14; (with_reducible refine (hfd _ (by go_split_ands; exact hb4.trans (Below.mono (by with_reducible assumption) hb4.size))).mono ?_); rintro e wX ⟨rfl, hbX⟩))
              go_split_ands
              have hbX2 : Below wr.heap.size wr wX := by with_reducible assumption
              have hb5 : Below w13.heap.size w13 wX := hb4.trans (hbX2.mono hb4.size)
              clear hfd hbs hbX hbX2
              go_wp2
              go_roundw
              case rel => exact ⟨n3 + 1, by omega, by go_num, hb5⟩
              case measure => simp [intOf]; omega
            · obtain rfl : n3 = AD := by omega
              have hi5 : ¬ (n3 : Int) < (n3 : Int) := by omega
              have hi7 : (LF : Int) = (n2 : Int) - (RM : Int) + (n3 : Int) := by omega
              have hw3 : IntKind.i64.wrap ((n2 : Int) - (RM : Int)) = (n2 : Int) - (RM : Int) := IntWalk.i64_in _ (by omega)
              have hw4 : IntKind.i64.wrap ((n2 : Int) - (RM : Int) + (n3 : Int)) = (n2 : Int) - (RM : Int) + (n3 : Int) := IntWalk.i64_in _ (by omega)
              have heq : ((LF : Int) == (n2 : Int) - (RM : Int) + (n3 : Int)) = true := by rw [hi7]; simp
              have HBE : Hid (Below w.heap.size w wr) := HB13.out.trans (hb4.mono HB13.out.size)
              clear hi7
              go_wp2
              go_ret
              exact ⟨rfl, HBE.out⟩
end Go.Proofs.YtijbmahnjonmmaaGreatDoor
