/-
  Snaps in memory; the contract of the document's own KeepOf.
-/
import Derived.Test.YtbdhdlloihkibaaGreatDoorRefExp1
namespace Go.Proofs.YtbdhdlloihkibaaGreatDoor
open Go.RowKit Go.Extern.Stop Go.Stop Go.Extern Go.Sort Go.Shelf Go.Lib

def SnCells (w : World) (b o : Nat) (ss : List Sn) : Prop :=
  ∀ j (h : j < ss.length), w.cell? ⟨b, o + j * 7, none⟩ = some (.int .i64 ss[j].1) ∧ w.cell? ⟨b, o + j * 7 + 3, none⟩ = some (.int .i64 ss[j].2.2.2.1) ∧ ∃ vf, w.cell? ⟨b, o + j * 7 + 6, none⟩ = some vf ∧ FlsAt w vf ss[j].2.2.2.2.2.2 ∧ w.cell? ⟨b, o + j * 7 + 1, none⟩ = some (.int .i64 ss[j].2.1) ∧ w.cell? ⟨b, o + j * 7 + 2, none⟩ = some (.int .i64 ss[j].2.2.1) ∧ w.cell? ⟨b, o + j * 7 + 4, none⟩ = some (.int .i64 ss[j].2.2.2.2.1) ∧ w.cell? ⟨b, o + j * 7 + 5, none⟩ = some (.string ss[j].2.2.2.2.2.1)
def SnsAt (w : World) (v : Value) (ss : List Sn) : Prop :=
  (∃ p c, v = .slice p 0 c ∧ (p = none → c = 0) ∧ ss = []) ∨ ∃ b o cap, v = .slice (some ⟨b, o, none⟩) ss.length cap ∧ ss.length ≤ cap ∧ SnCells w b o ss
theorem SnCells.below {w w' : World} {b o : Nat} {ss : List Sn} (h : SnCells w b o ss) (hb : Below w.heap.size w w') : SnCells w' b o ss := fun j hj => by
  obtain ⟨h0, h3, vf, h6, hf, h1, h2, h4, h5⟩ := h j hj
  exact ⟨below_keep hb h0, below_keep hb h3, vf, below_keep hb h6, hf.below hb, below_keep hb h1, below_keep hb h2, below_keep hb h4, below_keep hb h5⟩
theorem SnsAt.below {w w' : World} {v : Value} {ss : List Sn} (h : SnsAt w v ss) (hb : Below w.heap.size w w') : SnsAt w' v ss := by
  rcases h with h | ⟨b, o, cap, hv, hl, hc⟩
  · exact Or.inl h
  · exact Or.inr ⟨b, o, cap, hv, hl, hc.below hb⟩
theorem SnsAt.form {w : World} {v : Value} {ss : List Sn} (h : SnsAt w v ss) : ∃ p c, v = .slice p ss.length c := by
  rcases h with ⟨p, c, rfl, _, rfl⟩ | ⟨b, o, cap, rfl, _⟩
  · exact ⟨_, _, rfl⟩
  · exact ⟨_, _, rfl⟩
theorem SnsAt.cells {w : World} {q : Option Addr} {n c : Nat} {ss : List Sn} (h : SnsAt w (.slice q n c) ss) (hne : ss ≠ []) : ∃ b o, q = some ⟨b, o, none⟩ ∧ SnCells w b o ss := by
  rcases h with ⟨_, _, _, _, e⟩ | ⟨b, o, cap, e, _, hc⟩
  · exact absurd e hne
  · simp only [Value.slice.injEq] at e
    exact ⟨b, o, e.1, hc⟩

theorem int_run {B : Nat} {W W9 : World} {v : Value} {zs : List Int} (ho : W.ownsRow B 3 1 v zs.length (zs.map (Value.int .i64))) (hB : B ≤ W.heap.size) (z : Int) (hW9 : W9 = W.alloc (.cells #[.int .i64 z] 3)) (hlen : zs.length ≤ 1000) :
    ∃ v' W2, (Builtin.append_ #[33, 33] 33 #[v, .slice (some ⟨W.heap.size, 0, none⟩) 1 1]).run Tryz.prog W9 = .ok v' W2 ∧ W2.ownsRow B 3 1 v' (zs ++ [z]).length ((zs ++ [z]).map (Value.int .i64)) ∧ But (fun k => v.ownBlock = some k) W W2 := by
  obtain ⟨i0, hi, hz, hs, hby⟩ := Tryz.numInfo
  have hal : Below W.heap.size W W9 := by rw [hW9]; exact (Below.refl _ _).alloc (Nat.le_refl _) _
  have hsrc : Src W9 (some ⟨W.heap.size, 0, none⟩) 1 1 [.int .i64 z] := by
    rw [hW9]
    exact src_new W [.int .i64 z] 3 1 1
  obtain ⟨v', W2, hr, h1, hg, hv⟩ := run_append_src (P := Tryz.prog) W9 B 33 33 3 i0 (.int .i64 0) 1 8 Tryz.underlying33 hi hz hs hby rfl (by decide) v zs.length (zs.map (Value.int .i64)) (own_but (P := fun _ => False) ho (But.of_below hal) (fun _ _ h => h)) (some ⟨W.heap.size, 0, none⟩) 1 1 [.int .i64 z] rfl hsrc (by intro u hu; rw [List.mem_singleton] at hu; subst hu; rfl) (by unfold maxLen; omega) (by omega) (Nat.le_trans hB hal.size)
  have h1' : W2.ownsRow B 3 1 v' (zs ++ [z]).length ((zs ++ [z]).map (Value.int .i64)) := by
    rw [List.length_append, List.map_append]
    simpa using h1
  exact ⟨v', W2, hr, h1', (But.of_below hal).trans (But.grown hg) (fun _ h _ => h)⟩

set_option maxRecDepth 100000 in
set_option maxHeartbeats 8000000 in
theorem keepOf_any (v : Value) (ss : List Sn) (day age count : Int) (w : World) (hx : SnsAt w v ss) (hl : ss.length ≤ 900) (hd : ∀ s ∈ ss, -9223372036854775808 ≤ s.2.2.2.1 ∧ s.2.2.2.1 ≤ 9223372036854775807) :
    Calls Tryz.prog 11 #[v, .int .i64 day, .int .i64 age, .int .i64 count] w fun e w' => ∃ v', e = .returned v' ∧ w'.ownsRow w.heap.size 3 1 v' (keepL day age count ss).length ((keepL day age count ss).map (Value.int .i64)) ∧ Below w.heap.size w w' := by
  have HX : Hid (∀ W, Below w.heap.size w W → SnsAt W v ss) := fun W hb => hx.below hb
  obtain ⟨q, cap, rfl⟩ := hx.form
  obtain ⟨L, hL⟩ : ∃ L, ss.length = L := ⟨_, rfl⟩
  have HL : Hid (ss.length = L) := hL
  have hL1 : L ≤ 900 := by omega
  have HN0 : Hid (keepN day age count ss L = keepL day age count ss) := by
    show _ = _
    rw [← hL, keepN_all]
  have HNL : Hid (∀ n, n ≤ L → (keepN day age count ss n).length ≤ 900) := fun n hn => Nat.le_trans (keepN_len day age count ss n) (by omega)
  have HN1 : Hid (∀ n (h : n < ss.length), keepN day age count ss (n + 1) = keepN day age count ss n ++ (if keepB day age count (L - 1 - n) ss[n] = true then [ss[n].1] else [])) := fun n h => by rw [keepN_succ h, hL]
  generalize keepL day age count ss = KL at HN0 ⊢
  rw [hL] at HX ⊢
  clear hx hl hL
  have HF1 := isFar_any day
  have HF2 := isFar_any age
  obtain ⟨FX, hFX⟩ : ∃ x, (!inNum day) = x := ⟨_, rfl⟩
  obtain ⟨FY, hFY⟩ : ∃ x, (!inNum age) = x := ⟨_, rfl⟩
  have HFX : Hid (farE day = FX) := hFX
  have HFY : Hid (farE age = FY) := hFY
  have HIX : Hid (FX = false → -1073741824 ≤ day ∧ day ≤ 1073741824) := fun e => by
    rw [e] at hFX
    simp [inNum] at hFX
    omega
  have HIY : Hid (FY = false → -1073741824 ≤ age ∧ age ≤ 1073741824) := fun e => by
    rw [e] at hFY
    simp [inNum] at hFY
    omega
  rw [hFX] at HF1
  rw [hFY] at HF2
  clear hFX hFY
  go_enter Tryz.func11, Tryz.ntmps11
  go_wp2_with fail
  refine (HF1 _).mono ?_
  rintro e w1 ⟨rfl, hw1⟩
  rw [hw1]
  clear HF1 hw1
  go_wp2_with fail
  refine (HF2 _).mono ?_
  rintro e w2 ⟨rfl, hw2⟩
  rw [hw2]
  clear HF2 hw2
  go_wp2_with fail
  go_loopw [9, 12, 13, 14] (fun o i _ _ wr => ∃ n : Nat, n ≤ L ∧ i = .int .i64 n ∧ wr.ownsRow w.heap.size 3 1 o (keepN day age count ss n).length ((keepN day age count ss n).map (Value.int .i64)) ∧ Below w.heap.size w wr) (fun _ i _ _ _ => L - (intOf i).toNat)
  case atStart => exact ⟨0, by omega, rfl, World.ownsRow_nil _ _ _ _, Below.refl _ _⟩
  case round =>
  obtain ⟨n, hn, rfl, ho, hb⟩ := hrel
  have HO : Hid (wr.ownsRow w.heap.size 3 1 u9 (keepN day age count ss n).length ((keepN day age count ss n).map (Value.int .i64))) := ho
  clear ho
  by_cases hlt : n < L
  case neg =>
    obtain rfl : n = L := by omega
    have HT : Hid (wr.ownsRow w.heap.size 3 1 u9 KL.length (KL.map (Value.int .i64))) := by
      have h' := HO.out
      rw [HN0.out] at h'
      exact h'
    have hii : ¬ (n : Int) < (n : Int) := by omega
    clear HO
    go_wp2
    go_ret
    exact ⟨_, rfl, HT.out, hb⟩
  case pos =>
  have hltx : n < ss.length := by rw [HL.out]; exact hlt
  obtain ⟨b, o, hq, hc⟩ := (HX.out wr hb).cells (fun e => by rw [e] at hltx; simp at hltx)
  subst hq
  have hi1 : (n : Int) < (L : Int) := by omega
  have hi0 : (0 : Int) ≤ (n : Int) := by omega
  obtain ⟨c0, c3, -⟩ := hc n hltx
  have hdn := hd ss[n] (List.getElem_mem _)
  have HK := HN1.out n hltx
  generalize ss[n] = g at c0 c3 hdn HK
  obtain ⟨g0, g1, g2, g3, g4, g5, g6⟩ := g
  dsimp only at *
  obtain ⟨KB, hKB⟩ : ∃ x, keepB day age count (L - 1 - n) (g0, g1, g2, g3, g4, g5, g6) = x := ⟨_, rfl⟩
  have HKB : Hid (keepB day age count (L - 1 - n) (g0, g1, g2, g3, g4, g5, g6) = KB) := hKB
  rw [hKB] at HK
  have HK2 : Hid (keepN day age count ss (n + 1) = keepN day age count ss n ++ (if KB = true then [g0] else [])) := HK
  clear hc hltx HK hKB
  have HKD : Hid (KB = (decide (L - 1 - n = 0) || (!FX && !FY && (decide (((L - 1 - n : Nat) : Int) < count) || decide (day - age ≤ g3))))) := by
    show _ = _
    rw [← HKB.out]
    unfold keepB
    rw [HFX.out, HFY.out]
  have hcast : ((L - 1 - n : Nat) : Int) = (L : Int) - 1 - (n : Int) := by omega
  rw [hcast] at HKD
  clear hcast HKB
  by_cases hla : n + 1 = L
  case pos =>
    have e1 : ((n : Int) == (L : Int) - 1) = true := by simp; omega
    have HKU : Hid (KB = true) := by
      show _ = _
      rw [HKD.out, decide_eq_true (by omega)]
      rfl
    clear HKD
    cases FX
    case false =>
      cases FY
      case false =>
        have hx1 := HIX.out rfl
        have hy1 := HIY.out rfl
        by_cases hcn : (L : Int) - 1 - (n : Int) < count
        case pos =>
          have HS2 : Hid (keepN day age count ss (n + 1) = keepN day age count ss n ++ [g0]) := by show _ = _; rw [HK2.out, HKU.out]; simp
          have hal5 : Below wr.heap.size wr (wr.alloc (.cells #[.int .i64 g0] 3)) := (Below.refl _ _).alloc (Nat.le_refl _) _
          obtain ⟨v', W6, hr, ho6, hbut⟩ := int_run HO.out hb.size g0 rfl (by have := HNL.out n hn; omega)
          have hB6 : Below w.heap.size w W6 := hb.trans (hbut.below hb.size (fun k hk => (own_blk HO.out hk).1))
          have HR : Hid (W6.ownsRow w.heap.size 3 1 v' (keepN day age count ss (n + 1)).length ((keepN day age count ss (n + 1)).map (Value.int .i64))) := by
            show World.ownsRow _ _ _ _ _ _ _
            rw [HS2.out]
            exact ho6
          clear HK2 HS2 ho6 hbut hal5 HO HKU
          go_wp2_with (at_builtin; refine wpList_append_run (by rfl) _ _ _ (by rfl) _ _ _ (by rfl) (by rfl) hr ?_)
          go_roundw
          case rel => exact ⟨n + 1, by omega, by go_num, HR.out, hB6⟩
          case measure => simp [intOf]; omega
        case neg =>
        by_cases hda : day - age ≤ g3
        case pos =>
          have HS2 : Hid (keepN day age count ss (n + 1) = keepN day age count ss n ++ [g0]) := by show _ = _; rw [HK2.out, HKU.out]; simp
          have hal5 : Below wr.heap.size wr (wr.alloc (.cells #[.int .i64 g0] 3)) := (Below.refl _ _).alloc (Nat.le_refl _) _
          obtain ⟨v', W6, hr, ho6, hbut⟩ := int_run HO.out hb.size g0 rfl (by have := HNL.out n hn; omega)
          have hB6 : Below w.heap.size w W6 := hb.trans (hbut.below hb.size (fun k hk => (own_blk HO.out hk).1))
          have HR : Hid (W6.ownsRow w.heap.size 3 1 v' (keepN day age count ss (n + 1)).length ((keepN day age count ss (n + 1)).map (Value.int .i64))) := by
            show World.ownsRow _ _ _ _ _ _ _
            rw [HS2.out]
            exact ho6
          clear HK2 HS2 ho6 hbut hal5 HO HKU
          go_wp2_with (at_builtin; refine wpList_append_run (by rfl) _ _ _ (by rfl) _ _ _ (by rfl) (by rfl) hr ?_)
          go_roundw
          case rel => exact ⟨n + 1, by omega, by go_num, HR.out, hB6⟩
          case measure => simp [intOf]; omega
        case neg =>
          have HS2 : Hid (keepN day age count ss (n + 1) = keepN day age count ss n ++ [g0]) := by show _ = _; rw [HK2.out, HKU.out]; simp
          have hal5 : Below wr.heap.size wr (wr.alloc (.cells #[.int .i64 g0] 3)) := (Below.refl _ _).alloc (Nat.le_refl _) _
          obtain ⟨v', W6, hr, ho6, hbut⟩ := int_run HO.out hb.size g0 rfl (by have := HNL.out n hn; omega)
          have hB6 : Below w.heap.size w W6 := hb.trans (hbut.below hb.size (fun k hk => (own_blk HO.out hk).1))
          have HR : Hid (W6.ownsRow w.heap.size 3 1 v' (keepN day age count ss (n + 1)).length ((keepN day age count ss (n + 1)).map (Value.int .i64))) := by
            show World.ownsRow _ _ _ _ _ _ _
            rw [HS2.out]
            exact ho6
          clear HK2 HS2 ho6 hbut hal5 HO HKU
          go_wp2_with (at_builtin; refine wpList_append_run (by rfl) _ _ _ (by rfl) _ _ _ (by rfl) (by rfl) hr ?_)
          go_roundw
          case rel => exact ⟨n + 1, by omega, by go_num, HR.out, hB6⟩
          case measure => simp [intOf]; omega
      case true =>
        have HS2 : Hid (keepN day age count ss (n + 1) = keepN day age count ss n ++ [g0]) := by show _ = _; rw [HK2.out, HKU.out]; simp
        have hal5 : Below wr.heap.size wr (wr.alloc (.cells #[.int .i64 g0] 3)) := (Below.refl _ _).alloc (Nat.le_refl _) _
        obtain ⟨v', W6, hr, ho6, hbut⟩ := int_run HO.out hb.size g0 rfl (by have := HNL.out n hn; omega)
        have hB6 : Below w.heap.size w W6 := hb.trans (hbut.below hb.size (fun k hk => (own_blk HO.out hk).1))
        have HR : Hid (W6.ownsRow w.heap.size 3 1 v' (keepN day age count ss (n + 1)).length ((keepN day age count ss (n + 1)).map (Value.int .i64))) := by
          show World.ownsRow _ _ _ _ _ _ _
          rw [HS2.out]
          exact ho6
        clear HK2 HS2 ho6 hbut hal5 HO HKU
        go_wp2_with (at_builtin; refine wpList_append_run (by rfl) _ _ _ (by rfl) _ _ _ (by rfl) (by rfl) hr ?_)
        go_roundw
        case rel => exact ⟨n + 1, by omega, by go_num, HR.out, hB6⟩
        case measure => simp [intOf]; omega
    case true =>
      cases FY
      case false =>
        have HS2 : Hid (keepN day age count ss (n + 1) = keepN day age count ss n ++ [g0]) := by show _ = _; rw [HK2.out, HKU.out]; simp
        have hal5 : Below wr.heap.size wr (wr.alloc (.cells #[.int .i64 g0] 3)) := (Below.refl _ _).alloc (Nat.le_refl _) _
        obtain ⟨v', W6, hr, ho6, hbut⟩ := int_run HO.out hb.size g0 rfl (by have := HNL.out n hn; omega)
        have hB6 : Below w.heap.size w W6 := hb.trans (hbut.below hb.size (fun k hk => (own_blk HO.out hk).1))
        have HR : Hid (W6.ownsRow w.heap.size 3 1 v' (keepN day age count ss (n + 1)).length ((keepN day age count ss (n + 1)).map (Value.int .i64))) := by
          show World.ownsRow _ _ _ _ _ _ _
          rw [HS2.out]
          exact ho6
        clear HK2 HS2 ho6 hbut hal5 HO HKU
        go_wp2_with (at_builtin; refine wpList_append_run (by rfl) _ _ _ (by rfl) _ _ _ (by rfl) (by rfl) hr ?_)
        go_roundw
        case rel => exact ⟨n + 1, by omega, by go_num, HR.out, hB6⟩
        case measure => simp [intOf]; omega
      case true =>
        have HS2 : Hid (keepN day age count ss (n + 1) = keepN day age count ss n ++ [g0]) := by show _ = _; rw [HK2.out, HKU.out]; simp
        have hal5 : Below wr.heap.size wr (wr.alloc (.cells #[.int .i64 g0] 3)) := (Below.refl _ _).alloc (Nat.le_refl _) _
        obtain ⟨v', W6, hr, ho6, hbut⟩ := int_run HO.out hb.size g0 rfl (by have := HNL.out n hn; omega)
        have hB6 : Below w.heap.size w W6 := hb.trans (hbut.below hb.size (fun k hk => (own_blk HO.out hk).1))
        have HR : Hid (W6.ownsRow w.heap.size 3 1 v' (keepN day age count ss (n + 1)).length ((keepN day age count ss (n + 1)).map (Value.int .i64))) := by
          show World.ownsRow _ _ _ _ _ _ _
          rw [HS2.out]
          exact ho6
        clear HK2 HS2 ho6 hbut hal5 HO HKU
        go_wp2_with (at_builtin; refine wpList_append_run (by rfl) _ _ _ (by rfl) _ _ _ (by rfl) (by rfl) hr ?_)
        go_roundw
        case rel => exact ⟨n + 1, by omega, by go_num, HR.out, hB6⟩
        case measure => simp [intOf]; omega
  case neg =>
    have e1 : ((n : Int) == (L : Int) - 1) = false := by simp; omega
    have HKT : Hid (KB = (!FX && !FY && (decide ((L : Int) - 1 - (n : Int) < count) || decide (day - age ≤ g3)))) := by
      show _ = _
      rw [HKD.out, decide_eq_false (by omega)]
      rfl
    clear HKD
    cases FX
    case false =>
      cases FY
      case false =>
        have hx1 := HIX.out rfl
        have hy1 := HIY.out rfl
        by_cases hcn : (L : Int) - 1 - (n : Int) < count
        case pos =>
          have HKU : Hid (KB = true) := by show _ = _; rw [HKT.out, decide_eq_true hcn]; rfl
          clear HKT
          have HS2 : Hid (keepN day age count ss (n + 1) = keepN day age count ss n ++ [g0]) := by show _ = _; rw [HK2.out, HKU.out]; simp
          have hal5 : Below wr.heap.size wr (wr.alloc (.cells #[.int .i64 g0] 3)) := (Below.refl _ _).alloc (Nat.le_refl _) _
          obtain ⟨v', W6, hr, ho6, hbut⟩ := int_run HO.out hb.size g0 rfl (by have := HNL.out n hn; omega)
          have hB6 : Below w.heap.size w W6 := hb.trans (hbut.below hb.size (fun k hk => (own_blk HO.out hk).1))
          have HR : Hid (W6.ownsRow w.heap.size 3 1 v' (keepN day age count ss (n + 1)).length ((keepN day age count ss (n + 1)).map (Value.int .i64))) := by
            show World.ownsRow _ _ _ _ _ _ _
            rw [HS2.out]
            exact ho6
          clear HK2 HS2 ho6 hbut hal5 HO HKU
          go_wp2_with (at_builtin; refine wpList_append_run (by rfl) _ _ _ (by rfl) _ _ _ (by rfl) (by rfl) hr ?_)
          go_roundw
          case rel => exact ⟨n + 1, by omega, by go_num, HR.out, hB6⟩
          case measure => simp [intOf]; omega
        case neg =>
        by_cases hda : day - age ≤ g3
        case pos =>
          have HKU : Hid (KB = true) := by show _ = _; rw [HKT.out, decide_eq_false hcn, decide_eq_true hda]; rfl
          clear HKT
          have HS2 : Hid (keepN day age count ss (n + 1) = keepN day age count ss n ++ [g0]) := by show _ = _; rw [HK2.out, HKU.out]; simp
          have hal5 : Below wr.heap.size wr (wr.alloc (.cells #[.int .i64 g0] 3)) := (Below.refl _ _).alloc (Nat.le_refl _) _
          obtain ⟨v', W6, hr, ho6, hbut⟩ := int_run HO.out hb.size g0 rfl (by have := HNL.out n hn; omega)
          have hB6 : Below w.heap.size w W6 := hb.trans (hbut.below hb.size (fun k hk => (own_blk HO.out hk).1))
          have HR : Hid (W6.ownsRow w.heap.size 3 1 v' (keepN day age count ss (n + 1)).length ((keepN day age count ss (n + 1)).map (Value.int .i64))) := by
            show World.ownsRow _ _ _ _ _ _ _
            rw [HS2.out]
            exact ho6
          clear HK2 HS2 ho6 hbut hal5 HO HKU
          go_wp2_with (at_builtin; refine wpList_append_run (by rfl) _ _ _ (by rfl) _ _ _ (by rfl) (by rfl) hr ?_)
          go_roundw
          case rel => exact ⟨n + 1, by omega, by go_num, HR.out, hB6⟩
          case measure => simp [intOf]; omega
        case neg =>
          have HKU : Hid (KB = false) := by show _ = _; rw [HKT.out, decide_eq_false hcn, decide_eq_false hda]; rfl
          clear HKT
          have HS : Hid (keepN day age count ss (n + 1) = keepN day age count ss n) := by show _ = _; rw [HK2.out, HKU.out]; simp
          clear HK2 HKU
          go_wp2
          go_roundw
          case rel => exact ⟨n + 1, by omega, by go_num, by rw [HS.out]; exact HO.out, hb⟩
          case measure => simp [intOf]; omega
      case true =>
        have HKU : Hid (KB = false) := by show _ = _; rw [HKT.out]; rfl
        clear HKT
        have HS : Hid (keepN day age count ss (n + 1) = keepN day age count ss n) := by show _ = _; rw [HK2.out, HKU.out]; simp
        clear HK2 HKU
        go_wp2
        go_roundw
        case rel => exact ⟨n + 1, by omega, by go_num, by rw [HS.out]; exact HO.out, hb⟩
        case measure => simp [intOf]; omega
    case true =>
      cases FY
      case false =>
        have HKU : Hid (KB = false) := by show _ = _; rw [HKT.out]; rfl
        clear HKT
        have HS : Hid (keepN day age count ss (n + 1) = keepN day age count ss n) := by show _ = _; rw [HK2.out, HKU.out]; simp
        clear HK2 HKU
        go_wp2
        go_roundw
        case rel => exact ⟨n + 1, by omega, by go_num, by rw [HS.out]; exact HO.out, hb⟩
        case measure => simp [intOf]; omega
      case true =>
        have HKU : Hid (KB = false) := by show _ = _; rw [HKT.out]; rfl
        clear HKT
        have HS : Hid (keepN day age count ss (n + 1) = keepN day age count ss n) := by show _ = _; rw [HK2.out, HKU.out]; simp
        clear HK2 HKU
        go_wp2
        go_roundw
        case rel => exact ⟨n + 1, by omega, by go_num, by rw [HS.out]; exact HO.out, hb⟩
        case measure => simp [intOf]; omega
end Go.Proofs.YtbdhdlloihkibaaGreatDoor
