/-
  The walk of DataTells: whatever rows and text: true; what was there is as it was.
-/
import Derived.Test.YtgffkkijfmoooabGreatDoorBackWalk
import Derived.Test.YtgffkkijfmoooabGreatDoorRefReadData
import Derived.Test.YtgffkkijfmoooabGreatDoorFaulted
namespace Go.Proofs.YtgffkkijfmoooabGreatDoor
open Go.RowKit Go.Extern.Stop Go.Stop Go.Extern Go.Sort Go.Shelf Go.Lib

/-- A cell that is no number, and the one ahead of it, are as they were. -/
def Keeps (W W' : World) : Prop := ∀ (fb : Nat) (x : Value), W.cell? ⟨fb, 1, none⟩ = some x → (∀ n : Int, x ≠ .int .i64 n) → W'.cell? ⟨fb, 0, none⟩ = W.cell? ⟨fb, 0, none⟩ ∧ W'.cell? ⟨fb, 1, none⟩ = W.cell? ⟨fb, 1, none⟩

theorem keeps_below {W W' : World} (hb : Below W.heap.size W W') : Keeps W W' := by
  intro fb x h _
  have e := hb.block fb (cell_lt h)
  unfold World.cell?
  rw [e]
  exact ⟨rfl, rfl⟩

theorem keeps_set {W W1 : World} (h : Keeps W W1) {F : Nat} {x y : Int} (hF : FC W1 F x y) (z z2 : Value) : Keeps W ((W1.setCell ⟨F, 0, none⟩ z).setCell ⟨F, 1, none⟩ z2) := by
  intro fb u hu hn
  obtain ⟨h0, h1⟩ := h fb u hu hn
  have hne : F ≠ fb := by
    intro e
    subst e
    rw [hF.c1, hu] at h1
    exact hn y (Option.some.inj h1).symm
  rw [← h0, ← h1]
  have hk : ∀ p, ((W1.setCell ⟨F, 0, none⟩ z).setCell ⟨F, 1, none⟩ z2).cell? ⟨fb, p, none⟩ = W1.cell? ⟨fb, p, none⟩ := fun p => by
    rw [World.cell?_setCell_other _ _ _ _ (by intro e; injection e with e; exact hne e), World.cell?_setCell_other _ _ _ _ (by intro e; injection e with e; exact hne e)]
  exact ⟨hk 0, hk 1⟩

/-- An error and the document's fault are the same, from W on. -/
def Match (W : World) (a : Nat → Addr) (ev : Value) (c j : Int) : Prop := ∀ W', Keeps W W' → Errs W' a →
  Calls Tryz.prog 14 #[ev, .agg #[.int .i64 c, .int .i64 j]] W' fun e w' => e = .returned (.bool true) ∧ Below W'.heap.size W' w'

theorem match_err (W : World) (a : Nat → Addr) (n : Nat) (hn : n ≤ 12) : Match W a (errV a n) n (-1) := fun W' _ hE => faulted_err n hn W' a hE
theorem match_at (W : World) (a : Nat → Addr) (n : Nat) (h0 : n ≠ 0) (hn : n ≤ 12) (fb : Nat) (j : Int) (c0 : W.cell? ⟨fb, 0, none⟩ = some (.int .i64 j)) (c1 : W.cell? ⟨fb, 1, none⟩ = some (errV a n)) : Match W a (.iface 92 (.pointer (some ⟨fb, 0, none⟩))) n j := fun W' hb hE => by
  obtain ⟨k0, k1⟩ := hb fb _ c1 (fun z e => by
    cases n with
    | zero => exact h0 rfl
    | succ n => simp [errV] at e)
  exact faulted_at n h0 hn W' a hE fb j (k0.trans c0) (k1.trans c1)

theorem dataO_le (s : List UInt8) : (dataO s).2.1 ≤ 12 ∧ (dataO s).1.length ≤ 40 := readG_le dataK (fun l => by have := readO_le l; show (readO l).2 ≤ 12; omega) s

/-- Make and DataOf: one text, one fault. -/
theorem made (xs : List Rw) (hl : xs.length ≤ 45) (hp : ∀ x ∈ xs, x.1.size ≤ 30) : ∃ (S : ByteArray) (c j : Int),
    (∀ (w : World) (a : Nat → Addr) (q : Option Addr) (cap : Nat), EnvD w a → RowsAt w (.slice q xs.length cap) xs → Calls Tryz.prog 11 #[.slice q xs.length cap] w fun e w' => ∃ ev, e = .returned (.tuple #[.string S, ev]) ∧ Match w' a ev c j ∧ Below w.heap.size w w') ∧
    (∀ (w : World) (q : Option Addr) (cap : Nat), RowsAt w (.slice q xs.length cap) xs → Calls Tryz.prog 13 #[.slice q xs.length cap] w fun e w' => e = .returned (.tuple #[.string S, .agg #[.int .i64 c, .int .i64 j]]) ∧ Below w.heap.size w w') := by
  by_cases h40 : 40 < xs.length
  · refine ⟨⟨#[]⟩, 8, -1, fun w a q cap hE _ => ?_, fun w q cap _ => dataOf_full q xs.length cap w h40 (by unfold maxLen; omega)⟩
    refine (make_full q xs.length cap w a hE h40 (by unfold maxLen; omega)).mono ?_
    rintro e w' ⟨rfl, hb⟩
    exact ⟨_, rfl, match_err w' a 8 (by decide), hb⟩
  · obtain ⟨m, hm, hgood, hend⟩ := firstBad xs
    by_cases hmx : m < xs.length
    · refine ⟨⟨#[]⟩, rowE xs[m], m, fun w a q cap hE hr => ?_, fun w q cap hr => ?_⟩
      · refine (make_any q cap xs w a hE hr (by omega) hp m hm hgood hend).mono ?_
        rintro e w' (⟨h1, _⟩ | ⟨_, fb, h1, c0, c1, hb⟩)
        · omega
        · exact ⟨_, h1, match_at w' a _ (hend hmx) (by have := rowE_le xs[m]; omega) fb m c0 c1, hb⟩
      · refine (dataOf_any q cap xs w hr (by omega) hp m hm hgood hend).mono ?_
        rintro e w' (⟨h1, _⟩ | ⟨_, h1, hb⟩)
        · omega
        · exact ⟨h1, hb⟩
    · refine ⟨bytesOf (fileOf (sortR xs)), 0, -1, fun w a q cap hE hr => ?_, fun w q cap hr => ?_⟩
      · refine (make_any q cap xs w a hE hr (by omega) hp m hm hgood hend).mono ?_
        rintro e w' (⟨_, h1, hb⟩ | ⟨h1, _⟩)
        · exact ⟨_, h1, match_err w' a 0 (by decide), hb⟩
        · exact absurd h1 hmx
      · refine (dataOf_any q cap xs w hr (by omega) hp m hm hgood hend).mono ?_
        rintro e w' (⟨_, h1, hb⟩ | ⟨h1, _⟩)
        · exact ⟨h1, hb⟩
        · exact absurd h1 hmx

/-- Read and ReadData: the same rows, one fault. -/
theorem readd (s : ByteArray) (hs : s.size ≤ maxLen) : ∃ (ys : List Rw) (c j : Int), ys.length ≤ 40 ∧
    (∀ (w : World) (a : Nat → Addr), EnvD w a → Calls Tryz.prog 17 #[.string s] w fun e w' => ∃ v ev, e = .returned (.tuple #[v, ev]) ∧ RowsAt w' v ys ∧ Match w' a ev c j ∧ Below w.heap.size w w') ∧
    (∀ (w : World), Calls Tryz.prog 18 #[.string s] w fun e w' => ∃ v, e = .returned (.tuple #[v, .agg #[.int .i64 c, .int .i64 j]]) ∧ RowsAt w' v ys ∧ Below w.heap.size w w') := by
  obtain ⟨h12, h40⟩ := dataO_le s.data.toList
  have hR := fun w a h => data_any s w a h hs
  have hQ := fun w => readData_any s w hs
  generalize dataO s.data.toList = D at h12 h40 hR hQ
  obtain ⟨ys, c, o⟩ := D
  dsimp only at h12 h40
  by_cases hc : c = 0
  · subst hc
    refine ⟨ys, 0, -1, h40, fun w a hE => (hR w a hE).mono ?_, fun w => (hQ w).mono ?_⟩
    · rintro e w' ⟨hb, hp⟩
      rcases hp with ⟨_, v, h1, hv⟩ | ⟨h1, _⟩ | ⟨h1, _⟩
      · exact ⟨v, _, h1, hv, match_err w' a 0 (by decide), hb⟩
      · exact absurd rfl h1
      · exact absurd rfl h1
    · rintro e w' ⟨hb, hp⟩
      rcases hp with ⟨_, v, h1, hv⟩ | ⟨h1, _⟩
      · exact ⟨v, h1, hv, hb⟩
      · exact absurd rfl h1
  · cases o with
    | none =>
      refine ⟨[], c, -1, by simp, fun w a hE => (hR w a hE).mono ?_, fun w => (hQ w).mono ?_⟩
      · rintro e w' ⟨hb, hp⟩
        rcases hp with ⟨h1, _⟩ | ⟨_, _, _, h1⟩ | ⟨_, _, at_, h1, _⟩
        · exact absurd h1 hc
        · exact ⟨_, _, h1, .inl ⟨_, _, rfl, rfl⟩, match_err w' a c h12, hb⟩
        · cases h1
      · rintro e w' ⟨hb, hp⟩
        rcases hp with ⟨h1, _⟩ | ⟨_, j, h1, h2, _⟩
        · exact absurd h1 hc
        · rw [h2 rfl] at h1
          exact ⟨_, h1, .inl ⟨_, _, rfl, rfl⟩, hb⟩
    | some k =>
      refine ⟨[], c, k, by simp, fun w a hE => (hR w a hE).mono ?_, fun w => (hQ w).mono ?_⟩
      · rintro e w' ⟨hb, hp⟩
        rcases hp with ⟨h1, _⟩ | ⟨_, _, h1, _⟩ | ⟨_, _, at_, h1, fb, h2, c0, c1⟩
        · exact absurd h1 hc
        · cases h1
        · injection h1 with h1
          subst h1
          exact ⟨_, _, h2, .inl ⟨_, _, rfl, rfl⟩, match_at w' a c hc h12 fb _ c0 c1, hb⟩
      · rintro e w' ⟨hb, hp⟩
        rcases hp with ⟨h1, _⟩ | ⟨_, j, h1, _, h3⟩
        · exact absurd h1 hc
        · rw [h3 k rfl] at h1
          exact ⟨_, h1, .inl ⟨_, _, rfl, rfl⟩, hb⟩

theorem FC.ne_rows {W : World} {F : Nat} {x y : Int} {v : Value} {ys : List Rw} (h : FC W F x y) (hr : RowsAt W v ys) (o : Nat) (z : Value) (o2 : Nat) (z2 : Value) : RowsAt ((W.setCell ⟨F, o, none⟩ z).setCell ⟨F, o2, none⟩ z2) v ys := by
  rcases hr with hr | ⟨b, o', cap, rfl, hc⟩
  · exact .inl hr
  · refine .inr ⟨b, o', cap, rfl, fun i hi => ?_⟩
    have hne : F ≠ b := by
      intro e
      subst e
      have h1 := (hc i hi).1
      rw [cell_of_row _ _ _ _ _ _ h] at h1
      generalize o' + i * 3 = k at h1
      match k, h1 with
      | 0, h1 => simp at h1
      | 1, h1 => simp at h1
      | k + 2, h1 => simp at h1
    have hk : ∀ p, ((W.setCell ⟨F, o, none⟩ z).setCell ⟨F, o2, none⟩ z2).cell? ⟨b, p, none⟩ = W.cell? ⟨b, p, none⟩ := fun p => by
      rw [World.cell?_setCell_other _ _ _ _ (by intro e; injection e with e; exact hne e), World.cell?_setCell_other _ _ _ _ (by intro e; injection e with e; exact hne e)]
    rw [hk, hk, hk]
    exact hc i hi

set_option maxRecDepth 100000 in
set_option maxHeartbeats 4000000 in
theorem dataTells_any (q : Option Addr) (cp : Nat) (xs : List Rw) (s : ByteArray) (w : World) (a : Nat → Addr) (h : EnvD w a) (hE : Errs w a) (hx : RowsAt w (.slice q xs.length cp) xs) (hlx : xs.length ≤ maxLen) (hls : s.size ≤ maxLen) :
    Calls Tryz.prog 3 #[.slice q xs.length cp, .string s] w fun e w' => e = .returned (.bool true) ∧ Below w.heap.size w w' := by
  have hda := dated_any w a h
  have hlong := fun W (hW : Below w.heap.size w W) => longRows_any (.slice q xs.length cp) xs 45 W (hx.below hW) hlx (by omega)
  cases hlb : longB 45 xs
  case true =>
    rw [longN_yes hlb] at hlong
    generalize xs.length = L at hx hlx hlong ⊢
    unfold maxLen at hlx hls
    clear hlb hx
    go_enter Tryz.func3, Tryz.ntmps3
    go_wp2_with fail
    refine hda.mono ?_
    rintro e w1 ⟨rfl, hb1⟩
    have hl1 := hlong w1 hb1
    clear hlong hda
    go_wp2_with fail
    refine hl1.mono ?_
    rintro e w2 ⟨rfl, rfl⟩
    clear hl1
    go_wp2
    go_ret
    exact ⟨rfl, hb1⟩
  case false =>
  rw [longN_no hlb] at hlong
  have hl45 : xs.length ≤ 45 := by have := longB_len hlb; omega
  by_cases hsz : 1500 < s.size ∧ s.size ≠ 20001
  · have hs1 : (1500 : Int) < (s.size : Int) := by omega
    have hs2 : ¬ (s.size : Int) = 20001 := by omega
    generalize xs.length = L at hx hlx hlong hl45 ⊢
    clear hlb hx hlx hsz
    go_enter Tryz.func3, Tryz.ntmps3
    go_wp2_with fail
    refine hda.mono ?_
    rintro e w1 ⟨rfl, hb1⟩
    have hl1 := hlong w1 hb1
    clear hlong hda
    go_wp2_with fail
    refine hl1.mono ?_
    rintro e w2 ⟨rfl, rfl⟩
    clear hl1
    go_wp2
    go_ret
    exact ⟨rfl, hb1⟩
  have how := fun W (hW : Below w.heap.size w W) => ownRows_any (.slice q xs.length cp) xs W (hx.below hW) (by omega)
  obtain ⟨S, c1, j1, hmk, hdo⟩ := made xs hl45 (longB_part hlb)
  obtain ⟨ys, c2, j2, hy40, hrd, hrf⟩ := readd s hls
  have hsu := fun W => sum_any s W hls
  have hsf := fun W => sumOf_any s W hls
  have hsl := sumL_lt s.data.toList
  generalize sumL s.data.toList = su at hsu hsf hsl
  have hw0 : IntKind.i64.wrap (su : Int) = (su : Int) := IntWalk.i64_in _ (by omega)
  have hsm := fun W (v v' : Value) (h1 : RowsAt W v ys) (h2 : RowsAt W v' ys) => sameRows_any v v' ys ys W h1 h2 (by omega) (by omega)
  simp only [decide_true] at hsm
  generalize hL : xs.length = L at hx hlong hl45 how hmk hdo ⊢
  have HL : Hid (xs.length = L) := hL
  clear hlx hlb hL
  have HE : Hid (∀ W, Below w.heap.size w W → Errs W a) := fun W hW => hE.below hW
  clear hE
  have key : (s.size : Int) ≤ 1500 ∨ ((1500 : Int) < (s.size : Int) ∧ (s.size : Int) = 20001) := by omega
  clear hsz
  go_enter Tryz.func3, Tryz.ntmps3
  go_wp2_with fail
  refine hda.mono ?_
  rintro e w1 ⟨rfl, hb1⟩
  have hl1 := hlong w1 hb1
  have ho1 := how w1 hb1
  clear hlong hda how
  go_wp2_with fail
  refine hl1.mono ?_
  rintro e w2 ⟨rfl, rfl⟩
  clear hl1
  rcases key with hs1 | ⟨hs1, hs2⟩
  all_goals
    try (have hs3 : ¬ (1500 : Int) < (s.size : Int) := by omega)
    go_wp2_with fail
    refine ho1.mono ?_
    rintro e w3 ⟨v3, rfl, ho3, hb3⟩
    clear ho1
    have hr3 := (rowsAt_of_own ho3).1
    obtain ⟨q3, c3, rfl⟩ := slice_form ho3
    clear ho3
    have hB3 : Below w.heap.size w w3 := hb1.trans (hb3.mono hb1.size)
    have hk3 := hmk w3 a q3 c3 (h.below hB3) hr3
    clear hmk hr3
    go_wp2_with fail
    refine hk3.mono ?_
    rintro e w4 ⟨ev4, rfl, hm4, hb4⟩
    clear hk3
    have hB4 : Below w.heap.size w w4 := hB3.trans (hb4.mono hB3.size)
    have hd4 := hdo w4 q cp (hx.below hB4)
    clear hdo
    go_wp2_with fail
    refine hd4.mono ?_
    rintro e w5 ⟨rfl, hb5⟩
    clear hd4
    have hal5 : Below w5.heap.size w5 (w5.alloc (.cells #[.int .i64 c1, .int .i64 j1] 31)) := (Below.refl _ _).alloc (Nat.le_refl _) _
    have hb46 := hb5.trans (hal5.mono hb5.size)
    have hB6 : Below w.heap.size w (w5.alloc (.cells #[.int .i64 c1, .int .i64 j1] 31)) := hB4.trans (hb46.mono hB4.size)
    have hF6 : FC (w5.alloc (.cells #[.int .i64 c1, .int .i64 j1] 31)) w5.heap.size c1 j1 := heap_alloc_new _ _
    have hBF : w.heap.size ≤ w5.heap.size := (hB4.trans (hb5.mono hB4.size)).size
    have hfa6 := hm4 _ (keeps_below hb46) (HE.out _ hB6)
    clear hm4 hal5 hb46 hb3 hb4 hb5 hB3 hB4
    go_wp2_with fail
    generalize w5.alloc (.cells #[.int .i64 c1, .int .i64 j1] 31) = w6 at hB6 hF6 hfa6 ⊢
    generalize w5.heap.size = F at hF6 hBF ⊢
    refine hfa6.mono ?_
    rintro e w7 ⟨rfl, hb7⟩
    clear hfa6
    have hB7 : Below w.heap.size w w7 := hB6.trans (hb7.mono hB6.size)
    have hF7 := hF6.below hb7
    have hs7 := hsu w7
    clear hsu hF6 hb7 hB6
    go_wp2_with fail
    refine hs7.mono ?_
    rintro e w8 ⟨rfl, hb8⟩
    clear hs7
    have hB8 : Below w.heap.size w w8 := hB7.trans (hb8.mono hB7.size)
    have hF8 := hF7.below hb8
    have hs8 := hsf w8
    have hr8 := hrd w8 a (h.below hB8)
    clear hsf hrd hF7 hb8 hB7
    go_wp2_with fail
    refine hs8.mono ?_
    rintro e w9 ⟨rfl, rfl⟩
    clear hs8
    go_wp2_with fail
    refine hr8.mono ?_
    rintro e w10 ⟨v10, ev10, rfl, hv10, hm10, hb10⟩
    clear hr8
    have hB10 : Below w.heap.size w w10 := hB8.trans (hb10.mono hB8.size)
    have hF10 := hF8.below hb10
    have hq10 := hrf w10
    clear hrf hF8 hb10 hB8
    go_wp2_with fail
    refine hq10.mono ?_
    rintro e w11 ⟨v11, rfl, hv11, hb11⟩
    clear hq10
    have hB11 : Below w.heap.size w w11 := hB10.trans (hb11.mono hB10.size)
    have hF11 := hF10.below hb11
    have hF12 := hF11.set c2 j2
    have hy1 := hF11.ne_rows (hv10.below hb11) 0 (.int .i64 c2) 1 (.int .i64 j2)
    have hy2 := hF11.ne_rows hv11 0 (.int .i64 c2) 1 (.int .i64 j2)
    have hB12 : Below w.heap.size w ((w11.setCell ⟨F, 0, none⟩ (.int .i64 c2)).setCell ⟨F, 1, none⟩ (.int .i64 j2)) := (hB11.setCell hBF _).setCell hBF _
    have hfa12 := hm10 _ (keeps_set (keeps_below hb11) hF11 (.int .i64 c2) (.int .i64 j2)) (HE.out _ hB12)
    have k0 := hF11.c0
    have k1 := hF11.c1
    have kz := hF11.fz
    have l0 := hF12.c0
    have l1 := hF12.c1
    clear hm10 hF10 hF11 hF12 hv10 hv11 hb11 hB11 hB10
    go_wp2_with fail
    generalize (w11.setCell ⟨F, 0, none⟩ (.int .i64 c2)).setCell ⟨F, 1, none⟩ (.int .i64 j2) = w12 at hy1 hy2 hB12 hfa12 l0 l1 ⊢
    refine hfa12.mono ?_
    rintro e w13 ⟨rfl, hb13⟩
    clear hfa12 k0 k1 kz l0 l1
    have hB13 : Below w.heap.size w w13 := hB12.trans (hb13.mono hB12.size)
    have hs13 := hsm w13 v10 v11 (hy1.below hb13) (hy2.below hb13)
    clear hsm hy1 hy2
    go_wp2_with fail
    refine hs13.mono ?_
    rintro e w14 ⟨rfl, hb14⟩
    clear hs13
    go_wp2
    go_ret
    exact ⟨rfl, hB13.trans (hb14.mono hB13.size)⟩
end Go.Proofs.YtgffkkijfmoooabGreatDoor
