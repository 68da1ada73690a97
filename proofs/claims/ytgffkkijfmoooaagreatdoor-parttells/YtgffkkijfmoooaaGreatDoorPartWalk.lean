/-
  The walk of PartTells: whatever spec and rows: true; what was there is as it was.
-/
import Derived.Test.YtgffkkijfmoooaaGreatDoorOnceWalk
import Derived.Test.YtgffkkijfmoooaaGreatDoorRefSplit
import Derived.Test.YtgffkkijfmoooaaGreatDoorFaulted
import Derived.Lib.QuietBelow
import Derived.BigQuiet
namespace Go.Proofs.YtgffkkijfmoooaaGreatDoor
open Go.RowKit Go.Extern.Stop Go.Stop Go.Extern Go.Sort Go.Shelf Go.Lib

theorem spec_le (l : List UInt8) : (specO l).1 ≤ 2 := by
  have hnO : ∀ l, (nO l).1 ≤ 2 := fun l => by
    unfold nO
    split
    · exact (by decide : (1 : Nat) ≤ 2)
    · split
      · exact (by decide : (1 : Nat) ≤ 2)
      · split
        · exact Nat.le_refl _
        · exact Nat.zero_le _
  unfold specO
  split
  · exact Nat.zero_le _
  · split
    · split
      · exact Nat.zero_le _
      · exact hnO _
    · split
      · split
        · exact Nat.zero_le _
        · exact hnO _
      · exact (by decide : (1 : Nat) ≤ 2)

set_option maxRecDepth 100000 in
set_option maxHeartbeats 4000000 in
theorem partTells_bad (q : Option Addr) (c : Nat) (s : ByteArray) (xs : List Rw) (w : World) (a : Nat → Addr) (h : Env w a) (hE : Errs w a) (hx : RowsAt w (.slice q xs.length c) xs) (hlb : longB 40 xs = false) (hls : s.size ≤ 30) (hsp : (specO s.data.toList).1 ≠ 0) :
    Calls Tryz.prog 6 #[.string s, .slice q xs.length c] w fun e w' => e = .returned (.bool true) ∧ Below w.heap.size w w' := by
  have hpa := parted_any w a h
  have hlong := fun W (hW : Below w.heap.size w W) => longRows_any (.slice q xs.length c) xs 40 W (hx.below hW) (by have := longB_len hlb; unfold maxLen; omega) (by omega)
  rw [longN_no hlb] at hlong
  have hl40 : xs.length ≤ 40 := by have := longB_len hlb; omega
  have HP : Hid (∀ x ∈ xs, x.1.size ≤ 30) := longB_part hlb
  have hle := spec_le s.data.toList
  have hso := fun W => specOf_any s W (by omega)
  have hck := fun W (hW : Env W a) => check_spec s W a hW (by omega)
  have hof := fun W (x : Rw) (hW : Env W a) (hm : x ∈ xs) => of_any s x W a hW (by omega) (by have := HP.out x hm; unfold maxLen; omega)
  have hsl := fun W (q3 : Option Addr) (c3 n3 : Nat) (hW : Env W a) => split_none s q3 c3 n3 W a hW (by omega) hsp
  have hsr := fun W => splitOf_none s (.slice q xs.length c) W (by omega) hsp
  have hofE : ∀ x, ofE s.data.toList x = (specO s.data.toList).1 := fun x => by unfold ofE; rw [if_neg hsp]
  have hofB : ∀ x, ofB s.data.toList x = ⟨#[]⟩ := fun x => by unfold ofB; rw [hofE, if_neg hsp]
  have hco := fun W (hW : Errs W a) => coded_same (specO s.data.toList).1 (by omega) W a hW
  have hfa := fun W (hW : Errs W a) => faulted_err (specO s.data.toList).1 (by omega) W a hW
  simp only [hofE, hofB] at hof
  generalize specW s.data.toList = sw at hso
  generalize (specO s.data.toList).2.2 = nn at hso
  obtain ⟨m, hm⟩ : ∃ m, (specO s.data.toList).1 = m + 1 := ⟨(specO s.data.toList).1 - 1, by omega⟩
  rw [hm] at hso hck hof hsl hsr hco hfa
  generalize hL : xs.length = L at hx hlong hl40 hsr ⊢
  have HL : Hid (xs.length = L) := hL
  clear hL hofE hofB hlb hle hsp hm
  obtain ⟨ev, hev⟩ : ∃ ev, errV a (m + 1) = ev := ⟨_, rfl⟩
  rw [hev] at hck hof hsl hco hfa
  clear hev
  have hs30 : ¬ (30 : Int) < (s.size : Int) := by omega
  have hmp : (0 : Int) < (m : Int) + 1 := by omega
  have hmz : ¬ ((m : Int) + 1 = 0) := by omega
  have hmc : ((m + 1 : Nat) : Int) = (m : Int) + 1 := by omega
  rw [hmc] at hso hco hfa hsr
  clear hmc
  go_enter Tryz.func6, Tryz.ntmps6
  go_wp2_with fail
  refine hpa.mono ?_
  rintro e w1 ⟨rfl, hb1⟩
  have hl1 := hlong w1 hb1
  clear hlong hpa
  go_wp2_with fail
  refine hl1.mono ?_
  rintro e w2 ⟨rfl, rfl⟩
  clear hl1
  go_wp2_with fail
  refine (hso w2).mono ?_
  rintro e w3 ⟨rfl, hb3⟩
  clear hso
  have hB3 : Below w.heap.size w w3 := hb1.trans (hb3.mono hb1.size)
  go_wp2_with fail
  refine (hck w3 (h.below hB3)).mono ?_
  rintro e w4 ⟨rfl, hb4⟩
  clear hck
  have hB4 : Below w.heap.size w w4 := hB3.trans (hb4.mono hB3.size)
  go_wp2_with fail
  refine (hco w4 (hE.below hB4)).mono ?_
  rintro e w5 ⟨rfl, hb5⟩
  have hB5 : Below w.heap.size w w5 := hB4.trans (hb5.mono hB4.size)
  clear hb1 hb3 hb4 hb5 hB3 hB4
  go_wp2
  go_loopw [9] (fun k wr => ∃ n : Nat, n ≤ L ∧ k = .int .i64 n ∧ Below w.heap.size w wr) (fun k _ => L - (intOf k).toNat)
  case atStart => exact ⟨0, by omega, rfl, hB5⟩
  case round =>
    obtain ⟨n, hn, rfl, hb⟩ := hrel
    by_cases hlt : n < L
    · have hltx : n < xs.length := by rw [HL.out]; exact hlt
      have hrows := hx.below hb
      rcases hrows with ⟨_, _, e, e'⟩ | ⟨b, o, cap2, e, hcells⟩
      · exfalso; have := HL.out; rw [e'] at this; simp at this; omega
      injection e with e1 e2 e3
      subst e1
      clear e2 e3
      obtain ⟨c1, c2, c3⟩ := hcells n hltx
      clear hcells
      have hi : (n : Int) < (L : Int) := by omega
      have hi0 : (0 : Int) ≤ (n : Int) := by omega
      have ho := hof wr xs[n] (h.below hb) (List.getElem_mem _)
      generalize xs[n] = x at c1 c2 c3 ho
      obtain ⟨xp, xk, xv⟩ := x
      dsimp only at c1 c2 c3 ho
      clear hof hsl hsr hfa
      go_wp2_with fail
      refine ho.mono ?_
      rintro e w6 ⟨rfl, hb6⟩
      have hB6 : Below w.heap.size w w6 := hb.trans (hb6.mono hb.size)
      have hco6 := hco w6 (hE.below hB6)
      clear ho hco c1 c2 c3
      go_wp2_with fail
      refine hco6.mono ?_
      rintro e w7 ⟨rfl, hb7⟩
      have hB7 : Below w.heap.size w w7 := hB6.trans (hb7.mono hB6.size)
      clear hco6
      go_wp2
      go_roundw
      case rel => exact ⟨n + 1, by omega, by go_num, hB7⟩
      case measure => simp [intOf]; omega
    · have how := ownRows_any (.slice q L c) xs wr (hx.below hb) (by rw [HL.out]; omega)
      clear hof hco
      go_wp2_with fail
      refine how.mono ?_
      rintro e w6 ⟨v6, rfl, ho6, hb6⟩
      clear how
      obtain ⟨q6, c6, rfl⟩ := own_form ho6
      rw [HL.out]
      have hB6 : Below w.heap.size w w6 := hb.trans (hb6.mono hb.size)
      have hsl6 := hsl w6 q6 c6 L (h.below hB6)
      clear hsl ho6
      go_wp2_with fail
      refine hsl6.mono ?_
      rintro e w7 ⟨rfl, hb7⟩
      clear hsl6
      have hB7 : Below w.heap.size w w7 := hB6.trans (hb7.mono hB6.size)
      go_wp2_with fail
      refine (hsr w7).mono ?_
      rintro e w8 ⟨rfl, hb8⟩
      clear hsr
      have hB8 : Below w.heap.size w w8 := hB7.trans (hb8.mono hB7.size)
      have hB9 : Below w.heap.size w (w8.alloc (.cells #[.int .i64 ((m : Int) + 1), .int .i64 (-1)] 61)) := hB8.alloc hB8.size _
      have hfa9 := hfa _ (hE.below hB9)
      clear hfa
      go_wp2_with fail
      refine hfa9.mono ?_
      rintro e w10 ⟨rfl, hb10⟩
      clear hfa9
      go_wp2
      refine wp_loop_rounds 1 ?_
      rw [rounds_succ]
      go_wp2
      go_ret
      exact ⟨rfl, hB9.trans (hb10.mono hB9.size)⟩

theorem first_end (xs : List Rw) : ∃ m, m ≤ xs.length ∧ (∀ i (h : i < xs.length), i < m → rowE xs[i] = 0) ∧ ∀ (h : m < xs.length), rowE xs[m] ≠ 0 := by
  rcases first_bad xs with hall | ⟨j, hj, hb, hg⟩
  · exact ⟨xs.length, Nat.le_refl _, fun i h _ => hall _ (List.getElem_mem _), fun h => absurd h (Nat.lt_irrefl _)⟩
  · exact ⟨j, by omega, fun i h hi => hg i h hi, fun _ => hb⟩

set_option maxRecDepth 100000 in
set_option maxHeartbeats 8000000 in
theorem partTells_good (q : Option Addr) (c : Nat) (s : ByteArray) (xs : List Rw) (w : World) (a : Nat → Addr) (h : Env w a) (hE : Errs w a) (hx : RowsAt w (.slice q xs.length c) xs) (hlb : longB 40 xs = false) (hls : s.size ≤ 30) (hsp : (specO s.data.toList).1 = 0) :
    Calls Tryz.prog 6 #[.string s, .slice q xs.length c] w fun e w' => e = .returned (.bool true) ∧ Below w.heap.size w w' := by
  have hpa := parted_any w a h
  have hlong := fun W (hW : Below w.heap.size w W) => longRows_any (.slice q xs.length c) xs 40 W (hx.below hW) (by have := longB_len hlb; unfold maxLen; omega) (by omega)
  rw [longN_no hlb] at hlong
  have hl40 : xs.length ≤ 40 := by have := longB_len hlb; omega
  have HP : Hid (∀ x ∈ xs, x.1.size ≤ 30) := longB_part hlb
  have hso := fun W => specOf_any s W (by omega)
  have hck := fun W (hW : Env W a) => check_spec s W a hW (by omega)
  have hof := fun W (x : Rw) (hW : Env W a) (hm : x ∈ xs) => of_any s x W a hW (by omega) (by have := HP.out x hm; unfold maxLen; omega)
  have hgo := fun (W : World) (x : Rw) (hxe : rowE x = 0) => groupOf_any s x W (by omega) hsp hxe
  have hnk := spec_n s.data.toList
  have hsz : ∀ x ∈ xs, rowE x = 0 → (grpB (specO s.data.toList).2.1 (specO s.data.toList).2.2 x).size ≤ 1000 := fun x hm h0 => grp_size _ _ hnk x (HP.out x hm) h0
  have hofE : ∀ x, ofE s.data.toList x = rowE x := fun x => by unfold ofE; rw [if_pos hsp]
  have hofB : ∀ x, ofB s.data.toList x = if rowE x = 0 then grpB (specO s.data.toList).2.1 (specO s.data.toList).2.2 x else ⟨#[]⟩ := fun x => by unfold ofB; rw [hofE]
  simp only [hofE, hofB] at hof
  obtain ⟨m, hm, hgood, hend⟩ := first_end xs
  have hsl := fun W (q3 : Option Addr) (c3 : Nat) (hW : Env W a) (hr : RowsAt W (.slice q3 xs.length c3) xs) (hall : ∀ x ∈ xs, rowE x = 0) => split_ok s q3 c3 xs W a hW (by omega) hr (by omega) HP.out hsp hall hsz
  have hsb := fun W (q3 : Option Addr) (c3 : Nat) (hW : Env W a) (hr : RowsAt W (.slice q3 xs.length c3) xs) (hj : m < xs.length) => split_bad s q3 c3 xs W a hW (by omega) hr (by omega) HP.out hsp m hj (hend hj) hgood hsz
  have hsr := fun W (hr : RowsAt W (.slice q xs.length c) xs) => splitOf_any s q c xs W (by omega) hr (by omega) HP.out hsp m hm hgood hend
  rw [hsp] at hso hck
  generalize specW s.data.toList = sw at hso
  generalize grpB (specO s.data.toList).2.1 (specO s.data.toList).2.2 = p at hof hgo hsl hsr
  generalize (specO s.data.toList).2.2 = nn at hso
  simp only [errV] at hck
  generalize hL : xs.length = L at hx hlong hl40 ⊢
  have HL : Hid (xs.length = L) := hL
  have HGOOD : Hid (∀ i (h : i < xs.length), i < m → rowE xs[i] = 0) := hgood
  have HEND : Hid (∀ (h : m < xs.length), rowE xs[m] ≠ 0) := hend
  have hmL : m ≤ L := by rw [← hL]; exact hm
  clear hL hofE hofB hlb hsz hnk hgood hend hm
  have hs30 : ¬ (30 : Int) < (s.size : Int) := by omega
  have hco := fun (n : Nat) (hn : n ≤ 12) W (hW : Errs W a) => coded_same n hn W a hW
  have hco0 := fun W (hW : Errs W a) => coded_same 0 (by omega) W a hW
  simp only [errV] at hco0
  have hz0 : ((0 : Nat) : Int) = 0 := rfl
  rw [hz0] at hso
  simp only [hz0] at hco0
  go_enter Tryz.func6, Tryz.ntmps6
  go_wp2_with fail
  refine hpa.mono ?_
  rintro e w1 ⟨rfl, hb1⟩
  have hl1 := hlong w1 hb1
  clear hlong hpa
  go_wp2_with fail
  refine hl1.mono ?_
  rintro e w2 ⟨rfl, rfl⟩
  clear hl1
  go_wp2_with fail
  refine (hso w2).mono ?_
  rintro e w3 ⟨rfl, hb3⟩
  clear hso
  have hB3 : Below w.heap.size w w3 := hb1.trans (hb3.mono hb1.size)
  go_wp2_with fail
  refine (hck w3 (h.below hB3)).mono ?_
  rintro e w4 ⟨rfl, hb4⟩
  clear hck
  have hB4 : Below w.heap.size w w4 := hB3.trans (hb4.mono hB3.size)
  go_wp2_with fail
  refine (hco0 w4 (hE.below hB4)).mono ?_
  rintro e w5 ⟨rfl, hb5⟩
  have hB5 : Below w.heap.size w w5 := hB4.trans (hb5.mono hB4.size)
  clear hb1 hb3 hb4 hb5 hB3 hB4
  go_wp2
  go_loopw [9] (fun k wr => ∃ n : Nat, n ≤ L ∧ k = .int .i64 n ∧ Below w.heap.size w wr) (fun k _ => L - (intOf k).toNat)
  case atStart => exact ⟨0, by omega, rfl, hB5⟩
  case round =>
    obtain ⟨n, hn, rfl, hb⟩ := hrel
    by_cases hlt : n < L
    · have hltx : n < xs.length := by rw [HL.out]; exact hlt
      have hrows := hx.below hb
      rcases hrows with ⟨_, _, e, e'⟩ | ⟨b, o, cap2, e, hcells⟩
      · exfalso; have := HL.out; rw [e'] at this; simp at this; omega
      injection e with e1 e2 e3
      subst e1
      clear e2 e3
      obtain ⟨c1, c2, c3⟩ := hcells n hltx
      clear hcells
      have hi : (n : Int) < (L : Int) := by omega
      have hi0 : (0 : Int) ≤ (n : Int) := by omega
      have hxp := HP.out xs[n] (List.getElem_mem _)
      have ho := hof wr xs[n] (h.below hb) (List.getElem_mem _)
      have hre := fun W => rowError_any xs[n] W (by unfold maxLen; omega)
      have hgn := fun W => hgo W xs[n]
      have hle5 := rowE_le xs[n]
      clear hof hsl hsr hsb hgo
      by_cases hr0 : rowE xs[n] = 0
      · rw [if_pos hr0, hr0] at ho
        rw [hr0] at hre
        have hgn2 := fun W => hgn W hr0
        clear hgn
        generalize xs[n] = x at c1 c2 c3 ho hre hgn2
        obtain ⟨xp, xk, xv⟩ := x
        generalize p (xp, xk, xv) = nb at ho hgn2
        dsimp only at c1 c2 c3 ho hre hgn2
        simp only [errV] at ho
        simp only [hz0] at hre
        clear hr0 hxp hle5
        go_wp2_with fail
        refine ho.mono ?_
        rintro e w6 ⟨rfl, hb6⟩
        have hB6 : Below w.heap.size w w6 := hb.trans (hb6.mono hb.size)
        have d1 := below_keep hb6 c1
        have d2 := below_keep hb6 c2
        have d3 := below_keep hb6 c3
        clear ho c1 c2 c3
        go_wp2_with fail
        refine (hre w6).mono ?_
        rintro e w7 ⟨rfl, hb7⟩
        have hB7 : Below w.heap.size w w7 := hB6.trans (hb7.mono hB6.size)
        have e1 := below_keep hb7 d1
        have e2 := below_keep hb7 d2
        have e3 := below_keep hb7 d3
        clear hre d1 d2 d3
        go_wp2_with fail
        refine (hco0 w7 (hE.below hB7)).mono ?_
        rintro e w8 ⟨rfl, hb8⟩
        have hB8 : Below w.heap.size w w8 := hB7.trans (hb8.mono hB7.size)
        have g1 := below_keep hb8 e1
        have g2 := below_keep hb8 e2
        have g3 := below_keep hb8 e3
        clear e1 e2 e3
        go_wp2_with fail
        refine (hgn2 w8).mono ?_
        rintro e w9 ⟨rfl, hb9⟩
        have hB9 : Below w.heap.size w w9 := hB8.trans (hb9.mono hB8.size)
        clear hgn2 g1 g2 g3
        go_wp2
        go_roundw
        case rel => exact ⟨n + 1, by omega, by go_num, hB9⟩
        case measure => simp [intOf]; omega
      · rw [if_neg hr0] at ho
        obtain ⟨E, hEE⟩ : ∃ E, rowE xs[n] = E + 1 := ⟨rowE xs[n] - 1, by omega⟩
        rw [hEE] at ho hre hle5
        have hco1 := fun W (hW : Errs W a) => hco (E + 1) (by omega) W hW
        obtain ⟨ev, hev⟩ : ∃ ev, errV a (E + 1) = ev := ⟨_, rfl⟩
        rw [hev] at ho hco1
        have hmc : ((E + 1 : Nat) : Int) = (E : Int) + 1 := by omega
        have hmp : (0 : Int) < (E : Int) + 1 := by omega
        have hmz : ¬ ((E : Int) + 1 = 0) := by omega
        rw [hmc] at hre
        simp only [hmc] at hco1
        generalize xs[n].1 = xp at c1 ho hre
        generalize xs[n].2.1 = xk at c2 ho hre
        generalize xs[n].2.2 = xv at c3 ho hre
        clear hr0 hxp hgn hco hco0 hmc hev hEE
        go_wp2_with fail
        refine ho.mono ?_
        rintro e w6 ⟨rfl, hb6⟩
        have hB6 : Below w.heap.size w w6 := hb.trans (hb6.mono hb.size)
        have d1 := below_keep hb6 c1
        have d2 := below_keep hb6 c2
        have d3 := below_keep hb6 c3
        clear ho c1 c2 c3
        go_wp2_with fail
        refine (hre w6).mono ?_
        rintro e w7 ⟨rfl, hb7⟩
        have hB7 : Below w.heap.size w w7 := hB6.trans (hb7.mono hB6.size)
        clear hre d1 d2 d3
        go_wp2_with fail
        refine (hco1 w7 (hE.below hB7)).mono ?_
        rintro e w8 ⟨rfl, hb8⟩
        have hB8 : Below w.heap.size w w8 := hB7.trans (hb8.mono hB7.size)
        clear hco1
        go_wp2
        go_roundw
        case rel => exact ⟨n + 1, by omega, by go_num, hB8⟩
        case measure => simp [intOf]; omega
    · have how := ownRows_any (.slice q L c) xs wr (hx.below hb) (by rw [HL.out]; omega)
      clear hof hgo
      go_wp2_with fail
      refine how.mono ?_
      rintro e w6 ⟨v6, rfl, ho6, hb6⟩
      clear how
      have hr6 := (rowsAt_of_own ho6).1
      obtain ⟨q6, c6, rfl⟩ := own_form ho6
      have hB6 : Below w.heap.size w w6 := hb.trans (hb6.mono hb.size)
      clear ho6
      by_cases hmx : m < L
      · have hmx' : m < xs.length := by rw [HL.out]; exact hmx
        have hsb6 := hsb w6 q6 c6 (h.below hB6) hr6 hmx'
        have hne := HEND.out hmx'
        have hle5 := rowE_le xs[m]
        rw [HL.out] at hsb6
        clear hsl hsb hr6
        rw [HL.out]
        go_wp2_with fail
        refine hsb6.mono ?_
        rintro e w7 ⟨fb, rfl, c0, c1, hb7⟩
        clear hsb6
        have hB7 : Below w.heap.size w w7 := hB6.trans (hb7.mono hB6.size)
        have hsr7 := hsr w7 (by rw [HL.out]; exact hx.below hB7)
        rw [HL.out] at hsr7
        clear hsr
        go_wp2_with fail
        refine hsr7.mono ?_
        rintro e w8 hr8
        clear hsr7
        have hr8' : e = .returned (.tuple #[.slice none 0 0, .agg #[.int .i64 (rowE xs[m]), .int .i64 m]]) ∧ Below w7.heap.size w7 w8 := by
          rcases hr8 with ⟨h1, _⟩ | ⟨_, h1, h2⟩
          · omega
          · exact ⟨h1, h2⟩
        obtain ⟨rfl, hb8⟩ := hr8'
        clear hr8
        have hB8 : Below w.heap.size w w8 := hB7.trans (hb8.mono hB7.size)
        have hal8 : Below w8.heap.size w8 (w8.alloc (.cells #[.int .i64 (rowE xs[m]), .int .i64 m] 61)) := (Below.refl _ _).alloc (Nat.le_refl _) _
        have hB9 : Below w.heap.size w (w8.alloc (.cells #[.int .i64 (rowE xs[m]), .int .i64 m] 61)) := hB8.alloc hB8.size _
        have hfa9 := faulted_at (rowE xs[m]) hne (by omega) _ a (hE.below hB9) fb m (below_keep hal8 (below_keep hb8 c0)) (below_keep hal8 (below_keep hb8 c1))
        clear c0 c1 hne hle5 hal8
        generalize rowE xs[m] = EE at hfa9 hB9 ⊢
        go_wp2_with fail
        refine hfa9.mono ?_
        rintro e w10 ⟨rfl, hb10⟩
        clear hfa9
        go_wp2
        refine wp_loop_rounds 1 ?_
        rw [rounds_succ]
        go_wp2
        go_ret
        exact ⟨rfl, hB9.trans (hb10.mono hB9.size)⟩
      · have hmeq : m = L := by omega
        have hall : ∀ x ∈ xs, rowE x = 0 := fun x hxm => by
          obtain ⟨i, hi, e⟩ := List.mem_iff_getElem.1 hxm
          rw [← e]
          exact HGOOD.out i hi (by rw [hmeq, ← HL.out]; exact hi)
        have hsl6 := hsl w6 q6 c6 (h.below hB6) hr6 hall
        rw [HL.out] at hsl6
        clear hsl hsb hr6
        rw [HL.out]
        go_wp2_with fail
        refine hsl6.mono ?_
        rintro e w7 ⟨gv, ts, D, hv, b1, b2, rfl, ⟨ss, hS, hts⟩, hrow, hG, _, hb7⟩
        clear hsl6
        have hB7 : Below w.heap.size w w7 := hB6.trans (hb7.mono hB6.size)
        obtain ⟨hrise, hnd, hmem, hTL⟩ := names_rise hG hS hts
        obtain ⟨gq, gc, rfl⟩ := own_form hrow
        have hGA := groupsAt_of hrow hG
        clear hrow hG hS hts
        have hsr7 := hsr w7 (by rw [HL.out]; exact hx.below hB7)
        rw [HL.out] at hsr7
        clear hsr
        go_wp2_with fail
        refine hsr7.mono ?_
        rintro e w8 hr8
        clear hsr7
        obtain ⟨v8, ts8, hv8, rfl, hG8, hR8, hb8⟩ : ∃ v ts hv, e = .returned (.tuple #[v, .agg #[.int .i64 0, .int .i64 (-1)]]) ∧ GrpM w8 w7.heap.size v p xs ts hv ∧ Rise p xs ts ∧ Below w7.heap.size w7 w8 := by
          rcases hr8 with ⟨_, h1⟩ | ⟨h1, _⟩
          · exact h1
          · rw [HL.out] at h1; omega
        clear hr8
        have hte : ts8 = ts := rise_unique ts8 ts hR8.rise hrise (fun nm => by rw [hR8.has, hmem])
        subst hte
        have hB8 : Below w.heap.size w w8 := hB7.trans (hb8.mono hB7.size)
        have hB9 : Below w.heap.size w (w8.alloc (.cells #[.int .i64 0, .int .i64 (-1)] 61)) := hB8.alloc hB8.size _
        have hal8 : Below w8.heap.size w8 (w8.alloc (.cells #[.int .i64 0, .int .i64 (-1)] 61)) := (Below.refl _ _).alloc (Nat.le_refl _) _
        have hfa9 := faulted_err 0 (by omega) _ a (hE.below hB9)
        simp only [errV, hz0] at hfa9
        obtain ⟨q8, c8, rfl⟩ := own_form hG8.out
        have hGA9 := (hGA.below hb8).below hal8
        have hG9 := hG8.below hal8
        have hlen : ∀ nm, (grp p xs nm).length ≤ 40 := fun nm => by
          have : (grp p xs nm).length ≤ xs.length := List.length_filter_le _ _
          rw [HL.out] at this
          omega
        obtain ⟨T, hT⟩ : ∃ T, ts8.length = T := ⟨_, rfl⟩
        have HT : Hid (ts8.length = T) := hT
        have HLEN : Hid (∀ nm, (grp p xs nm).length ≤ 40) := hlen
        rw [hT, HL.out] at hTL
        rw [hT]
        clear hT hlen hmem hnd hrise hR8 hGA hG8 hal8 hco hco0
        go_wp2_with fail
        generalize w8.alloc (.cells #[.int .i64 0, .int .i64 (-1)] 61) = W9 at hfa9 hB9 hGA9 hG9 ⊢
        refine hfa9.mono ?_
        rintro e w10 ⟨rfl, hb10⟩
        clear hfa9
        have hB10 : Below w.heap.size w w10 := hB9.trans (hb10.mono hB9.size)
        have hGA10 := hGA9.below hb10
        have hG10 := hG9.below hb10
        clear hGA9 hG9
        go_wp2
        go_loopw [17] (fun k wi => ∃ n : Nat, n ≤ T ∧ k = .int .i64 n ∧ Below w10.heap.size w10 wi) (fun k _ => T - (intOf k).toNat)
        case atStart => exact ⟨0, Nat.zero_le _, rfl, Below.refl _ _⟩
        case round =>
          obtain ⟨k, hk, rfl, hbi⟩ := hrel
          have hBi : Below w.heap.size w wr := hB10.trans (hbi.mono hB10.size)
          by_cases hkT : k < T
          · have hkt : k < ts8.length := by rw [HT.out]; exact hkT
            have hgr := hGA10.below hbi
            obtain ⟨gg, rfl, d1, d2⟩ := hgr.cells k hkt
            have hro := hgr.rows ts8[k]
            have hG11 := hG10.below hbi
            have hro2 := (rowsAt_of_own (hG11.own ts8[k])).1
            obtain ⟨g2, hq2⟩ : ∃ g2, q8 = some ⟨g2, 0, none⟩ := by
              rcases hG11.out.2 with ⟨_, h0⟩ | ⟨g2, cap2, cur, e, _⟩
              · omega
              · injection e with e1
                exact ⟨g2, e1⟩
            subst hq2
            have hout : wr.ownsRow w7.heap.size 65 2 (.slice (some ⟨g2, 0, none⟩) ts8.length c8) ts8.length (grpCells hv8 ts8) := by rw [HT.out]; exact HT.out ▸ hG11.out
            have e1 := hout.cellAt (k * 2) (by omega)
            have e2 := hout.cellAt (k * 2 + 1) (by omega)
            have hgc := grpCells_get hv8 ts8 k hkt
            rw [hgc.1] at e1
            rw [hgc.2] at e2
            have hlr := HLEN.out ts8[k]
            obtain ⟨hvf, hvc, hvE⟩ := hro.form
            obtain ⟨hwf, hwc, hwE⟩ := hro2.form
            have hsm := fun d os => Calls.regrown_of (w := wr) (d := d) (os := os) (sameRows_any (hv ts8[k]) (hv8 ts8[k]) (grp p xs ts8[k]) (grp p xs ts8[k]) _ (hro.below (below_regrown wr d os)) (hro2.below (below_regrown wr d os)) (by omega) (by omega))
            rw [hvE] at d2 hsm
            rw [hwE] at e2 hsm
            simp only [decide_true] at hsm
            have hes : encStr ts8[k] = .string ⟨ts8[k].toArray⟩ := rfl
            rw [hes] at d1 e1
            generalize (⟨ts8[k].toArray⟩ : ByteArray) = nB at d1 e1
            generalize (grp p xs ts8[k]).length = GL at d2 e2 hsm
            have f1 := cell_regrown d1
            have f2 := cell_regrown d2
            have f3 := cell_regrown e1
            have f4 := cell_regrown e2
            have hki : (k : Int) < (T : Int) := by omega
            have hk0 : (0 : Int) ≤ (k : Int) := by omega
            have hmxo : Tryz.prog.follows .mixedOrders = true := by kernel_rfl
            clear hgr hro hro2 hG11 hout hgc hlr hvE hwE hes d1 d2 e1 e2
            go_wp2_with fail
            refine wp_region_quiet_below hmxo (by kernel_rfl) ?_
            repeat (go_big_quiet_step (exact hsm _ _))
            refine wpQuiet_nil ?_
            intro _ hw'
            obtain ⟨⟨dq, osq⟩, hw''⟩ := hw'
            subst hw''
            clear hsm f1 f2 f3 f4
            have hbW := below_regrown wr dq osq
            have hbZ : Below w10.heap.size w10 (grow (redrawn wr dq) osq) := hbi.trans (hbW.mono hbi.size)
            generalize grow (redrawn wr dq) osq = W1 at hbZ ⊢
            go_wp2
            go_roundw
            case rel => exact ⟨k + 1, by omega, by go_num, hbZ⟩
            case measure => simp [intOf]; omega
          · go_wp2
            go_ret
            exact ⟨rfl, hBi⟩

set_option maxRecDepth 100000 in
set_option maxHeartbeats 2000000 in
theorem partTells_any (q : Option Addr) (c : Nat) (s : ByteArray) (xs : List Rw) (w : World) (a : Nat → Addr) (h : Env w a) (hE : Errs w a) (hx : RowsAt w (.slice q xs.length c) xs) (hlx : xs.length ≤ maxLen) (hls : s.size ≤ maxLen) :
    Calls Tryz.prog 6 #[.string s, .slice q xs.length c] w fun e w' => e = .returned (.bool true) ∧ Below w.heap.size w w' := by
  by_cases hbig : 30 < s.size
  · have hpa := parted_any w a h
    generalize xs.length = L at hlx ⊢
    unfold maxLen at hlx hls
    have hbig' : (30 : Int) < (s.size : Int) := by omega
    clear hx
    go_enter Tryz.func6, Tryz.ntmps6
    go_wp2_with fail
    refine hpa.mono ?_
    rintro e w1 ⟨rfl, hb1⟩
    clear hpa
    go_wp2
    go_ret
    exact ⟨rfl, hb1⟩
  · cases hlb : longB 40 xs
    · by_cases hsp : (specO s.data.toList).1 = 0
      · exact partTells_good q c s xs w a h hE hx hlb (by omega) hsp
      · exact partTells_bad q c s xs w a h hE hx hlb (by omega) hsp
    · have hpa := parted_any w a h
      have hlong := fun W (hW : Below w.heap.size w W) => longRows_any (.slice q xs.length c) xs 40 W (hx.below hW) hlx (by omega)
      rw [longN_yes hlb] at hlong
      generalize xs.length = L at hx hlx hlong ⊢
      unfold maxLen at hlx hls
      have hbig' : ¬ (30 : Int) < (s.size : Int) := by omega
      clear hlb
      go_enter Tryz.func6, Tryz.ntmps6
      go_wp2_with fail
      refine hpa.mono ?_
      rintro e w1 ⟨rfl, hb1⟩
      have hl1 := hlong w1 hb1
      clear hlong hpa
      go_wp2_with fail
      refine hl1.mono ?_
      rintro e w2 ⟨rfl, rfl⟩
      clear hl1
      go_wp2
      go_ret
      exact ⟨rfl, hb1⟩
end Go.Proofs.YtgffkkijfmoooaaGreatDoor
