/-
  What the statements on scans keep between two calls: the store, the snap, its files.
-/
import Derived.Test.YtgckdomafbnmkaaGreatDoorTxnMem
namespace Go.Proofs.YtgckdomafbnmkaaGreatDoor
open Go.RowKit Go.Extern.Stop Go.Stop Go.Extern Go.Sort Go.Shelf Go.Lib

def IdxOf {β : Type} (p : β → Bool) (fs : List β) (i : Int) : Prop := (i = -1 ∧ fs.any p = false) ∨ ∃ n : Nat, ∃ h : n < fs.length, i = n ∧ p fs[n] = true ∧ (∀ j (hj : j < fs.length), j < n → p fs[j] = false) ∧ fs.any p = true

theorem no_succ {β : Type} {p : β → Bool} {fs : List β} {n : Nat} (h : ∀ j (h : j < fs.length), j < n → p fs[j] = false) (hn : n < fs.length) (e : p fs[n] = false) : ∀ j (h : j < fs.length), j < n + 1 → p fs[j] = false := fun j hj hjn => by
  by_cases e' : j = n
  · subst e'; exact e
  · exact h j hj (by omega)
theorem idx_yes {β : Type} {p : β → Bool} {fs : List β} {n : Nat} (h : ∀ j (h : j < fs.length), j < n → p fs[j] = false) (hn : n < fs.length) (e : p fs[n] = true) : IdxOf p fs n := Or.inr ⟨n, hn, rfl, e, h, List.any_eq_true.2 ⟨_, List.getElem_mem hn, e⟩⟩
theorem idx_no {β : Type} {p : β → Bool} {fs : List β} (h : ∀ j (h : j < fs.length), j < fs.length → p fs[j] = false) : IdxOf p fs (-1) := Or.inl ⟨rfl, by
  rw [List.any_eq_false]
  intro x hx
  obtain ⟨j, hj, rfl⟩ := List.mem_iff_getElem.1 hx
  rw [h j hj hj]
  simp⟩

def AskF (g : Nat) (cb : Array Value) (p : Fl → Bool) (fs : List Fl) (w : World) : Prop := ∀ f ∈ fs, ∀ W, Below w.heap.size w W → Calls Tryz.prog g (#[flV f] ++ cb) W fun e w' => e = .returned (.bool (p f)) ∧ Below W.heap.size W w'
set_option maxRecDepth 100000 in
set_option maxHeartbeats 4000000 in
theorem indexG_any (g : Nat) (cb : Array Value) (p : Fl → Bool) (v : Value) (fs : List Fl) (w : World) (hx : FlsAt w v fs) (hl : fs.length ≤ 20000) (eg : ∀ args w, (callFunc g args).run Tryz.prog w = .ok (.enter g args) w) (hp : AskF g cb p fs w) :
    Calls Tryz.prog 102 #[v, .func (.func g) #[] cb] w fun e w' => ∃ i, e = .returned (.int .i64 i) ∧ IdxOf p fs i ∧ Below w.heap.size w w' := by
  obtain ⟨q, cap, rfl⟩ := hx.form
  have HFX : Hid (FlsAt w (.slice q fs.length cap) fs) := hx
  have HP : Hid (AskF g cb p fs w) := hp
  obtain ⟨L, hL⟩ : ∃ L, fs.length = L := ⟨_, rfl⟩
  have HX : Hid (fs.length = L) := hL
  rw [hL] at hl ⊢
  clear hL hx hp
  go_enter Tryz.func102, Tryz.ntmps102
  go_wp2
  go_loopw [8] (fun k wr => ∃ n : Nat, n ≤ L ∧ k = .int .i64 n ∧ (∀ j (h : j < fs.length), j < n → p fs[j] = false) ∧ Below w.heap.size w wr) (fun k _ => L - (intOf k).toNat)
  case atStart => exact ⟨0, by omega, rfl, fun j h h' => absurd h' (Nat.not_lt_zero _), Below.refl _ _⟩
  case round =>
    obtain ⟨n, hn, rfl, hno, hb⟩ := hrel
    have HNO : Hid (∀ j (h : j < fs.length), j < n → p fs[j] = false) := hno
    clear hno
    by_cases hlt : n < L
    · have hltx : n < fs.length := by rw [HX.out]; exact hlt
      obtain ⟨b, o, hq, hc⟩ := (HFX.out.below hb).cells (fun e => by rw [e] at hltx; simp at hltx)
      subst hq
      obtain ⟨c0, c1, c2, c3, c4, c5⟩ := hc n hltx
      have hcl := HP.out fs[n] (List.getElem_mem _) wr hb
      have hi : (n : Int) < (L : Int) := by omega
      have hi0' : (0 : Int) ≤ (n : Int) := by omega
      cases he : p fs[n] with
      | true =>
        have HI : Hid (IdxOf p fs n) := idx_yes HNO.out hltx he
        rw [he] at hcl
        unfold flV at hcl
        clear hc he
        generalize fs[n] = f at c0 c1 c2 c3 c4 c5 hcl
        clear hltx
        obtain ⟨fp, fq, fn, flo, fhi, fseq⟩ := f
        dsimp only at c0 c1 c2 c3 c4 c5 hcl
        go_wp2_with (go_at_fn g; refine hcl.mono ?_; rintro e w2 ⟨rfl, hb2⟩)
        go_ret
        exact ⟨_, rfl, HI.out, hb.trans (hb2.mono hb.size)⟩
      | false =>
        have HN1 : Hid (∀ j (h : j < fs.length), j < n + 1 → p fs[j] = false) := no_succ HNO.out hltx he
        rw [he] at hcl
        unfold flV at hcl
        clear hc he
        generalize fs[n] = f at c0 c1 c2 c3 c4 c5 hcl
        clear hltx
        obtain ⟨fp, fq, fn, flo, fhi, fseq⟩ := f
        dsimp only at c0 c1 c2 c3 c4 c5 hcl
        go_wp2_with (go_at_fn g; refine hcl.mono ?_; rintro e w2 ⟨rfl, hb2⟩)
        have hb3 : Below w.heap.size w w2 := hb.trans (hb2.mono hb.size)
        go_roundw
        case rel => exact ⟨n + 1, by omega, by go_num, HN1.out, hb3⟩
        case measure => simp [intOf]; omega
    · obtain rfl : n = L := by omega
      have HI : Hid (IdxOf p fs (-1)) := idx_no (fun j hj _ => HNO.out j hj (by rw [← HX.out]; exact hj))
      go_wp2
      go_ret
      exact ⟨_, rfl, HI.out, hb⟩

set_option maxRecDepth 100000 in
set_option maxHeartbeats 1000000 in
theorem containsG_any (g : Nat) (cb : Array Value) (p : Fl → Bool) (v : Value) (fs : List Fl) (w : World) (hx : FlsAt w v fs) (hl : fs.length ≤ 20000) (eg : ∀ args w, (callFunc g args).run Tryz.prog w = .ok (.enter g args) w) (hp : AskF g cb p fs w) :
    Calls Tryz.prog 65 #[v, .func (.func g) #[] cb] w fun e w' => e = .returned (.bool (fs.any p)) ∧ Below w.heap.size w w' := by
  have hix := indexG_any g cb p v fs w hx hl eg hp
  obtain ⟨q, cap, rfl⟩ := hx.form
  generalize fs.length = L at hix ⊢
  clear hx hp eg
  go_enter Tryz.func65, Tryz.ntmps65
  go_wp2_with fail
  refine hix.mono ?_
  rintro e w1 ⟨i, rfl, hi, hb1⟩
  clear hix
  have HB : Hid (Below w.heap.size w w1) := hb1
  clear hb1
  rcases hi with ⟨rfl, ha⟩ | ⟨n, hn, rfl, -, -, ha⟩
  · have HA : Hid (_ = _) := ha
    clear ha
    go_wp2
    go_ret
    exact ⟨by rw [HA.out]; rfl, HB.out⟩
  · have HA : Hid (_ = _) := ha
    have hd : (0 : Int) ≤ (n : Int) := by omega
    clear ha hn
    go_wp2
    go_ret
    exact ⟨by rw [HA.out]; rfl, HB.out⟩

end Go.Proofs.YtgckdomafbnmkaaGreatDoor
namespace Go.Proofs.YtgckdomafbnmkaaGreatDoor
open Go.RowKit Go.Extern.Stop Go.Stop Go.Extern Go.Sort Go.Shelf Go.Lib

theorem fls_two (W : World) (x y : Fl) : FlsAt (W.alloc (.cells #[.string x.1, .string x.2.1, .int .i64 x.2.2.1, .int .i64 x.2.2.2.1, .int .i64 x.2.2.2.2.1, .int .i64 x.2.2.2.2.2, .string y.1, .string y.2.1, .int .i64 y.2.2.1, .int .i64 y.2.2.2.1, .int .i64 y.2.2.2.2.1, .int .i64 y.2.2.2.2.2] 43)) (.slice (some ⟨W.heap.size, 0, none⟩) 2 2) [x, y] := by
  refine Or.inr ⟨W.heap.size, 0, 2, rfl, Nat.le_refl _, fun j hj => ?_⟩
  match j, hj with
  | 0, _ => simp
  | 1, _ => simp

section
variable {a : Nat → Addr} {B : Nat} {EM : World → Prop} {SAt : World → Value → (Nat → Prop) → St → Prop}
theorem ScanK.up (K : ScanK a EM SAt) (n : Nat) : ScanK a (upE EM n) SAt where
  rows := fun W v FP st s vf lo hi h => K.rows W v FP st s vf lo hi h.1
  rows0 := fun W s vf lo hi h => K.rows0 W s vf lo hi h.1

end
end Go.Proofs.YtgckdomafbnmkaaGreatDoor
namespace Go.Proofs.YtgckdomafbnmkaaGreatDoor
open Go.RowKit Go.Extern.Stop Go.Stop Go.Extern Go.Sort Go.Shelf Go.Lib

def longFs (fs : List Fl) : Bool := (decide (40 < fs.length) && decide (fs.length ≠ 60) && decide (fs.length ≠ 61)) || fs.any longFB

theorem anyLong_succ {fs : List Fl} {n : Nat} (h : ∀ j (h : j < fs.length), j < n → longFB fs[j] = false) (hn : n < fs.length) (e : longFB fs[n] = false) : ∀ j (h : j < fs.length), j < n + 1 → longFB fs[j] = false := fun j hj hjn => by
  rcases Nat.lt_or_ge j n with h' | h'
  · exact h j hj h'
  · obtain rfl : j = n := by omega
    exact e

set_option maxRecDepth 100000 in
set_option maxHeartbeats 4000000 in
theorem longFiles_any (v : Value) (fs : List Fl) (w : World) (hx : FlsAt w v fs) (hl : fs.length ≤ maxLen) (hsz : ∀ f ∈ fs, f.1.size ≤ maxLen ∧ f.2.1.size ≤ maxLen) :
    Calls Tryz.prog 18 #[v] w fun e w' => e = .returned (.int .i64 (if longFs fs then 1 else 0)) ∧ Below w.heap.size w w' := by
  obtain ⟨q, cap, rfl⟩ := hx.form
  have HFX : Hid (FlsAt w (.slice q fs.length cap) fs) := hx
  have HSZ : Hid (∀ f ∈ fs, f.1.size ≤ maxLen ∧ f.2.1.size ≤ maxLen) := hsz
  obtain ⟨L, hL⟩ : ∃ L, fs.length = L := ⟨_, rfl⟩
  have HX : Hid (fs.length = L) := hL
  rw [hL] at hl ⊢
  unfold maxLen at hl
  generalize hR : (if longFs fs then (1 : Int) else 0) = R
  have HR : Hid ((if longFs fs then (1 : Int) else 0) = R) := hR
  clear hL hx hsz hR
  by_cases hbig : 40 < L ∧ L ≠ 60 ∧ L ≠ 61
  · have hRR : R = 1 := by
      rw [← HR.out, if_pos]
      unfold longFs
      rw [HX.out]
      simp [hbig.1, hbig.2.1, hbig.2.2]
    subst hRR
    obtain ⟨b1, b2, b3⟩ := hbig
    have i1 : (40 : Int) < (L : Int) := by omega
    have j2 : ((L : Int) != 60) = true := by simp; omega
    have j3 : ((L : Int) != 61) = true := by simp; omega
    go_enter Tryz.func18, Tryz.ntmps18
    go_wp2
    go_ret
    exact ⟨rfl, Below.refl _ _⟩
  · have HS : Hid ((decide (40 < fs.length) && decide (fs.length ≠ 60) && decide (fs.length ≠ 61)) = false) := by
      show _ = _
      rw [HX.out]
      rw [Bool.eq_false_iff]
      intro h
      simp only [Bool.and_eq_true, decide_eq_true_eq] at h
      exact hbig ⟨h.1.1, h.1.2, h.2⟩
    have hc3 : (¬ (40 : Int) < (L : Int)) ∨ ((40 : Int) < (L : Int) ∧ (L : Int) = 60) ∨ ((40 : Int) < (L : Int) ∧ ¬ (L : Int) = 60 ∧ (L : Int) = 61) := by omega
    clear hbig
    rcases hc3 with i1 | ⟨i1, i2⟩ | ⟨i1, i2, i3⟩
    · skip
      go_enter Tryz.func18, Tryz.ntmps18
      go_wp2
      go_loopw [3] (fun k wr => ∃ n : Nat, n ≤ L ∧ k = .int .i64 n ∧ (∀ j (h : j < fs.length), j < n → longFB fs[j] = false) ∧ Below w.heap.size w wr) (fun k _ => L - (intOf k).toNat)
      case atStart => exact ⟨0, by omega, rfl, fun j h h' => absurd h' (Nat.not_lt_zero _), Below.refl _ _⟩
      case round =>
        obtain ⟨n, hn, rfl, hno, hb⟩ := hrel
        have HNO : Hid (∀ j (h : j < fs.length), j < n → longFB fs[j] = false) := hno
        clear hno
        by_cases hlt : n < L
        · have hltx : n < fs.length := by rw [HX.out]; exact hlt
          obtain ⟨b, o, hq, hc⟩ := (HFX.out.below hb).cells (fun e => by rw [e] at hltx; simp at hltx)
          subst hq
          obtain ⟨c0, c1, c2, c3, c4, c5⟩ := hc n hltx
          obtain ⟨k1, k2⟩ := HSZ.out fs[n] (List.getElem_mem _)
          have hlf := longFile_any fs[n] wr k1 k2
          have hyes : longFB fs[n] = true → R = 1 := fun e => by
            rw [← HR.out, if_pos]
            unfold longFs
            rw [Bool.or_eq_true]
            exact Or.inr (List.any_eq_true.2 ⟨fs[n], List.getElem_mem _, e⟩)
          have hnx := fun e => anyLong_succ HNO.out hltx e
          unfold flV at hlf
          generalize longFB fs[n] = lb at hlf hyes hnx
          generalize fs[n] = f at c0 c1 c2 c3 c4 c5 hlf
          obtain ⟨fp, fq, fn, flo, fhi, fseq⟩ := f
          dsimp only at c0 c1 c2 c3 c4 c5 hlf
          have hiL : (n : Int) < (L : Int) := by omega
          have hi0' : (0 : Int) ≤ (n : Int) := by omega
          clear hc k1 k2 hltx
          cases lb with
          | true =>
            obtain rfl := hyes rfl
            simp only [if_true] at hlf
            clear hyes hnx
            go_wp2_with fail
            refine hlf.mono ?_
            rintro e w3 ⟨rfl, hb3⟩
            clear hlf
            go_wp2
            go_ret
            exact ⟨rfl, hb.trans (hb3.mono hb.size)⟩
          | false =>
            have HNX : Hid (∀ j (h : j < fs.length), j < n + 1 → longFB fs[j] = false) := hnx rfl
            simp only [Bool.false_eq_true, if_false] at hlf
            clear hyes hnx
            go_wp2_with fail
            refine hlf.mono ?_
            rintro e w3 ⟨rfl, hb3⟩
            clear hlf
            have hb4 : Below w.heap.size w w3 := hb.trans (hb3.mono hb.size)
            go_wp2
            go_roundw
            case rel => exact ⟨n + 1, by omega, by go_num, HNX.out, hb4⟩
            case measure => simp [intOf]; omega
        · obtain rfl : n = L := by omega
          have hRR : R = 0 := by
            rw [← HR.out, if_neg]
            unfold longFs
            rw [HS.out, Bool.false_or]
            intro h
            obtain ⟨f, hf, e⟩ := List.any_eq_true.1 h
            obtain ⟨j, hj, rfl⟩ := List.mem_iff_getElem.1 hf
            rw [HNO.out j hj (by rw [← HX.out]; exact hj)] at e
            cases e
          subst hRR
          go_wp2
          go_ret
          exact ⟨rfl, hb⟩
    · have j2 : ((L : Int) != 60) = false := by rw [i2]; rfl
      go_enter Tryz.func18, Tryz.ntmps18
      go_wp2
      go_loopw [3] (fun k wr => ∃ n : Nat, n ≤ L ∧ k = .int .i64 n ∧ (∀ j (h : j < fs.length), j < n → longFB fs[j] = false) ∧ Below w.heap.size w wr) (fun k _ => L - (intOf k).toNat)
      case atStart => exact ⟨0, by omega, rfl, fun j h h' => absurd h' (Nat.not_lt_zero _), Below.refl _ _⟩
      case round =>
        obtain ⟨n, hn, rfl, hno, hb⟩ := hrel
        have HNO : Hid (∀ j (h : j < fs.length), j < n → longFB fs[j] = false) := hno
        clear hno
        by_cases hlt : n < L
        · have hltx : n < fs.length := by rw [HX.out]; exact hlt
          obtain ⟨b, o, hq, hc⟩ := (HFX.out.below hb).cells (fun e => by rw [e] at hltx; simp at hltx)
          subst hq
          obtain ⟨c0, c1, c2, c3, c4, c5⟩ := hc n hltx
          obtain ⟨k1, k2⟩ := HSZ.out fs[n] (List.getElem_mem _)
          have hlf := longFile_any fs[n] wr k1 k2
          have hyes : longFB fs[n] = true → R = 1 := fun e => by
            rw [← HR.out, if_pos]
            unfold longFs
            rw [Bool.or_eq_true]
            exact Or.inr (List.any_eq_true.2 ⟨fs[n], List.getElem_mem _, e⟩)
          have hnx := fun e => anyLong_succ HNO.out hltx e
          unfold flV at hlf
          generalize longFB fs[n] = lb at hlf hyes hnx
          generalize fs[n] = f at c0 c1 c2 c3 c4 c5 hlf
          obtain ⟨fp, fq, fn, flo, fhi, fseq⟩ := f
          dsimp only at c0 c1 c2 c3 c4 c5 hlf
          have hiL : (n : Int) < (L : Int) := by omega
          have hi0' : (0 : Int) ≤ (n : Int) := by omega
          clear hc k1 k2 hltx
          cases lb with
          | true =>
            obtain rfl := hyes rfl
            simp only [if_true] at hlf
            clear hyes hnx
            go_wp2_with fail
            refine hlf.mono ?_
            rintro e w3 ⟨rfl, hb3⟩
            clear hlf
            go_wp2
            go_ret
            exact ⟨rfl, hb.trans (hb3.mono hb.size)⟩
          | false =>
            have HNX : Hid (∀ j (h : j < fs.length), j < n + 1 → longFB fs[j] = false) := hnx rfl
            simp only [Bool.false_eq_true, if_false] at hlf
            clear hyes hnx
            go_wp2_with fail
            refine hlf.mono ?_
            rintro e w3 ⟨rfl, hb3⟩
            clear hlf
            have hb4 : Below w.heap.size w w3 := hb.trans (hb3.mono hb.size)
            go_wp2
            go_roundw
            case rel => exact ⟨n + 1, by omega, by go_num, HNX.out, hb4⟩
            case measure => simp [intOf]; omega
        · obtain rfl : n = L := by omega
          have hRR : R = 0 := by
            rw [← HR.out, if_neg]
            unfold longFs
            rw [HS.out, Bool.false_or]
            intro h
            obtain ⟨f, hf, e⟩ := List.any_eq_true.1 h
            obtain ⟨j, hj, rfl⟩ := List.mem_iff_getElem.1 hf
            rw [HNO.out j hj (by rw [← HX.out]; exact hj)] at e
            cases e
          subst hRR
          go_wp2
          go_ret
          exact ⟨rfl, hb⟩
    · have j2 : ((L : Int) != 60) = true := by simp [i2]
      have j3 : ((L : Int) != 61) = false := by rw [i3]; rfl
      go_enter Tryz.func18, Tryz.ntmps18
      go_wp2
      go_loopw [3] (fun k wr => ∃ n : Nat, n ≤ L ∧ k = .int .i64 n ∧ (∀ j (h : j < fs.length), j < n → longFB fs[j] = false) ∧ Below w.heap.size w wr) (fun k _ => L - (intOf k).toNat)
      case atStart => exact ⟨0, by omega, rfl, fun j h h' => absurd h' (Nat.not_lt_zero _), Below.refl _ _⟩
      case round =>
        obtain ⟨n, hn, rfl, hno, hb⟩ := hrel
        have HNO : Hid (∀ j (h : j < fs.length), j < n → longFB fs[j] = false) := hno
        clear hno
        by_cases hlt : n < L
        · have hltx : n < fs.length := by rw [HX.out]; exact hlt
          obtain ⟨b, o, hq, hc⟩ := (HFX.out.below hb).cells (fun e => by rw [e] at hltx; simp at hltx)
          subst hq
          obtain ⟨c0, c1, c2, c3, c4, c5⟩ := hc n hltx
          obtain ⟨k1, k2⟩ := HSZ.out fs[n] (List.getElem_mem _)
          have hlf := longFile_any fs[n] wr k1 k2
          have hyes : longFB fs[n] = true → R = 1 := fun e => by
            rw [← HR.out, if_pos]
            unfold longFs
            rw [Bool.or_eq_true]
            exact Or.inr (List.any_eq_true.2 ⟨fs[n], List.getElem_mem _, e⟩)
          have hnx := fun e => anyLong_succ HNO.out hltx e
          unfold flV at hlf
          generalize longFB fs[n] = lb at hlf hyes hnx
          generalize fs[n] = f at c0 c1 c2 c3 c4 c5 hlf
          obtain ⟨fp, fq, fn, flo, fhi, fseq⟩ := f
          dsimp only at c0 c1 c2 c3 c4 c5 hlf
          have hiL : (n : Int) < (L : Int) := by omega
          have hi0' : (0 : Int) ≤ (n : Int) := by omega
          clear hc k1 k2 hltx
          cases lb with
          | true =>
            obtain rfl := hyes rfl
            simp only [if_true] at hlf
            clear hyes hnx
            go_wp2_with fail
            refine hlf.mono ?_
            rintro e w3 ⟨rfl, hb3⟩
            clear hlf
            go_wp2
            go_ret
            exact ⟨rfl, hb.trans (hb3.mono hb.size)⟩
          | false =>
            have HNX : Hid (∀ j (h : j < fs.length), j < n + 1 → longFB fs[j] = false) := hnx rfl
            simp only [Bool.false_eq_true, if_false] at hlf
            clear hyes hnx
            go_wp2_with fail
            refine hlf.mono ?_
            rintro e w3 ⟨rfl, hb3⟩
            clear hlf
            have hb4 : Below w.heap.size w w3 := hb.trans (hb3.mono hb.size)
            go_wp2
            go_roundw
            case rel => exact ⟨n + 1, by omega, by go_num, HNX.out, hb4⟩
            case measure => simp [intOf]; omega
        · obtain rfl : n = L := by omega
          have hRR : R = 0 := by
            rw [← HR.out, if_neg]
            unfold longFs
            rw [HS.out, Bool.false_or]
            intro h
            obtain ⟨f, hf, e⟩ := List.any_eq_true.1 h
            obtain ⟨j, hj, rfl⟩ := List.mem_iff_getElem.1 hf
            rw [HNO.out j hj (by rw [← HX.out]; exact hj)] at e
            cases e
          subst hRR
          go_wp2
          go_ret
          exact ⟨rfl, hb⟩
end Go.Proofs.YtgckdomafbnmkaaGreatDoor
namespace Go.Proofs.YtgckdomafbnmkaaGreatDoor
open Go.RowKit Go.Extern.Stop Go.Stop Go.Extern Go.Sort Go.Shelf Go.Lib

def oneF (n : UInt8) : Fl := (⟨#[100, 97, 116, 97, 47, n]⟩, ⟨#[97]⟩, 1, 0, 0, 1)

theorem dig_o (d : Nat) (h : d < 10) : decDigits d = [UInt8.ofNat (48 + d)] := by rw [decDigits, dif_pos h]
theorem on_1 : itoa 1 = [49] := by
  have h : decDigits 1 = [49] := dig_o 1 (by decide)
  simp [itoa, h]
theorem on_2 : itoa 2 = [50] := by
  have h : decDigits 2 = [50] := dig_o 2 (by decide)
  simp [itoa, h]
theorem on_path1 : pathO (oneF 49).1.data.toList = some (false, 1) := by
  have h := path_of false [49]
  have hn : numO [49] = some 1 := by rw [← on_1]; exact numO_itoa 1 (by decide)
  have hp : pathN [49] = some 1 := by unfold pathN; rw [hn]; rfl
  rw [hp] at h
  exact h
theorem on_path2 : pathO (oneF 50).1.data.toList = some (false, 2) := by
  have h := path_of false [50]
  have hn : numO [50] = some 2 := by rw [← on_2]; exact numO_itoa 2 (by decide)
  have hp : pathN [50] = some 2 := by unfold pathN; rw [hn]; rfl
  rw [hp] at h
  exact h
theorem on_ok1 : fileE (oneF 49) = 0 := by
  unfold fileE
  rw [on_path1]
  decide
theorem on_fk1 : fk (oneF 49) = 1 := by unfold fk; rw [(pk_some on_path1).1]; rfl
theorem on_fk2 : fk (oneF 50) = 2 := by unfold fk; rw [(pk_some on_path2).1]; rfl
end Go.Proofs.YtgckdomafbnmkaaGreatDoor
namespace Go.Proofs.YtgckdomafbnmkaaGreatDoor
open Go.RowKit Go.Extern.Stop Go.Stop Go.Extern Go.Sort Go.Shelf Go.Lib

def longSn (s : Sn) : Bool := decide (30 < s.2.2.2.2.2.1.size) || longFs s.2.2.2.2.2.2
set_option maxRecDepth 100000 in
set_option maxHeartbeats 2000000 in
theorem longSnap_any (s : Sn) (vf : Value) (w : World) (hx : FlsAt w vf s.2.2.2.2.2.2) (ho : s.2.2.2.2.2.1.size ≤ maxLen) (hl : s.2.2.2.2.2.2.length ≤ maxLen) (hsz : ∀ f ∈ s.2.2.2.2.2.2, f.1.size ≤ maxLen ∧ f.2.1.size ≤ maxLen) :
    Calls Tryz.prog 8 #[snV s vf] w fun e w' => e = .returned (.int .i64 (if longSn s then 1 else 0)) ∧ Below w.heap.size w w' := by
  have hlf := fun W (hb : Below w.heap.size w W) => longFiles_any vf s.2.2.2.2.2.2 W (hx.below hb) hl hsz
  generalize hR : (if longSn s then (1 : Int) else 0) = R
  have hbg : 30 < s.2.2.2.2.2.1.size → R = 1 := fun e => by rw [← hR, if_pos]; unfold longSn; simp [e]
  have hsm : ¬ 30 < s.2.2.2.2.2.1.size → R = if longFs s.2.2.2.2.2.2 then 1 else 0 := fun e => by rw [← hR]; unfold longSn; simp [e]
  unfold maxLen at ho
  obtain ⟨q, cap, rfl⟩ := hx.form
  clear hR hx hsz
  obtain ⟨id, par, seq, day, idx, op, fs⟩ := s
  unfold snV
  dsimp only at *
  generalize (if longFs fs then (1 : Int) else 0) = LF at *
  generalize fs.length = L at *
  have hal : Below w.heap.size w (w.alloc (.cells #[.int .i64 id, .int .i64 par, .int .i64 seq, .int .i64 day, .int .i64 idx, .string op, .slice q L cap] 25)) := (Below.refl _ _).alloc (Nat.le_refl _) _
  by_cases hb : 30 < op.size
  · obtain rfl := hbg hb
    have hi : (30 : Int) < (op.size : Int) := by omega
    clear hbg hsm hlf hb
    go_enter Tryz.func8, Tryz.ntmps8
    go_wp2
    go_ret
    exact ⟨rfl, hal⟩
  · obtain rfl := hsm hb
    have hi : ¬ (30 : Int) < (op.size : Int) := by omega
    have hl1 := hlf _ hal
    clear hbg hsm hlf hb
    go_enter Tryz.func8, Tryz.ntmps8
    go_wp2_with fail
    generalize w.alloc (.cells #[.int .i64 id, .int .i64 par, .int .i64 seq, .int .i64 day, .int .i64 idx, .string op, .slice q L cap] 25) = WA at hal hl1 ⊢
    refine hl1.mono ?_
    rintro e w1 ⟨rfl, hb1⟩
    go_wp2
    go_ret
    exact ⟨rfl, hal.trans (hb1.mono hal.size)⟩

set_option maxRecDepth 100000 in
set_option maxHeartbeats 4000000 in
theorem ownSnap_any (s : Sn) (vf : Value) (w : World) (hx : FlsAt w vf s.2.2.2.2.2.2) (hl : s.2.2.2.2.2.2.length ≤ 1000) :
    Calls Tryz.prog 15 #[snV s vf] w fun e w' => ∃ v', e = .returned (snV s v') ∧ FlsAt w' v' s.2.2.2.2.2.2 ∧ Below w.heap.size w w' := by
  have how := fun W (hb : Below w.heap.size w W) => ownFiles_any vf s.2.2.2.2.2.2 W (hx.below hb) hl
  obtain ⟨q, cap, rfl⟩ := hx.form
  clear hx
  obtain ⟨id, par, seq, day, idx, op, fs⟩ := s
  unfold snV
  dsimp only at *
  have hal : Below w.heap.size w ((w.alloc (.cells #[.int .i64 id, .int .i64 par, .int .i64 seq, .int .i64 day, .int .i64 idx, .string op, .slice q fs.length cap] 25)).alloc (.cells #[.int .i64 0, .int .i64 0, .int .i64 0, .int .i64 0, .int .i64 0, .string ⟨#[]⟩, .slice none 0 0] 25)) := ((Below.refl _ _).alloc (Nat.le_refl _) _).alloc (by simp) _
  have hsn : SnAt ((w.alloc (.cells #[.int .i64 id, .int .i64 par, .int .i64 seq, .int .i64 day, .int .i64 idx, .string op, .slice q fs.length cap] 25)).alloc (.cells #[.int .i64 0, .int .i64 0, .int .i64 0, .int .i64 0, .int .i64 0, .string ⟨#[]⟩, .slice none 0 0] 25)) w.heap.size (id, par, seq, day, idx, op, fs) (.slice q fs.length cap) := heap_alloc2_old w _ _
  have hz : SnAt ((w.alloc (.cells #[.int .i64 id, .int .i64 par, .int .i64 seq, .int .i64 day, .int .i64 idx, .string op, .slice q fs.length cap] 25)).alloc (.cells #[.int .i64 0, .int .i64 0, .int .i64 0, .int .i64 0, .int .i64 0, .string ⟨#[]⟩, .slice none 0 0] 25)) (w.heap.size + 1) zeroS (.slice none 0 0) := heap_alloc2_new w _ _
  have ho1 := how _ hal
  clear how
  obtain ⟨L, hL⟩ : ∃ L, fs.length = L := ⟨_, rfl⟩
  have HL : Hid (fs.length = L) := hL
  rw [hL] at hal hsn hz ho1 hl ⊢
  clear hL
  go_enter Tryz.func15, Tryz.ntmps15
  go_upto_region 1 with fail
  generalize (w.alloc (.cells #[.int .i64 id, .int .i64 par, .int .i64 seq, .int .i64 day, .int .i64 idx, .string op, .slice q L cap] 25)).alloc (.cells #[.int .i64 0, .int .i64 0, .int .i64 0, .int .i64 0, .int .i64 0, .string ⟨#[]⟩, .slice none 0 0] 25) = WA at hal hsn hz ho1 ⊢
  have z6 := hsn.cells.2.2.2.2.2.2
  go_wp2_with fail
  refine ho1.mono ?_
  rintro e w1 ⟨v', rfl, ow, hb1⟩
  clear ho1 z6
  have hv1 : FlsAt w1 v' fs := (flsAt_of_own ow).1
  have hB1 : Below w.heap.size w w1 := hal.trans (hb1.mono hal.size)
  have hs1 := hsn.below hb1
  have hz1 := hz.below hb1
  clear hsn hz hb1 hal ow
  obtain ⟨qv, cv, hq⟩ := hv1.form
  subst hq
  have hoS := off_of hs1 hv1
  have hv2 := hv1.set_off hoS 6 (.slice qv fs.length cv)
  have hs2 : SnAt (w1.setCell ⟨w.heap.size, 6, none⟩ (.slice qv fs.length cv)) w.heap.size (id, par, seq, day, idx, op, fs) (.slice qv fs.length cv) := by
    have := hs1
    unfold SnAt at *
    rw [heap_setCell_same _ _ _ _ _ _ this]; rfl
  have hz2 := sn_other hz1 (show w.heap.size ≠ w.heap.size + 1 by omega) 6 (.slice qv fs.length cv)
  have hB2 : Below w.heap.size w (w1.setCell ⟨w.heap.size, 6, none⟩ (.slice qv fs.length cv)) := hB1.setCell (Nat.le_refl _) _
  have fS := hs1.fz
  have x6 := hs1.cells.2.2.2.2.2.2
  clear hs1 hz1 hv1 hB1 hoS
  rw [HL.out] at hv2 hs2 hz2 hB2 ⊢
  go_upto_region 2 with fail
  generalize w1.setCell ⟨w.heap.size, 6, none⟩ (.slice qv L cv) = w2 at hv2 hs2 hz2 hB2 ⊢
  clear fS x6
  obtain ⟨p0, p1, p2, p3, p4, p5, p6⟩ := hs2.cells
  dsimp only at p0 p1 p2 p3 p4 p5
  have hoZ := off_of hz2 hv2
  have hle : w.heap.size ≤ w.heap.size + 1 := Nat.le_succ _
  have fz := hz2.fz
  obtain ⟨y0, y1, y2, y3, y4, y5, y6⟩ := hz2.cells
  have HV3 := (((((((hv2.set_off hoZ 0 (.int .i64 id)).set_off hoZ 1 (.int .i64 par)).set_off hoZ 2 (.int .i64 seq)).set_off hoZ 3 (.int .i64 day)).set_off hoZ 4 (.int .i64 idx)).set_off hoZ 5 (.string op)).set_off hoZ 6 (.slice qv L cv))
  obtain ⟨u0, u1, u2, u3, u4, u5, u6⟩ := (hz2.set (id, par, seq, day, idx, op, fs) (.slice qv L cv)).cells
  have hB3 := snSet_below (s := (id, par, seq, day, idx, op, fs)) (vf := .slice qv L cv) hB2 hle
  unfold snSet at u0 u1 u2 u3 u4 u5 u6 hB3
  dsimp only at u0 u1 u2 u3 u4 u5 hB3 y0 y1 y2 y3 y4 y5
  clear hz2 hs2 hv2 hoZ
  go_wp2
  refine bodyPost_ret (v := .agg #[.int .i64 id, .int .i64 par, .int .i64 seq, .int .i64 day, .int .i64 idx, .string op, .slice qv L cv]) (by simp [results, Tryz.results15, go_sem, u0, u1, u2, u3, u4, u5, u6]) rfl ?_
  exact ⟨.slice qv L cv, rfl, HV3, hB3⟩
end Go.Proofs.YtgckdomafbnmkaaGreatDoor
namespace Go.Proofs.YtgckdomafbnmkaaGreatDoor
open Go.RowKit Go.Extern.Stop Go.Stop Go.Extern Go.Sort Go.Shelf Go.Lib

theorem tab_all {l : List Pc} (h : pcsLong l = false) : TabOk (tabT l) l.length ∧ l.length ≤ 15 ∧ TabX (tabT l) l.length := by
  unfold pcsLong at h
  rw [Bool.or_eq_false_iff, decide_eq_false_iff_not] at h
  have hp : ∀ p ∈ l, pcLong p = false := fun p hp => by
    have := List.any_eq_false.1 h.2 p hp
    simpa using this
  have hl : l.length ≤ 15 := by omega
  have h1 := tabT_ok hp l.length (Nat.le_refl _)
  have h2 := tabX hp hl l.length (Nat.le_refl _)
  rw [List.take_length] at h1 h2
  exact ⟨h1, hl, h2⟩
theorem tab_short {l : List Pc} (h : pcsLong l = false) : (tabT l).1.length ≤ 15 ∧ Short (tabT l).1 := by
  obtain ⟨h1, h2, -⟩ := tab_all h
  exact ⟨Nat.le_trans h1.many h2, fun g hg => by have := h1.size g hg; omega⟩
structure ScI (EM : World → Prop) (SAt : World → Value → (Nat → Prop) → St → Prop) (w W : World) (v : Value) (FP : Nat → Prop) (st : St) (sb : Nat) (s : Sn) (vf : Value) : Prop where
  ok : SOk (upE EM w.heap.size) SAt w.heap.size w W v FP st
  off : ¬ FP sb
  le : w.heap.size ≤ sb
  snap : SnAt W sb s vf
  files : FlsAt W vf s.2.2.2.2.2.2
section
variable {a : Nat → Addr} {B : Nat} {EM : World → Prop} {SAt : World → Value → (Nat → Prop) → St → Prop}
theorem SOk.but {w W W' : World} {v : Value} {FP P : Nat → Prop} {st : St} (K : StoreK a w.heap.size (upE EM w.heap.size) SAt) (h : SOk (upE EM w.heap.size) SAt w.heap.size w W v FP st) (hb : But P W W') (hp : ∀ k, P k → w.heap.size ≤ k) (hn : ∀ k, FP k → ¬ P k) : SOk (upE EM w.heap.size) SAt w.heap.size w W' v FP st := by
  have hbl := hb.below (K.size _ h.env) hp
  exact ⟨K.below _ _ h.env hbl, h.frame.trans hbl, Nat.le_refl _, K.keep _ _ _ _ P _ h.at_ hb hn, h.new⟩
theorem ScI.quiet {w W W' : World} {v : Value} {FP : Nat → Prop} {st : St} {sb : Nat} {s : Sn} {vf : Value} (K : StoreK a w.heap.size (upE EM w.heap.size) SAt) (h : ScI EM SAt w W v FP st sb s vf) (hb : Below W.heap.size W W') : ScI EM SAt w W' v FP st sb s vf :=
  ⟨h.ok.quiet K hb, h.off, h.le, h.snap.below hb, h.files.below hb⟩
theorem SnAt.set6 {W : World} {sb : Nat} {id par seq day idx : Int} {op : ByteArray} {fs gs : List Fl} {v vg : Value} (h : SnAt W sb (id, par, seq, day, idx, op, fs) v) : SnAt (W.setCell ⟨sb, 6, none⟩ vg) sb (id, par, seq, day, idx, op, gs) vg := by
  unfold SnAt at *
  rw [heap_setCell_same _ _ _ _ _ _ h]
  rfl
theorem ScI.set {w W : World} {v : Value} {FP : Nat → Prop} {st : St} {sb : Nat} {id par seq day idx : Int} {op : ByteArray} {fs gs : List Fl} {q : Option Addr} {n c : Nat} {vg : Value} (K : StoreK a w.heap.size (upE EM w.heap.size) SAt) (h : SOk (upE EM w.heap.size) SAt w.heap.size w W v FP st) (ho : ¬ FP sb) (hle : w.heap.size ≤ sb) (hs : SnAt W sb (id, par, seq, day, idx, op, fs) (.slice q n c)) (hg : FlsAt W vg gs) : ScI EM SAt w (W.setCell ⟨sb, 6, none⟩ vg) v FP st sb (id, par, seq, day, idx, op, gs) vg := by
  have hb : But (fun k => k = sb) W (W.setCell ⟨sb, 6, none⟩ vg) := (But.refl (fun k => k = sb) W).setCell (b := sb) (o := 6) (Or.inl rfl) _
  exact ⟨h.but K hb (fun k e => e ▸ hle) (fun k hk e => ho (e ▸ hk)), ho, hle, hs.set6, hg.set_off (off_of hs hg) 6 vg⟩
theorem tab_ok {w w2 W : World} {v : Value} {FP : Nat → Prop} {fs : List Fl} {s r : St} {b : Nat} {vf : Value} (h : TabI (upE EM w2.heap.size) SAt w2.heap.size w2 W v FP fs s r b vf) (hb : Below w.heap.size w w2) : SOk (upE EM w.heap.size) SAt w.heap.size w W v FP s ∧ (∀ k, k < w2.heap.size → ¬ FP k) := by
  obtain ⟨h1, h2, h3, h4, h5⟩ := h.both.ok
  exact ⟨⟨⟨h1.1, Nat.le_trans hb.size h1.2⟩, hb.trans (h2.mono hb.size), Nat.le_refl _, h4, fun k hk => Nat.le_trans hb.size (h5 k hk)⟩, fun k hk hF => by have := h5 k hF; omega⟩
end
section
variable {P : Program} (w : World)
end
theorem wpList_append_run {P : Program} {w w' : World} {ops : Array Oper} {rest : List Oper} {o : Oper} {a : Act} {Q : Exit → Act → World → Prop} (hgd : o.guard = none) (s x : Operand) (t : TypeId)
    (ho : o.op = .call { callee := .builtin .append, args := #[s, x], argTypes := #[t, t] }) (v u v' : Value) (hs : a.eval s = v) (hx : a.eval x = u) (hr : (Builtin.append_ #[t, t] o.type #[v, u]).run P w = .ok v' w')
    (h : wpList P ops Q rest (a.put o.dst v') w') : wpList P ops Q (o :: rest) a w := by
  refine wpList_plain hgd fun K hK => ?_
  unfold Oper.wp execOp
  simp only [ho, resolve, invoke, builtin, Sem.run_bind, Sem.run_pure, Result.andThen_ok, List.map_toArray, List.map_cons, List.map_nil, hs, hx, hr]
  exact hK _ _ h
end Go.Proofs.YtgckdomafbnmkaaGreatDoor
