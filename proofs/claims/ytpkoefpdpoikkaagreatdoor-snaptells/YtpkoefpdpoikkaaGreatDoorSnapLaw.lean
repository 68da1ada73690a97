/-
  What the statements on snaps ask of the program's functions, in one word; the closed fact of the statements; LongSnap and OwnSnap.
-/
import Derived.Test.YtpkoefpdpoikkaaGreatDoorSnapTold
namespace Go.Proofs.YtpkoefpdpoikkaaGreatDoor
open Go.RowKit Go.Extern.Stop Go.Stop Go.Extern Go.Sort Go.Shelf Go.Lib

set_option maxRecDepth 100000 in
set_option maxHeartbeats 1000000 in
theorem faulted2_same (v : Value) (x y : Int) (w : World)
    (hc : Calls Tryz.prog 78 #[v] (w.alloc (.cells #[.int .i64 x, .int .i64 y] 64)) fun e w' => e = .returned (.tuple #[.int .i64 x, .int .i64 y]) ∧ Below (w.alloc (.cells #[.int .i64 x, .int .i64 y] 64)).heap.size (w.alloc (.cells #[.int .i64 x, .int .i64 y] 64)) w') :
    Calls Tryz.prog 37 #[v, .agg #[.int .i64 x, .int .i64 y]] w fun e w' => e = .returned (.bool true) ∧ Below w.heap.size w w' := by
  have hal : Below w.heap.size w (w.alloc (.cells #[.int .i64 x, .int .i64 y] 64)) := (Below.refl _ _).alloc (Nat.le_refl _) _
  have x0 : (w.alloc (.cells #[.int .i64 x, .int .i64 y] 64)).cell? ⟨w.heap.size, 0, none⟩ = some (.int .i64 x) := by simp
  have x1 : (w.alloc (.cells #[.int .i64 x, .int .i64 y] 64)).cell? ⟨w.heap.size, 1, none⟩ = some (.int .i64 y) := by simp
  go_enter Tryz.func37, Tryz.ntmps37
  go_wp2_with fail
  refine hc.mono ?_
  rintro e w1 ⟨rfl, hb1⟩
  clear hc
  have y0 := below_keep hb1 x0
  have y1 := below_keep hb1 x1
  have hB : Below w.heap.size w w1 := hal.trans (hb1.mono hal.size)
  clear x0 x1
  by_cases hx : x = 0
  · subst hx
    go_wp2
    go_ret
    exact ⟨rfl, hB⟩
  · go_wp2
    go_ret
    exact ⟨by simp, hB⟩

theorem faulted2_err (n : Nat) (hn : n ≤ 12) (w : World) (a : Nat → Addr) (h : Errs w a) :
    Calls Tryz.prog 37 #[errV a n, .agg #[.int .i64 n, .int .i64 (-1)]] w fun e w' => e = .returned (.bool true) ∧ Below w.heap.size w w' :=
  faulted2_same _ _ _ w (err_code n hn _ a (h.below ((Below.refl _ _).alloc (Nat.le_refl _) _)))

theorem faulted2_at (n : Nat) (h0 : n ≠ 0) (hn : n ≤ 12) (w : World) (a : Nat → Addr) (h : Errs w a) (fb : Nat) (j : Int) (c0 : w.cell? ⟨fb, 0, none⟩ = some (.int .i64 j)) (c1 : w.cell? ⟨fb, 1, none⟩ = some (errV a n)) :
    Calls Tryz.prog 37 #[.iface 108 (.pointer (some ⟨fb, 0, none⟩)), .agg #[.int .i64 n, .int .i64 j]] w fun e w' => e = .returned (.bool true) ∧ Below w.heap.size w w' :=
  faulted2_same _ _ _ w (fault_code n h0 hn _ a (h.below ((Below.refl _ _).alloc (Nat.le_refl _) _)) fb j (below_keep ((Below.refl _ _).alloc (Nat.le_refl _) _) c0) (below_keep ((Below.refl _ _).alloc (Nat.le_refl _) _) c1))

def longFs (fs : List Fl) : Bool := (decide (40 < fs.length) && decide (fs.length ≠ 60) && decide (fs.length ≠ 61)) || fs.any longFB

theorem longFs_no {fs : List Fl} (h : longFs fs = false) : fs.length ≤ 61 ∧ ∀ f ∈ fs, f.1.size ≤ 30 ∧ f.2.1.size ≤ 30 := by
  unfold longFs at h
  rw [Bool.or_eq_false_iff] at h
  refine ⟨?_, fun f hf => ?_⟩
  · have h1 := h.1
    rcases Nat.lt_or_ge 40 fs.length with h' | h'
    · simp only [h', decide_true, Bool.true_and] at h1
      simp at h1
      omega
    · omega
  · have := List.any_eq_false.1 h.2 f hf
    simp only [longFB, Bool.or_eq_true, decide_eq_true_eq, not_or] at this
    omega

theorem anyLong_succ {fs : List Fl} {n : Nat} (h : ∀ j (h : j < fs.length), j < n → longFB fs[j] = false) (hn : n < fs.length) (e : longFB fs[n] = false) : ∀ j (h : j < fs.length), j < n + 1 → longFB fs[j] = false := fun j hj hjn => by
  rcases Nat.lt_or_ge j n with h' | h'
  · exact h j hj h'
  · obtain rfl : j = n := by omega
    exact e

set_option maxRecDepth 100000 in
set_option maxHeartbeats 4000000 in
theorem longFiles_any (v : Value) (fs : List Fl) (w : World) (hx : FlsAt w v fs) (hl : fs.length ≤ maxLen) (hsz : ∀ f ∈ fs, f.1.size ≤ maxLen ∧ f.2.1.size ≤ maxLen) :
    Calls Tryz.prog 26 #[v] w fun e w' => e = .returned (.int .i64 (if longFs fs then 1 else 0)) ∧ Below w.heap.size w w' := by
  obtain ⟨q, cap, rfl⟩ := hx.form
  have HFX : Hid (FlsAt w (.slice q fs.length cap) fs) := hx
  have HSZ : Hid (∀ f ∈ fs, f.1.size ≤ maxLen ∧ f.2.1.size ≤ maxLen) := hsz
  obtain ⟨L, hL⟩ : ∃ L, fs.length = L := ⟨_, rfl⟩
  have HX : Hid (fs.length = L) := hL
  rw [hL] at hl ⊢
  unfold maxLen at hl
  generalize hR : (if longFs fs then (1 : Int) else 0) = R
  have HR : Hid ((if longFs fs then (1 : Int) else 0) = R) := hR
  clear hL hx hsz hR
  by_cases hbig : 40 < L ∧ L ≠ 60 ∧ L ≠ 61
  · have hRR : R = 1 := by
      rw [← HR.out, if_pos]
      unfold longFs
      rw [HX.out]
      simp [hbig.1, hbig.2.1, hbig.2.2]
    subst hRR
    obtain ⟨b1, b2, b3⟩ := hbig
    have i1 : (40 : Int) < (L : Int) := by omega
    have j2 : ((L : Int) != 60) = true := by simp; omega
    have j3 : ((L : Int) != 61) = true := by simp; omega
    go_enter Tryz.func26, Tryz.ntmps26
    go_wp2
    go_ret
    exact ⟨rfl, Below.refl _ _⟩
  · have HS : Hid ((decide (40 < fs.length) && decide (fs.length ≠ 60) && decide (fs.length ≠ 61)) = false) := by
      show _ = _
      rw [HX.out]
      rw [Bool.eq_false_iff]
      intro h
      simp only [Bool.and_eq_true, decide_eq_true_eq] at h
      exact hbig ⟨h.1.1, h.1.2, h.2⟩
    have hc3 : (¬ (40 : Int) < (L : Int)) ∨ ((40 : Int) < (L : Int) ∧ (L : Int) = 60) ∨ ((40 : Int) < (L : Int) ∧ ¬ (L : Int) = 60 ∧ (L : Int) = 61) := by omega
    clear hbig
    rcases hc3 with i1 | ⟨i1, i2⟩ | ⟨i1, i2, i3⟩
    · skip
      go_enter Tryz.func26, Tryz.ntmps26
      go_wp2
      go_loopw [3] (fun k wr => ∃ n : Nat, n ≤ L ∧ k = .int .i64 n ∧ (∀ j (h : j < fs.length), j < n → longFB fs[j] = false) ∧ Below w.heap.size w wr) (fun k _ => L - (intOf k).toNat)
      case atStart => exact ⟨0, by omega, rfl, fun j h h' => absurd h' (Nat.not_lt_zero _), Below.refl _ _⟩
      case round =>
        obtain ⟨n, hn, rfl, hno, hb⟩ := hrel
        have HNO : Hid (∀ j (h : j < fs.length), j < n → longFB fs[j] = false) := hno
        clear hno
        by_cases hlt : n < L
        · have hltx : n < fs.length := by rw [HX.out]; exact hlt
          obtain ⟨b, o, hq, hc⟩ := (HFX.out.below hb).cells (fun e => by rw [e] at hltx; simp at hltx)
          subst hq
          obtain ⟨c0, c1, c2, c3, c4, c5⟩ := hc n hltx
          obtain ⟨k1, k2⟩ := HSZ.out fs[n] (List.getElem_mem _)
          have hlf := longFile_any fs[n] wr k1 k2
          have hyes : longFB fs[n] = true → R = 1 := fun e => by
            rw [← HR.out, if_pos]
            unfold longFs
            rw [Bool.or_eq_true]
            exact Or.inr (List.any_eq_true.2 ⟨fs[n], List.getElem_mem _, e⟩)
          have hnx := fun e => anyLong_succ HNO.out hltx e
          unfold flV at hlf
          generalize longFB fs[n] = lb at hlf hyes hnx
          generalize fs[n] = f at c0 c1 c2 c3 c4 c5 hlf
          obtain ⟨fp, fq, fn, flo, fhi, fseq⟩ := f
          dsimp only at c0 c1 c2 c3 c4 c5 hlf
          have hiL : (n : Int) < (L : Int) := by omega
          have hi0' : (0 : Int) ≤ (n : Int) := by omega
          clear hc k1 k2 hltx
          cases lb with
          | true =>
            obtain rfl := hyes rfl
            simp only [if_true] at hlf
            clear hyes hnx
            go_wp2_with fail
            refine hlf.mono ?_
            rintro e w3 ⟨rfl, hb3⟩
            clear hlf
            go_wp2
            go_ret
            exact ⟨rfl, hb.trans (hb3.mono hb.size)⟩
          | false =>
            have HNX : Hid (∀ j (h : j < fs.length), j < n + 1 → longFB fs[j] = false) := hnx rfl
            simp only [Bool.false_eq_true, if_false] at hlf
            clear hyes hnx
            go_wp2_with fail
            refine hlf.mono ?_
            rintro e w3 ⟨rfl, hb3⟩
            clear hlf
            have hb4 : Below w.heap.size w w3 := hb.trans (hb3.mono hb.size)
            go_wp2
            go_roundw
            case rel => exact ⟨n + 1, by omega, by go_num, HNX.out, hb4⟩
            case measure => simp [intOf]; omega
        · obtain rfl : n = L := by omega
          have hRR : R = 0 := by
            rw [← HR.out, if_neg]
            unfold longFs
            rw [HS.out, Bool.false_or]
            intro h
            obtain ⟨f, hf, e⟩ := List.any_eq_true.1 h
            obtain ⟨j, hj, rfl⟩ := List.mem_iff_getElem.1 hf
            rw [HNO.out j hj (by rw [← HX.out]; exact hj)] at e
            cases e
          subst hRR
          go_wp2
          go_ret
          exact ⟨rfl, hb⟩
    · have j2 : ((L : Int) != 60) = false := by rw [i2]; rfl
      go_enter Tryz.func26, Tryz.ntmps26
      go_wp2
      go_loopw [3] (fun k wr => ∃ n : Nat, n ≤ L ∧ k = .int .i64 n ∧ (∀ j (h : j < fs.length), j < n → longFB fs[j] = false) ∧ Below w.heap.size w wr) (fun k _ => L - (intOf k).toNat)
      case atStart => exact ⟨0, by omega, rfl, fun j h h' => absurd h' (Nat.not_lt_zero _), Below.refl _ _⟩
      case round =>
        obtain ⟨n, hn, rfl, hno, hb⟩ := hrel
        have HNO : Hid (∀ j (h : j < fs.length), j < n → longFB fs[j] = false) := hno
        clear hno
        by_cases hlt : n < L
        · have hltx : n < fs.length := by rw [HX.out]; exact hlt
          obtain ⟨b, o, hq, hc⟩ := (HFX.out.below hb).cells (fun e => by rw [e] at hltx; simp at hltx)
          subst hq
          obtain ⟨c0, c1, c2, c3, c4, c5⟩ := hc n hltx
          obtain ⟨k1, k2⟩ := HSZ.out fs[n] (List.getElem_mem _)
          have hlf := longFile_any fs[n] wr k1 k2
          have hyes : longFB fs[n] = true → R = 1 := fun e => by
            rw [← HR.out, if_pos]
            unfold longFs
            rw [Bool.or_eq_true]
            exact Or.inr (List.any_eq_true.2 ⟨fs[n], List.getElem_mem _, e⟩)
          have hnx := fun e => anyLong_succ HNO.out hltx e
          unfold flV at hlf
          generalize longFB fs[n] = lb at hlf hyes hnx
          generalize fs[n] = f at c0 c1 c2 c3 c4 c5 hlf
          obtain ⟨fp, fq, fn, flo, fhi, fseq⟩ := f
          dsimp only at c0 c1 c2 c3 c4 c5 hlf
          have hiL : (n : Int) < (L : Int) := by omega
          have hi0' : (0 : Int) ≤ (n : Int) := by omega
          clear hc k1 k2 hltx
          cases lb with
          | true =>
            obtain rfl := hyes rfl
            simp only [if_true] at hlf
            clear hyes hnx
            go_wp2_with fail
            refine hlf.mono ?_
            rintro e w3 ⟨rfl, hb3⟩
            clear hlf
            go_wp2
            go_ret
            exact ⟨rfl, hb.trans (hb3.mono hb.size)⟩
          | false =>
            have HNX : Hid (∀ j (h : j < fs.length), j < n + 1 → longFB fs[j] = false) := hnx rfl
            simp only [Bool.false_eq_true, if_false] at hlf
            clear hyes hnx
            go_wp2_with fail
            refine hlf.mono ?_
            rintro e w3 ⟨rfl, hb3⟩
            clear hlf
            have hb4 : Below w.heap.size w w3 := hb.trans (hb3.mono hb.size)
            go_wp2
            go_roundw
            case rel => exact ⟨n + 1, by omega, by go_num, HNX.out, hb4⟩
            case measure => simp [intOf]; omega
        · obtain rfl : n = L := by omega
          have hRR : R = 0 := by
            rw [← HR.out, if_neg]
            unfold longFs
            rw [HS.out, Bool.false_or]
            intro h
            obtain ⟨f, hf, e⟩ := List.any_eq_true.1 h
            obtain ⟨j, hj, rfl⟩ := List.mem_iff_getElem.1 hf
            rw [HNO.out j hj (by rw [← HX.out]; exact hj)] at e
            cases e
          subst hRR
          go_wp2
          go_ret
          exact ⟨rfl, hb⟩
    · have j2 : ((L : Int) != 60) = true := by simp [i2]
      have j3 : ((L : Int) != 61) = false := by rw [i3]; rfl
      go_enter Tryz.func26, Tryz.ntmps26
      go_wp2
      go_loopw [3] (fun k wr => ∃ n : Nat, n ≤ L ∧ k = .int .i64 n ∧ (∀ j (h : j < fs.length), j < n → longFB fs[j] = false) ∧ Below w.heap.size w wr) (fun k _ => L - (intOf k).toNat)
      case atStart => exact ⟨0, by omega, rfl, fun j h h' => absurd h' (Nat.not_lt_zero _), Below.refl _ _⟩
      case round =>
        obtain ⟨n, hn, rfl, hno, hb⟩ := hrel
        have HNO : Hid (∀ j (h : j < fs.length), j < n → longFB fs[j] = false) := hno
        clear hno
        by_cases hlt : n < L
        · have hltx : n < fs.length := by rw [HX.out]; exact hlt
          obtain ⟨b, o, hq, hc⟩ := (HFX.out.below hb).cells (fun e => by rw [e] at hltx; simp at hltx)
          subst hq
          obtain ⟨c0, c1, c2, c3, c4, c5⟩ := hc n hltx
          obtain ⟨k1, k2⟩ := HSZ.out fs[n] (List.getElem_mem _)
          have hlf := longFile_any fs[n] wr k1 k2
          have hyes : longFB fs[n] = true → R = 1 := fun e => by
            rw [← HR.out, if_pos]
            unfold longFs
            rw [Bool.or_eq_true]
            exact Or.inr (List.any_eq_true.2 ⟨fs[n], List.getElem_mem _, e⟩)
          have hnx := fun e => anyLong_succ HNO.out hltx e
          unfold flV at hlf
          generalize longFB fs[n] = lb at hlf hyes hnx
          generalize fs[n] = f at c0 c1 c2 c3 c4 c5 hlf
          obtain ⟨fp, fq, fn, flo, fhi, fseq⟩ := f
          dsimp only at c0 c1 c2 c3 c4 c5 hlf
          have hiL : (n : Int) < (L : Int) := by omega
          have hi0' : (0 : Int) ≤ (n : Int) := by omega
          clear hc k1 k2 hltx
          cases lb with
          | true =>
            obtain rfl := hyes rfl
            simp only [if_true] at hlf
            clear hyes hnx
            go_wp2_with fail
            refine hlf.mono ?_
            rintro e w3 ⟨rfl, hb3⟩
            clear hlf
            go_wp2
            go_ret
            exact ⟨rfl, hb.trans (hb3.mono hb.size)⟩
          | false =>
            have HNX : Hid (∀ j (h : j < fs.length), j < n + 1 → longFB fs[j] = false) := hnx rfl
            simp only [Bool.false_eq_true, if_false] at hlf
            clear hyes hnx
            go_wp2_with fail
            refine hlf.mono ?_
            rintro e w3 ⟨rfl, hb3⟩
            clear hlf
            have hb4 : Below w.heap.size w w3 := hb.trans (hb3.mono hb.size)
            go_wp2
            go_roundw
            case rel => exact ⟨n + 1, by omega, by go_num, HNX.out, hb4⟩
            case measure => simp [intOf]; omega
        · obtain rfl : n = L := by omega
          have hRR : R = 0 := by
            rw [← HR.out, if_neg]
            unfold longFs
            rw [HS.out, Bool.false_or]
            intro h
            obtain ⟨f, hf, e⟩ := List.any_eq_true.1 h
            obtain ⟨j, hj, rfl⟩ := List.mem_iff_getElem.1 hf
            rw [HNO.out j hj (by rw [← HX.out]; exact hj)] at e
            cases e
          subst hRR
          go_wp2
          go_ret
          exact ⟨rfl, hb⟩
end Go.Proofs.YtpkoefpdpoikkaaGreatDoor
namespace Go.Proofs.YtpkoefpdpoikkaaGreatDoor
open Go.RowKit Go.Extern.Stop Go.Stop Go.Extern Go.Sort Go.Shelf Go.Lib

theorem ToldE.same {W : World} {a : Nat → Addr} {ev : Value} {c : Nat × Option Nat} (h : ToldE W a ev c) (hc : c.1 ≤ 12) (hE : Errs W a) :
    Calls Tryz.prog 37 #[ev, .agg #[.int .i64 c.1, .int .i64 (atZ c.2)]] W fun e w' => e = .returned (.bool true) ∧ Below W.heap.size W w' := by
  obtain ⟨n, o⟩ := c
  cases o with
  | none =>
    obtain rfl : ev = errV a n := h
    exact faulted2_err n hc W a hE
  | some j =>
    obtain ⟨h0, fb, rfl, c0, c1⟩ := h
    exact faulted2_at n h0 hc W a hE fb j c0 c1

theorem dig_o (d : Nat) (h : d < 10) : decDigits d = [UInt8.ofNat (48 + d)] := by rw [decDigits, dif_pos h]
theorem on_1 : itoa 1 = [49] := by
  have h : decDigits 1 = [49] := dig_o 1 (by decide)
  simp [itoa, h]
theorem on_0 : itoa 0 = [48] := by
  have h : decDigits 0 = [48] := dig_o 0 (by decide)
  simp [itoa, h]
end Go.Proofs.YtpkoefpdpoikkaaGreatDoor
namespace Go.Proofs.YtpkoefpdpoikkaaGreatDoor
open Go.RowKit Go.Extern.Stop Go.Stop Go.Extern Go.Sort Go.Shelf Go.Lib

structure SnapK (a : Nat → Addr) (EP : World → Prop) : Prop where
  below : ∀ W W' : World, EP W → Below W.heap.size W W' → EP W'
  check : ∀ (W : World) (s : Sn) (vf : Value), EP W → FlsAt W vf s.2.2.2.2.2.2 → s.2.2.2.2.2.2.length ≤ 100 → Short s.2.2.2.2.2.2 → Calls Tryz.prog 52 #[snV s vf] W fun e w' => ∃ ev, e = .returned ev ∧ ToldE w' a ev (snapE s) ∧ Below W.heap.size W w'
  text : ∀ (W : World) (s : Sn) (vf : Value), EP W → FlsAt W vf s.2.2.2.2.2.2 → s.2.2.2.2.2.2.length ≤ 100 → Short s.2.2.2.2.2.2 → Calls Tryz.prog 46 #[snV s vf] W fun e w' => ∃ ev, e = .returned (.tuple #[.string (if (snapE s).1 = 0 then bytesOf (snapL s) else ⟨#[]⟩), ev]) ∧ ToldE w' a ev (snapE s) ∧ Below W.heap.size W w'
  read : ∀ (W : World) (s : ByteArray), EP W → s.size ≤ maxLen → Calls Tryz.prog 48 #[.string s] W (SReadP W a (readS s.data.toList))
  first : ∀ W : World, Calls Tryz.prog 56 #[] W fun e w' => e = .returned (snV firstS (.slice none 0 0)) ∧ Below W.heap.size W w'

structure SnapR (a : Nat → Addr) (EP : World → Prop) : Prop where
  core : SnapK a EP
  rows : ∀ (W : World) (s : Sn) (vf : Value), EP W → FlsAt W vf s.2.2.2.2.2.2 → s.2.2.2.2.2.2.length ≤ 100 → Short s.2.2.2.2.2.2 → Calls Tryz.prog 54 #[snV s vf] W fun e w' => e = .returned (.tuple #[.int .i64 (rkS s).1, .int .i64 (rkS s).2]) ∧ Below W.heap.size W w'

theorem on_first : snapE firstS = (0, none) := by
  have h1 : sbndB firstS = true := by decide
  have h2 : opB firstS.2.2.2.2.2.1.data.toList = true := by decide
  have h3 : (listE firstS.2.2.2.2.2.2).1 = 0 := by decide
  rw [((snapE_rest h1).2 h2).2 h3]
  rfl
theorem on_sum : sumL [] = 0 := by decide
theorem on_snap : snapL firstS = [115, 110, 97, 112, 32, 49, 32, 48, 32, 48, 32, 48, 32, 48, 32, 115, 116, 97, 114, 116, 32, 48, 10] := by
  have h : listL firstS.2.2.2.2.2.2 = [] := rfl
  unfold snapL snapH
  rw [h, on_sum]
  simp [firstS, kSnap, on_1, on_0]
theorem on_rdS : readS [115, 110, 97, 112, 32, 49, 32, 48, 32, 48, 32, 48, 32, 48, 32, 115, 116, 97, 114, 116, 32, 48, 10] = (firstS, 0, none) := by
  rw [← on_snap]
  exact snap_read (by rw [on_first])

theorem nilFls (W : World) : FlsAt W (.slice none 0 0) [] := Or.inl ⟨none, 0, rfl, fun _ => rfl, rfl⟩

set_option maxRecDepth 100000 in
set_option maxHeartbeats 2000000 in
theorem snapped_any (w : World) (a : Nat → Addr) (EP : World → Prop) (K : SnapK a EP) (h : EP w) :
    Calls Tryz.prog 44 #[] w fun e w' => e = .returned (.bool true) ∧ Below w.heap.size w w' := by
  have hf := K.first w
  have ht := fun W (hb : Below w.heap.size w W) => K.text W firstS (.slice none 0 0) (K.below _ _ h hb) (nilFls W) (by decide) (fun g hg => by simp [firstS] at hg)
  rw [on_first, if_pos rfl, on_snap] at ht
  have hr := fun W (hb : Below w.heap.size w W) => K.read W ⟨#[115, 110, 97, 112, 32, 49, 32, 48, 32, 48, 32, 48, 32, 48, 32, 115, 116, 97, 114, 116, 32, 48, 10]⟩ (K.below _ _ h hb) (by decide)
  have e2 : (⟨#[115, 110, 97, 112, 32, 49, 32, 48, 32, 48, 32, 48, 32, 48, 32, 115, 116, 97, 114, 116, 32, 48, 10]⟩ : ByteArray).data.toList = [115, 110, 97, 112, 32, 49, 32, 48, 32, 48, 32, 48, 32, 48, 32, 115, 116, 97, 114, 116, 32, 48, 10] := rfl
  rw [e2, on_rdS] at hr
  have eb : bytesOf [115, 110, 97, 112, 32, 49, 32, 48, 32, 48, 32, 48, 32, 48, 32, 115, 116, 97, 114, 116, 32, 48, 10] = ⟨#[115, 110, 97, 112, 32, 49, 32, 48, 32, 48, 32, 48, 32, 48, 32, 115, 116, 97, 114, 116, 32, 48, 10]⟩ := rfl
  rw [eb] at ht
  unfold snV firstS at hf ht
  dsimp only at hf ht
  clear e2 eb
  go_enter Tryz.func44, Tryz.ntmps44
  go_wp2_with fail
  refine hf.mono ?_
  rintro e w1 ⟨rfl, hb1⟩
  have ht1 := ht w1 hb1
  clear hf ht
  go_wp2_with fail
  refine ht1.mono ?_
  rintro e w2 ⟨ev2, rfl, he2, hb2⟩
  clear ht1
  obtain rfl : ev2 = .nilIface := he2
  have hB2 : Below w.heap.size w w2 := hb1.trans (hb2.mono hb1.size)
  have hr2 := hr w2 hB2
  clear hr hb1 hb2
  go_wp2_with fail
  refine hr2.mono ?_
  rintro e w3 ⟨vf, ev3, rfl, hv3, he3, hb3⟩
  clear hr2
  obtain rfl : ev3 = .nilIface := he3
  obtain ⟨q5, c5, rfl⟩ := hv3.form
  unfold snV firstS
  dsimp only
  have hB3 : Below w.heap.size w w3 := hB2.trans (hb3.mono hB2.size)
  have hal : Below w3.heap.size w3 (w3.alloc (.cells #[.int .i64 1, .int .i64 0, .int .i64 0, .int .i64 0, .int .i64 0, .string ⟨#[115, 116, 97, 114, 116]⟩, .slice q5 0 c5] 74)) := (Below.refl _ _).alloc (Nat.le_refl _) _
  have hB4 : Below w.heap.size w (w3.alloc (.cells #[.int .i64 1, .int .i64 0, .int .i64 0, .int .i64 0, .int .i64 0, .string ⟨#[115, 116, 97, 114, 116]⟩, .slice q5 0 c5] 74)) := hB3.trans (hal.mono hB3.size)
  clear hb3 hv3 hal
  simp only [List.length_nil]
  go_wp2
  go_ret
  exact ⟨rfl, hB4⟩

def longSn (s : Sn) : Bool := decide (30 < s.2.2.2.2.2.1.size) || longFs s.2.2.2.2.2.2
theorem longSn_no {s : Sn} (h : longSn s = false) : s.2.2.2.2.2.1.size ≤ 30 ∧ s.2.2.2.2.2.2.length ≤ 61 ∧ Short s.2.2.2.2.2.2 := by
  unfold longSn at h
  rw [Bool.or_eq_false_iff, decide_eq_false_iff_not] at h
  obtain ⟨h1, h2⟩ := longFs_no h.2
  exact ⟨by omega, h1, h2⟩

set_option maxRecDepth 100000 in
set_option maxHeartbeats 2000000 in
theorem longSnap_any (s : Sn) (vf : Value) (w : World) (hx : FlsAt w vf s.2.2.2.2.2.2) (ho : s.2.2.2.2.2.1.size ≤ maxLen) (hl : s.2.2.2.2.2.2.length ≤ maxLen) (hsz : ∀ f ∈ s.2.2.2.2.2.2, f.1.size ≤ maxLen ∧ f.2.1.size ≤ maxLen) :
    Calls Tryz.prog 45 #[snV s vf] w fun e w' => e = .returned (.int .i64 (if longSn s then 1 else 0)) ∧ Below w.heap.size w w' := by
  have hlf := fun W (hb : Below w.heap.size w W) => longFiles_any vf s.2.2.2.2.2.2 W (hx.below hb) hl hsz
  generalize hR : (if longSn s then (1 : Int) else 0) = R
  have hbg : 30 < s.2.2.2.2.2.1.size → R = 1 := fun e => by rw [← hR, if_pos]; unfold longSn; simp [e]
  have hsm : ¬ 30 < s.2.2.2.2.2.1.size → R = if longFs s.2.2.2.2.2.2 then 1 else 0 := fun e => by rw [← hR]; unfold longSn; simp [e]
  unfold maxLen at ho
  obtain ⟨q, cap, rfl⟩ := hx.form
  clear hR hx hsz
  obtain ⟨id, par, seq, day, idx, op, fs⟩ := s
  unfold snV
  dsimp only at *
  generalize (if longFs fs then (1 : Int) else 0) = LF at *
  generalize fs.length = L at *
  have hal : Below w.heap.size w (w.alloc (.cells #[.int .i64 id, .int .i64 par, .int .i64 seq, .int .i64 day, .int .i64 idx, .string op, .slice q L cap] 74)) := (Below.refl _ _).alloc (Nat.le_refl _) _
  by_cases hb : 30 < op.size
  · obtain rfl := hbg hb
    have hi : (30 : Int) < (op.size : Int) := by omega
    clear hbg hsm hlf hb
    go_enter Tryz.func45, Tryz.ntmps45
    go_wp2
    go_ret
    exact ⟨rfl, hal⟩
  · obtain rfl := hsm hb
    have hi : ¬ (30 : Int) < (op.size : Int) := by omega
    have hl1 := hlf _ hal
    clear hbg hsm hlf hb
    go_enter Tryz.func45, Tryz.ntmps45
    go_wp2_with fail
    generalize w.alloc (.cells #[.int .i64 id, .int .i64 par, .int .i64 seq, .int .i64 day, .int .i64 idx, .string op, .slice q L cap] 74) = WA at hal hl1 ⊢
    refine hl1.mono ?_
    rintro e w1 ⟨rfl, hb1⟩
    go_wp2
    go_ret
    exact ⟨rfl, hal.trans (hb1.mono hal.size)⟩

set_option maxRecDepth 100000 in
set_option maxHeartbeats 4000000 in
theorem ownSnapN_any (s : Sn) (vf : Value) (w : World) (hx : FlsAt w vf s.2.2.2.2.2.2) (hl : s.2.2.2.2.2.2.length ≤ 1000) :
    Calls Tryz.prog 47 #[snV s vf] w fun e w' => ∃ v', e = .returned (snV s v') ∧ FlsAt w' v' s.2.2.2.2.2.2 ∧ (∀ k, v'.ownBlock = some k → w.heap.size ≤ k) ∧ Below w.heap.size w w' := by
  have how := fun W (hb : Below w.heap.size w W) => ownFiles_any vf s.2.2.2.2.2.2 W (hx.below hb) hl
  obtain ⟨q, cap, rfl⟩ := hx.form
  clear hx
  obtain ⟨id, par, seq, day, idx, op, fs⟩ := s
  unfold snV
  dsimp only at *
  have hal : Below w.heap.size w ((w.alloc (.cells #[.int .i64 id, .int .i64 par, .int .i64 seq, .int .i64 day, .int .i64 idx, .string op, .slice q fs.length cap] 74)).alloc (.cells #[.int .i64 0, .int .i64 0, .int .i64 0, .int .i64 0, .int .i64 0, .string ⟨#[]⟩, .slice none 0 0] 74)) := ((Below.refl _ _).alloc (Nat.le_refl _) _).alloc (by simp) _
  have hsn : SnAt ((w.alloc (.cells #[.int .i64 id, .int .i64 par, .int .i64 seq, .int .i64 day, .int .i64 idx, .string op, .slice q fs.length cap] 74)).alloc (.cells #[.int .i64 0, .int .i64 0, .int .i64 0, .int .i64 0, .int .i64 0, .string ⟨#[]⟩, .slice none 0 0] 74)) w.heap.size (id, par, seq, day, idx, op, fs) (.slice q fs.length cap) := heap_alloc2_old w _ _
  have hz : SnAt ((w.alloc (.cells #[.int .i64 id, .int .i64 par, .int .i64 seq, .int .i64 day, .int .i64 idx, .string op, .slice q fs.length cap] 74)).alloc (.cells #[.int .i64 0, .int .i64 0, .int .i64 0, .int .i64 0, .int .i64 0, .string ⟨#[]⟩, .slice none 0 0] 74)) (w.heap.size + 1) zeroS (.slice none 0 0) := heap_alloc2_new w _ _
  have ho1 := how _ hal
  clear how
  obtain ⟨L, hL⟩ : ∃ L, fs.length = L := ⟨_, rfl⟩
  have HL : Hid (fs.length = L) := hL
  rw [hL] at hal hsn hz ho1 hl ⊢
  clear hL
  go_enter Tryz.func47, Tryz.ntmps47
  go_upto_region 1 with fail
  generalize (w.alloc (.cells #[.int .i64 id, .int .i64 par, .int .i64 seq, .int .i64 day, .int .i64 idx, .string op, .slice q L cap] 74)).alloc (.cells #[.int .i64 0, .int .i64 0, .int .i64 0, .int .i64 0, .int .i64 0, .string ⟨#[]⟩, .slice none 0 0] 74) = WA at hal hsn hz ho1 ⊢
  have z6 := hsn.cells.2.2.2.2.2.2
  go_wp2_with fail
  refine ho1.mono ?_
  rintro e w1 ⟨v', rfl, ow, hb1⟩
  clear ho1 z6
  have HNW : Hid (∀ k, v'.ownBlock = some k → w.heap.size ≤ k) := fun k hk => by
    rcases ow.2 with ⟨e, _⟩ | ⟨g, cap', cur, e, hbse, _⟩
    · rw [e] at hk; cases hk
    · rw [e] at hk
      simp only [Value.ownBlock, Option.some.injEq] at hk
      have := hal.size
      omega
  have hv1 : FlsAt w1 v' fs := (flsAt_of_own ow).1
  have hB1 : Below w.heap.size w w1 := hal.trans (hb1.mono hal.size)
  have hs1 := hsn.below hb1
  have hz1 := hz.below hb1
  clear hsn hz hb1 hal ow
  obtain ⟨qv, cv, hq⟩ := hv1.form
  subst hq
  have hoS := off_of hs1 hv1
  have hv2 := hv1.set_off hoS 6 (.slice qv fs.length cv)
  have hs2 : SnAt (w1.setCell ⟨w.heap.size, 6, none⟩ (.slice qv fs.length cv)) w.heap.size (id, par, seq, day, idx, op, fs) (.slice qv fs.length cv) := by
    have := hs1
    unfold SnAt at *
    rw [heap_setCell_same _ _ _ _ _ _ this]; rfl
  have hz2 := sn_other hz1 (show w.heap.size ≠ w.heap.size + 1 by omega) 6 (.slice qv fs.length cv)
  have hB2 : Below w.heap.size w (w1.setCell ⟨w.heap.size, 6, none⟩ (.slice qv fs.length cv)) := hB1.setCell (Nat.le_refl _) _
  have fS := hs1.fz
  have x6 := hs1.cells.2.2.2.2.2.2
  clear hs1 hz1 hv1 hB1 hoS
  rw [HL.out] at hv2 hs2 hz2 hB2 HNW ⊢
  go_upto_region 2 with fail
  generalize w1.setCell ⟨w.heap.size, 6, none⟩ (.slice qv L cv) = w2 at hv2 hs2 hz2 hB2 ⊢
  clear fS x6
  obtain ⟨p0, p1, p2, p3, p4, p5, p6⟩ := hs2.cells
  dsimp only at p0 p1 p2 p3 p4 p5
  have hoZ := off_of hz2 hv2
  have hle : w.heap.size ≤ w.heap.size + 1 := Nat.le_succ _
  have fz := hz2.fz
  obtain ⟨y0, y1, y2, y3, y4, y5, y6⟩ := hz2.cells
  have HV3 := (((((((hv2.set_off hoZ 0 (.int .i64 id)).set_off hoZ 1 (.int .i64 par)).set_off hoZ 2 (.int .i64 seq)).set_off hoZ 3 (.int .i64 day)).set_off hoZ 4 (.int .i64 idx)).set_off hoZ 5 (.string op)).set_off hoZ 6 (.slice qv L cv))
  obtain ⟨u0, u1, u2, u3, u4, u5, u6⟩ := (hz2.set (id, par, seq, day, idx, op, fs) (.slice qv L cv)).cells
  have hB3 := snSet_below (s := (id, par, seq, day, idx, op, fs)) (vf := .slice qv L cv) hB2 hle
  unfold snSet at u0 u1 u2 u3 u4 u5 u6 hB3
  dsimp only at u0 u1 u2 u3 u4 u5 hB3 y0 y1 y2 y3 y4 y5
  clear hz2 hs2 hv2 hoZ
  go_wp2
  refine bodyPost_ret (v := .agg #[.int .i64 id, .int .i64 par, .int .i64 seq, .int .i64 day, .int .i64 idx, .string op, .slice qv L cv]) (by simp [results, Tryz.results47, go_sem, u0, u1, u2, u3, u4, u5, u6]) rfl ?_
  exact ⟨.slice qv L cv, rfl, HV3, HNW.out, hB3⟩
theorem ownSnap_any (s : Sn) (vf : Value) (w : World) (hx : FlsAt w vf s.2.2.2.2.2.2) (hl : s.2.2.2.2.2.2.length ≤ 1000) :
    Calls Tryz.prog 47 #[snV s vf] w fun e w' => ∃ v', e = .returned (snV s v') ∧ FlsAt w' v' s.2.2.2.2.2.2 ∧ Below w.heap.size w w' :=
  (ownSnapN_any s vf w hx hl).mono fun _ _ ⟨v', he, hf, _, hb⟩ => ⟨v', he, hf, hb⟩
end Go.Proofs.YtpkoefpdpoikkaaGreatDoor
