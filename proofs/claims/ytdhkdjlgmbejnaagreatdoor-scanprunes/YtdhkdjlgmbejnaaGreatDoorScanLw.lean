/-
  What the statements on scans keep between two calls: the store, the snap, its files.
-/
import Derived.Test.YtdhkdjlgmbejnaaGreatDoorAppRun
namespace Go.Proofs.YtdhkdjlgmbejnaaGreatDoor
open Go.RowKit Go.Extern.Stop Go.Stop Go.Extern Go.Sort Go.Shelf Go.Lib

def longFs (fs : List Fl) : Bool := (decide (40 < fs.length) && decide (fs.length ≠ 60) && decide (fs.length ≠ 61)) || fs.any longFB

theorem longFs_no {fs : List Fl} (h : longFs fs = false) : fs.length ≤ 61 ∧ ∀ f ∈ fs, f.1.size ≤ 30 ∧ f.2.1.size ≤ 30 := by
  unfold longFs at h
  rw [Bool.or_eq_false_iff] at h
  refine ⟨?_, fun f hf => ?_⟩
  · have h1 := h.1
    rcases Nat.lt_or_ge 40 fs.length with h' | h'
    · simp only [h', decide_true, Bool.true_and] at h1
      simp at h1
      omega
    · omega
  · have := List.any_eq_false.1 h.2 f hf
    simp only [longFB, Bool.or_eq_true, decide_eq_true_eq, not_or] at this
    omega

theorem anyLong_succ {fs : List Fl} {n : Nat} (h : ∀ j (h : j < fs.length), j < n → longFB fs[j] = false) (hn : n < fs.length) (e : longFB fs[n] = false) : ∀ j (h : j < fs.length), j < n + 1 → longFB fs[j] = false := fun j hj hjn => by
  rcases Nat.lt_or_ge j n with h' | h'
  · exact h j hj h'
  · obtain rfl : j = n := by omega
    exact e

set_option maxRecDepth 100000 in
set_option maxHeartbeats 4000000 in
theorem longFiles_any (v : Value) (fs : List Fl) (w : World) (hx : FlsAt w v fs) (hl : fs.length ≤ maxLen) (hsz : ∀ f ∈ fs, f.1.size ≤ maxLen ∧ f.2.1.size ≤ maxLen) :
    Calls Tryz.prog 30 #[v] w fun e w' => e = .returned (.int .i64 (if longFs fs then 1 else 0)) ∧ Below w.heap.size w w' := by
  obtain ⟨q, cap, rfl⟩ := hx.form
  have HFX : Hid (FlsAt w (.slice q fs.length cap) fs) := hx
  have HSZ : Hid (∀ f ∈ fs, f.1.size ≤ maxLen ∧ f.2.1.size ≤ maxLen) := hsz
  obtain ⟨L, hL⟩ : ∃ L, fs.length = L := ⟨_, rfl⟩
  have HX : Hid (fs.length = L) := hL
  rw [hL] at hl ⊢
  unfold maxLen at hl
  generalize hR : (if longFs fs then (1 : Int) else 0) = R
  have HR : Hid ((if longFs fs then (1 : Int) else 0) = R) := hR
  clear hL hx hsz hR
  by_cases hbig : 40 < L ∧ L ≠ 60 ∧ L ≠ 61
  · have hRR : R = 1 := by
      rw [← HR.out, if_pos]
      unfold longFs
      rw [HX.out]
      simp [hbig.1, hbig.2.1, hbig.2.2]
    subst hRR
    obtain ⟨b1, b2, b3⟩ := hbig
    have i1 : (40 : Int) < (L : Int) := by omega
    have j2 : ((L : Int) != 60) = true := by simp; omega
    have j3 : ((L : Int) != 61) = true := by simp; omega
    go_enter Tryz.func30, Tryz.ntmps30
    go_wp2
    go_ret
    exact ⟨rfl, Below.refl _ _⟩
  · have HS : Hid ((decide (40 < fs.length) && decide (fs.length ≠ 60) && decide (fs.length ≠ 61)) = false) := by
      show _ = _
      rw [HX.out]
      rw [Bool.eq_false_iff]
      intro h
      simp only [Bool.and_eq_true, decide_eq_true_eq] at h
      exact hbig ⟨h.1.1, h.1.2, h.2⟩
    have hc3 : (¬ (40 : Int) < (L : Int)) ∨ ((40 : Int) < (L : Int) ∧ (L : Int) = 60) ∨ ((40 : Int) < (L : Int) ∧ ¬ (L : Int) = 60 ∧ (L : Int) = 61) := by omega
    clear hbig
    rcases hc3 with i1 | ⟨i1, i2⟩ | ⟨i1, i2, i3⟩
    · skip
      go_enter Tryz.func30, Tryz.ntmps30
      go_wp2
      go_loopw [3] (fun k wr => ∃ n : Nat, n ≤ L ∧ k = .int .i64 n ∧ (∀ j (h : j < fs.length), j < n → longFB fs[j] = false) ∧ Below w.heap.size w wr) (fun k _ => L - (intOf k).toNat)
      case atStart => exact ⟨0, by omega, rfl, fun j h h' => absurd h' (Nat.not_lt_zero _), Below.refl _ _⟩
      case round =>
        obtain ⟨n, hn, rfl, hno, hb⟩ := hrel
        have HNO : Hid (∀ j (h : j < fs.length), j < n → longFB fs[j] = false) := hno
        clear hno
        by_cases hlt : n < L
        · have hltx : n < fs.length := by rw [HX.out]; exact hlt
          obtain ⟨b, o, hq, hc⟩ := (HFX.out.below hb).cells (fun e => by rw [e] at hltx; simp at hltx)
          subst hq
          obtain ⟨c0, c1, c2, c3, c4, c5⟩ := hc n hltx
          obtain ⟨k1, k2⟩ := HSZ.out fs[n] (List.getElem_mem _)
          have hlf := longFile_any fs[n] wr k1 k2
          have hyes : longFB fs[n] = true → R = 1 := fun e => by
            rw [← HR.out, if_pos]
            unfold longFs
            rw [Bool.or_eq_true]
            exact Or.inr (List.any_eq_true.2 ⟨fs[n], List.getElem_mem _, e⟩)
          have hnx := fun e => anyLong_succ HNO.out hltx e
          unfold flV at hlf
          generalize longFB fs[n] = lb at hlf hyes hnx
          generalize fs[n] = f at c0 c1 c2 c3 c4 c5 hlf
          obtain ⟨fp, fq, fn, flo, fhi, fseq⟩ := f
          dsimp only at c0 c1 c2 c3 c4 c5 hlf
          have hiL : (n : Int) < (L : Int) := by omega
          have hi0' : (0 : Int) ≤ (n : Int) := by omega
          clear hc k1 k2 hltx
          cases lb with
          | true =>
            obtain rfl := hyes rfl
            simp only [if_true] at hlf
            clear hyes hnx
            go_wp2_with fail
            refine hlf.mono ?_
            rintro e w3 ⟨rfl, hb3⟩
            clear hlf
            go_wp2
            go_ret
            exact ⟨rfl, hb.trans (hb3.mono hb.size)⟩
          | false =>
            have HNX : Hid (∀ j (h : j < fs.length), j < n + 1 → longFB fs[j] = false) := hnx rfl
            simp only [Bool.false_eq_true, if_false] at hlf
            clear hyes hnx
            go_wp2_with fail
            refine hlf.mono ?_
            rintro e w3 ⟨rfl, hb3⟩
            clear hlf
            have hb4 : Below w.heap.size w w3 := hb.trans (hb3.mono hb.size)
            go_wp2
            go_roundw
            case rel => exact ⟨n + 1, by omega, by go_num, HNX.out, hb4⟩
            case measure => simp [intOf]; omega
        · obtain rfl : n = L := by omega
          have hRR : R = 0 := by
            rw [← HR.out, if_neg]
            unfold longFs
            rw [HS.out, Bool.false_or]
            intro h
            obtain ⟨f, hf, e⟩ := List.any_eq_true.1 h
            obtain ⟨j, hj, rfl⟩ := List.mem_iff_getElem.1 hf
            rw [HNO.out j hj (by rw [← HX.out]; exact hj)] at e
            cases e
          subst hRR
          go_wp2
          go_ret
          exact ⟨rfl, hb⟩
    · have j2 : ((L : Int) != 60) = false := by rw [i2]; rfl
      go_enter Tryz.func30, Tryz.ntmps30
      go_wp2
      go_loopw [3] (fun k wr => ∃ n : Nat, n ≤ L ∧ k = .int .i64 n ∧ (∀ j (h : j < fs.length), j < n → longFB fs[j] = false) ∧ Below w.heap.size w wr) (fun k _ => L - (intOf k).toNat)
      case atStart => exact ⟨0, by omega, rfl, fun j h h' => absurd h' (Nat.not_lt_zero _), Below.refl _ _⟩
      case round =>
        obtain ⟨n, hn, rfl, hno, hb⟩ := hrel
        have HNO : Hid (∀ j (h : j < fs.length), j < n → longFB fs[j] = false) := hno
        clear hno
        by_cases hlt : n < L
        · have hltx : n < fs.length := by rw [HX.out]; exact hlt
          obtain ⟨b, o, hq, hc⟩ := (HFX.out.below hb).cells (fun e => by rw [e] at hltx; simp at hltx)
          subst hq
          obtain ⟨c0, c1, c2, c3, c4, c5⟩ := hc n hltx
          obtain ⟨k1, k2⟩ := HSZ.out fs[n] (List.getElem_mem _)
          have hlf := longFile_any fs[n] wr k1 k2
          have hyes : longFB fs[n] = true → R = 1 := fun e => by
            rw [← HR.out, if_pos]
            unfold longFs
            rw [Bool.or_eq_true]
            exact Or.inr (List.any_eq_true.2 ⟨fs[n], List.getElem_mem _, e⟩)
          have hnx := fun e => anyLong_succ HNO.out hltx e
          unfold flV at hlf
          generalize longFB fs[n] = lb at hlf hyes hnx
          generalize fs[n] = f at c0 c1 c2 c3 c4 c5 hlf
          obtain ⟨fp, fq, fn, flo, fhi, fseq⟩ := f
          dsimp only at c0 c1 c2 c3 c4 c5 hlf
          have hiL : (n : Int) < (L : Int) := by omega
          have hi0' : (0 : Int) ≤ (n : Int) := by omega
          clear hc k1 k2 hltx
          cases lb with
          | true =>
            obtain rfl := hyes rfl
            simp only [if_true] at hlf
            clear hyes hnx
            go_wp2_with fail
            refine hlf.mono ?_
            rintro e w3 ⟨rfl, hb3⟩
            clear hlf
            go_wp2
            go_ret
            exact ⟨rfl, hb.trans (hb3.mono hb.size)⟩
          | false =>
            have HNX : Hid (∀ j (h : j < fs.length), j < n + 1 → longFB fs[j] = false) := hnx rfl
            simp only [Bool.false_eq_true, if_false] at hlf
            clear hyes hnx
            go_wp2_with fail
            refine hlf.mono ?_
            rintro e w3 ⟨rfl, hb3⟩
            clear hlf
            have hb4 : Below w.heap.size w w3 := hb.trans (hb3.mono hb.size)
            go_wp2
            go_roundw
            case rel => exact ⟨n + 1, by omega, by go_num, HNX.out, hb4⟩
            case measure => simp [intOf]; omega
        · obtain rfl : n = L := by omega
          have hRR : R = 0 := by
            rw [← HR.out, if_neg]
            unfold longFs
            rw [HS.out, Bool.false_or]
            intro h
            obtain ⟨f, hf, e⟩ := List.any_eq_true.1 h
            obtain ⟨j, hj, rfl⟩ := List.mem_iff_getElem.1 hf
            rw [HNO.out j hj (by rw [← HX.out]; exact hj)] at e
            cases e
          subst hRR
          go_wp2
          go_ret
          exact ⟨rfl, hb⟩
    · have j2 : ((L : Int) != 60) = true := by simp [i2]
      have j3 : ((L : Int) != 61) = false := by rw [i3]; rfl
      go_enter Tryz.func30, Tryz.ntmps30
      go_wp2
      go_loopw [3] (fun k wr => ∃ n : Nat, n ≤ L ∧ k = .int .i64 n ∧ (∀ j (h : j < fs.length), j < n → longFB fs[j] = false) ∧ Below w.heap.size w wr) (fun k _ => L - (intOf k).toNat)
      case atStart => exact ⟨0, by omega, rfl, fun j h h' => absurd h' (Nat.not_lt_zero _), Below.refl _ _⟩
      case round =>
        obtain ⟨n, hn, rfl, hno, hb⟩ := hrel
        have HNO : Hid (∀ j (h : j < fs.length), j < n → longFB fs[j] = false) := hno
        clear hno
        by_cases hlt : n < L
        · have hltx : n < fs.length := by rw [HX.out]; exact hlt
          obtain ⟨b, o, hq, hc⟩ := (HFX.out.below hb).cells (fun e => by rw [e] at hltx; simp at hltx)
          subst hq
          obtain ⟨c0, c1, c2, c3, c4, c5⟩ := hc n hltx
          obtain ⟨k1, k2⟩ := HSZ.out fs[n] (List.getElem_mem _)
          have hlf := longFile_any fs[n] wr k1 k2
          have hyes : longFB fs[n] = true → R = 1 := fun e => by
            rw [← HR.out, if_pos]
            unfold longFs
            rw [Bool.or_eq_true]
            exact Or.inr (List.any_eq_true.2 ⟨fs[n], List.getElem_mem _, e⟩)
          have hnx := fun e => anyLong_succ HNO.out hltx e
          unfold flV at hlf
          generalize longFB fs[n] = lb at hlf hyes hnx
          generalize fs[n] = f at c0 c1 c2 c3 c4 c5 hlf
          obtain ⟨fp, fq, fn, flo, fhi, fseq⟩ := f
          dsimp only at c0 c1 c2 c3 c4 c5 hlf
          have hiL : (n : Int) < (L : Int) := by omega
          have hi0' : (0 : Int) ≤ (n : Int) := by omega
          clear hc k1 k2 hltx
          cases lb with
          | true =>
            obtain rfl := hyes rfl
            simp only [if_true] at hlf
            clear hyes hnx
            go_wp2_with fail
            refine hlf.mono ?_
            rintro e w3 ⟨rfl, hb3⟩
            clear hlf
            go_wp2
            go_ret
            exact ⟨rfl, hb.trans (hb3.mono hb.size)⟩
          | false =>
            have HNX : Hid (∀ j (h : j < fs.length), j < n + 1 → longFB fs[j] = false) := hnx rfl
            simp only [Bool.false_eq_true, if_false] at hlf
            clear hyes hnx
            go_wp2_with fail
            refine hlf.mono ?_
            rintro e w3 ⟨rfl, hb3⟩
            clear hlf
            have hb4 : Below w.heap.size w w3 := hb.trans (hb3.mono hb.size)
            go_wp2
            go_roundw
            case rel => exact ⟨n + 1, by omega, by go_num, HNX.out, hb4⟩
            case measure => simp [intOf]; omega
        · obtain rfl : n = L := by omega
          have hRR : R = 0 := by
            rw [← HR.out, if_neg]
            unfold longFs
            rw [HS.out, Bool.false_or]
            intro h
            obtain ⟨f, hf, e⟩ := List.any_eq_true.1 h
            obtain ⟨j, hj, rfl⟩ := List.mem_iff_getElem.1 hf
            rw [HNO.out j hj (by rw [← HX.out]; exact hj)] at e
            cases e
          subst hRR
          go_wp2
          go_ret
          exact ⟨rfl, hb⟩
end Go.Proofs.YtdhkdjlgmbejnaaGreatDoor
namespace Go.Proofs.YtdhkdjlgmbejnaaGreatDoor
open Go.RowKit Go.Extern.Stop Go.Stop Go.Extern Go.Sort Go.Shelf Go.Lib

def longSn (s : Sn) : Bool := decide (30 < s.2.2.2.2.2.1.size) || longFs s.2.2.2.2.2.2
theorem longSn_no {s : Sn} (h : longSn s = false) : s.2.2.2.2.2.1.size ≤ 30 ∧ s.2.2.2.2.2.2.length ≤ 61 ∧ Short s.2.2.2.2.2.2 := by
  unfold longSn at h
  rw [Bool.or_eq_false_iff, decide_eq_false_iff_not] at h
  obtain ⟨h1, h2⟩ := longFs_no h.2
  exact ⟨by omega, h1, h2⟩

set_option maxRecDepth 100000 in
set_option maxHeartbeats 2000000 in
theorem longSnap_any (s : Sn) (vf : Value) (w : World) (hx : FlsAt w vf s.2.2.2.2.2.2) (ho : s.2.2.2.2.2.1.size ≤ maxLen) (hl : s.2.2.2.2.2.2.length ≤ maxLen) (hsz : ∀ f ∈ s.2.2.2.2.2.2, f.1.size ≤ maxLen ∧ f.2.1.size ≤ maxLen) :
    Calls Tryz.prog 8 #[snV s vf] w fun e w' => e = .returned (.int .i64 (if longSn s then 1 else 0)) ∧ Below w.heap.size w w' := by
  have hlf := fun W (hb : Below w.heap.size w W) => longFiles_any vf s.2.2.2.2.2.2 W (hx.below hb) hl hsz
  generalize hR : (if longSn s then (1 : Int) else 0) = R
  have hbg : 30 < s.2.2.2.2.2.1.size → R = 1 := fun e => by rw [← hR, if_pos]; unfold longSn; simp [e]
  have hsm : ¬ 30 < s.2.2.2.2.2.1.size → R = if longFs s.2.2.2.2.2.2 then 1 else 0 := fun e => by rw [← hR]; unfold longSn; simp [e]
  unfold maxLen at ho
  obtain ⟨q, cap, rfl⟩ := hx.form
  clear hR hx hsz
  obtain ⟨id, par, seq, day, idx, op, fs⟩ := s
  unfold snV
  dsimp only at *
  generalize (if longFs fs then (1 : Int) else 0) = LF at *
  generalize fs.length = L at *
  have hal : Below w.heap.size w (w.alloc (.cells #[.int .i64 id, .int .i64 par, .int .i64 seq, .int .i64 day, .int .i64 idx, .string op, .slice q L cap] 25)) := (Below.refl _ _).alloc (Nat.le_refl _) _
  by_cases hb : 30 < op.size
  · obtain rfl := hbg hb
    have hi : (30 : Int) < (op.size : Int) := by omega
    clear hbg hsm hlf hb
    go_enter Tryz.func8, Tryz.ntmps8
    go_wp2
    go_ret
    exact ⟨rfl, hal⟩
  · obtain rfl := hsm hb
    have hi : ¬ (30 : Int) < (op.size : Int) := by omega
    have hl1 := hlf _ hal
    clear hbg hsm hlf hb
    go_enter Tryz.func8, Tryz.ntmps8
    go_wp2_with fail
    generalize w.alloc (.cells #[.int .i64 id, .int .i64 par, .int .i64 seq, .int .i64 day, .int .i64 idx, .string op, .slice q L cap] 25) = WA at hal hl1 ⊢
    refine hl1.mono ?_
    rintro e w1 ⟨rfl, hb1⟩
    go_wp2
    go_ret
    exact ⟨rfl, hal.trans (hb1.mono hal.size)⟩

end Go.Proofs.YtdhkdjlgmbejnaaGreatDoor
namespace Go.Proofs.YtdhkdjlgmbejnaaGreatDoor
open Go.RowKit Go.Extern.Stop Go.Stop Go.Extern Go.Sort Go.Shelf Go.Lib

def snapT (l : List Pc) (s : Sn) : Sn := if s.2.2.2.2.2.2 = [] then (s.1, s.2.1, s.2.2.1, s.2.2.2.1, s.2.2.2.2.1, s.2.2.2.2.2.1, (tabT l).1) else s
theorem tab_all {l : List Pc} (h : pcsLong l = false) : TabOk (tabT l) l.length ∧ l.length ≤ 15 ∧ TabX (tabT l) l.length := by
  unfold pcsLong at h
  rw [Bool.or_eq_false_iff, decide_eq_false_iff_not] at h
  have hp : ∀ p ∈ l, pcLong p = false := fun p hp => by
    have := List.any_eq_false.1 h.2 p hp
    simpa using this
  have hl : l.length ≤ 15 := by omega
  have h1 := tabT_ok hp l.length (Nat.le_refl _)
  have h2 := tabX hp hl l.length (Nat.le_refl _)
  rw [List.take_length] at h1 h2
  exact ⟨h1, hl, h2⟩
theorem tab_short {l : List Pc} (h : pcsLong l = false) : (tabT l).1.length ≤ 15 ∧ Short (tabT l).1 := by
  obtain ⟨h1, h2, -⟩ := tab_all h
  exact ⟨Nat.le_trans h1.many h2, fun g hg => by have := h1.size g hg; omega⟩
theorem snapT_short {l : List Pc} {s : Sn} (h : pcsLong l = false) (hs : longSn s = false) : (snapT l s).2.2.2.2.2.2.length ≤ 100 ∧ Short (snapT l s).2.2.2.2.2.2 := by
  unfold snapT
  split
  · obtain ⟨h1, h2⟩ := tab_short h
    exact ⟨by dsimp only; omega, h2⟩
  · obtain ⟨_, h1, h2⟩ := longSn_no hs
    exact ⟨by omega, h2⟩

structure ScI (EM : World → Prop) (SAt : World → Value → (Nat → Prop) → St → Prop) (w W : World) (v : Value) (FP : Nat → Prop) (st : St) (sb : Nat) (s : Sn) (vf : Value) : Prop where
  ok : SOk (upE EM w.heap.size) SAt w.heap.size w W v FP st
  off : ¬ FP sb
  le : w.heap.size ≤ sb
  snap : SnAt W sb s vf
  files : FlsAt W vf s.2.2.2.2.2.2
section
variable {a : Nat → Addr} {B : Nat} {EM : World → Prop} {SAt : World → Value → (Nat → Prop) → St → Prop}
theorem SOk.but {w W W' : World} {v : Value} {FP P : Nat → Prop} {st : St} (K : StoreK a w.heap.size (upE EM w.heap.size) SAt) (h : SOk (upE EM w.heap.size) SAt w.heap.size w W v FP st) (hb : But P W W') (hp : ∀ k, P k → w.heap.size ≤ k) (hn : ∀ k, FP k → ¬ P k) : SOk (upE EM w.heap.size) SAt w.heap.size w W' v FP st := by
  have hbl := hb.below (K.size _ h.env) hp
  exact ⟨K.below _ _ h.env hbl, h.frame.trans hbl, Nat.le_refl _, K.keep _ _ _ _ P _ h.at_ hb hn, h.new⟩
theorem ScI.quiet {w W W' : World} {v : Value} {FP : Nat → Prop} {st : St} {sb : Nat} {s : Sn} {vf : Value} (K : StoreK a w.heap.size (upE EM w.heap.size) SAt) (h : ScI EM SAt w W v FP st sb s vf) (hb : Below W.heap.size W W') : ScI EM SAt w W' v FP st sb s vf :=
  ⟨h.ok.quiet K hb, h.off, h.le, h.snap.below hb, h.files.below hb⟩
theorem SnAt.set6 {W : World} {sb : Nat} {id par seq day idx : Int} {op : ByteArray} {fs gs : List Fl} {v vg : Value} (h : SnAt W sb (id, par, seq, day, idx, op, fs) v) : SnAt (W.setCell ⟨sb, 6, none⟩ vg) sb (id, par, seq, day, idx, op, gs) vg := by
  unfold SnAt at *
  rw [heap_setCell_same _ _ _ _ _ _ h]
  rfl
theorem ScI.set {w W : World} {v : Value} {FP : Nat → Prop} {st : St} {sb : Nat} {id par seq day idx : Int} {op : ByteArray} {fs gs : List Fl} {q : Option Addr} {n c : Nat} {vg : Value} (K : StoreK a w.heap.size (upE EM w.heap.size) SAt) (h : SOk (upE EM w.heap.size) SAt w.heap.size w W v FP st) (ho : ¬ FP sb) (hle : w.heap.size ≤ sb) (hs : SnAt W sb (id, par, seq, day, idx, op, fs) (.slice q n c)) (hg : FlsAt W vg gs) : ScI EM SAt w (W.setCell ⟨sb, 6, none⟩ vg) v FP st sb (id, par, seq, day, idx, op, gs) vg := by
  have hb : But (fun k => k = sb) W (W.setCell ⟨sb, 6, none⟩ vg) := (But.refl (fun k => k = sb) W).setCell (b := sb) (o := 6) (Or.inl rfl) _
  exact ⟨h.but K hb (fun k e => e ▸ hle) (fun k hk e => ho (e ▸ hk)), ho, hle, hs.set6, hg.set_off (off_of hs hg) 6 vg⟩
theorem tab_ok {w w2 W : World} {v : Value} {FP : Nat → Prop} {fs : List Fl} {s r : St} {b : Nat} {vf : Value} (h : TabI (upE EM w2.heap.size) SAt w2.heap.size w2 W v FP fs s r b vf) (hb : Below w.heap.size w w2) : SOk (upE EM w.heap.size) SAt w.heap.size w W v FP s ∧ (∀ k, k < w2.heap.size → ¬ FP k) := by
  obtain ⟨h1, h2, h3, h4, h5⟩ := h.both.ok
  exact ⟨⟨⟨h1.1, Nat.le_trans hb.size h1.2⟩, hb.trans (h2.mono hb.size), Nat.le_refl _, h4, fun k hk => Nat.le_trans hb.size (h5 k hk)⟩, fun k hk hF => by have := h5 k hF; omega⟩
end
section
variable {P : Program} (w : World)
theorem run_append_rows (base : Nat) (v : Value) (n : Nat) (xs : List Value) (hown : w.ownsRow base 54 3 v n xs) (q : Option Addr) (m c : Nat) (l : List Rw) (hs : RowsAt w (.slice q m c) l) (h63 : n + m ≤ 1000000) (hbase : base ≤ w.heap.size) :
    ∃ v' w', (Builtin.append_ #[33, 33] 33 #[v, .slice q m c]).run Tryz.prog w = .ok v' w' ∧ w'.ownsRow base 54 3 v' (n + m) (xs ++ flatR l) ∧ w.grownBy w' v.ownBlock ∧ m = l.length := by
  obtain ⟨i0, hi0, hz0, hs0, hby0⟩ := Tryz.rowInfo
  rcases hs with ⟨p, c', e, rfl⟩ | ⟨b, o, cap, e, hc⟩
  · injection e with e1 e2 e3
    subst e1 e2 e3
    cases q with
    | none =>
      refine ⟨v, w, ?_, by simpa [flatR] using hown, ⟨rfl, rfl, rfl, Nat.le_refl _, fun _ _ _ => rfl⟩, rfl⟩
      rcases hown.2 with ⟨rfl, _⟩ | ⟨g, cap, cur, rfl, _, _, hn, _⟩
      · simp [Builtin.append_, run_underlying Tryz.underlying33, sizeOf, typeInfo, zeroValue, hi0, hz0, Builtin.lenOf, run_firstCells_none]
      · simp [Builtin.append_, run_underlying Tryz.underlying33, sizeOf, typeInfo, zeroValue, hi0, hz0, Builtin.lenOf, run_firstCells_none, hn, storeCells]
    | some ad =>
      obtain ⟨v', w', h1, h2, h3, _⟩ := run_append_src (P := Tryz.prog) w base 33 33 54 i0 (.agg #[.string ⟨#[]⟩, .int .i64 0, .int .i64 0]) 3 32 Tryz.underlying33 hi0 hz0 hs0 hby0 rfl (by decide) v n xs hown (some ad) 0 c (flatR []) rfl (Or.inl ⟨rfl, fun e => by cases e⟩) (flat_one _) (by unfold maxLen; omega) (by omega) hbase
      exact ⟨v', w', h1, h2, h3, rfl⟩
  · injection e with e1 e2 e3
    subst e1 e2 e3
    obtain ⟨v', w', h1, h2, h3, _⟩ := run_append_src (P := Tryz.prog) w base 33 33 54 i0 (.agg #[.string ⟨#[]⟩, .int .i64 0, .int .i64 0]) 3 32 Tryz.underlying33 hi0 hz0 hs0 hby0 rfl (by decide) v n xs hown (some ⟨b, o, none⟩) l.length c (flatR l) (flat_len l) (Or.inr ⟨b, o, rfl, cells_of_flat hc⟩) (flat_one _) (by unfold maxLen; omega) (by omega) hbase
    exact ⟨v', w', h1, h2, h3, rfl⟩
end
end Go.Proofs.YtdhkdjlgmbejnaaGreatDoor
