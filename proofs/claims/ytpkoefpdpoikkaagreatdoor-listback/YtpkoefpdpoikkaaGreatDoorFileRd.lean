/-
  The contract of file.Read.
-/
import Derived.Test.YtpkoefpdpoikkaaGreatDoorRefList4
import Derived.Deep.CutBlock
namespace Go.Proofs.YtpkoefpdpoikkaaGreatDoor
open Go.RowKit Go.Extern.Stop Go.Stop Go.Extern Go.Sort Go.Shelf Go.Lib

set_option maxRecDepth 100000 in
set_option maxHeartbeats 1000000 in
theorem faulted2_same (v : Value) (x y : Int) (w : World)
    (hc : Calls Tryz.prog 78 #[v] (w.alloc (.cells #[.int .i64 x, .int .i64 y] 64)) fun e w' => e = .returned (.tuple #[.int .i64 x, .int .i64 y]) ∧ Below (w.alloc (.cells #[.int .i64 x, .int .i64 y] 64)).heap.size (w.alloc (.cells #[.int .i64 x, .int .i64 y] 64)) w') :
    Calls Tryz.prog 37 #[v, .agg #[.int .i64 x, .int .i64 y]] w fun e w' => e = .returned (.bool true) ∧ Below w.heap.size w w' := by
  have hal : Below w.heap.size w (w.alloc (.cells #[.int .i64 x, .int .i64 y] 64)) := (Below.refl _ _).alloc (Nat.le_refl _) _
  have x0 : (w.alloc (.cells #[.int .i64 x, .int .i64 y] 64)).cell? ⟨w.heap.size, 0, none⟩ = some (.int .i64 x) := by simp
  have x1 : (w.alloc (.cells #[.int .i64 x, .int .i64 y] 64)).cell? ⟨w.heap.size, 1, none⟩ = some (.int .i64 y) := by simp
  go_enter Tryz.func37, Tryz.ntmps37
  go_wp2_with fail
  refine hc.mono ?_
  rintro e w1 ⟨rfl, hb1⟩
  clear hc
  have y0 := below_keep hb1 x0
  have y1 := below_keep hb1 x1
  have hB : Below w.heap.size w w1 := hal.trans (hb1.mono hal.size)
  clear x0 x1
  by_cases hx : x = 0
  · subst hx
    go_wp2
    go_ret
    exact ⟨rfl, hB⟩
  · go_wp2
    go_ret
    exact ⟨by simp, hB⟩

def longFs (fs : List Fl) : Bool := (decide (40 < fs.length) && decide (fs.length ≠ 60) && decide (fs.length ≠ 61)) || fs.any longFB

theorem longFs_no {fs : List Fl} (h : longFs fs = false) : fs.length ≤ 61 ∧ ∀ f ∈ fs, f.1.size ≤ 30 ∧ f.2.1.size ≤ 30 := by
  unfold longFs at h
  rw [Bool.or_eq_false_iff] at h
  refine ⟨?_, fun f hf => ?_⟩
  · have h1 := h.1
    rcases Nat.lt_or_ge 40 fs.length with h' | h'
    · simp only [h', decide_true, Bool.true_and] at h1
      simp at h1
      omega
    · omega
  · have := List.any_eq_false.1 h.2 f hf
    simp only [longFB, Bool.or_eq_true, decide_eq_true_eq, not_or] at this
    omega

theorem anyLong_succ {fs : List Fl} {n : Nat} (h : ∀ j (h : j < fs.length), j < n → longFB fs[j] = false) (hn : n < fs.length) (e : longFB fs[n] = false) : ∀ j (h : j < fs.length), j < n + 1 → longFB fs[j] = false := fun j hj hjn => by
  rcases Nat.lt_or_ge j n with h' | h'
  · exact h j hj h'
  · obtain rfl : j = n := by omega
    exact e

set_option maxRecDepth 100000 in
set_option maxHeartbeats 4000000 in
theorem longFiles_any (v : Value) (fs : List Fl) (w : World) (hx : FlsAt w v fs) (hl : fs.length ≤ maxLen) (hsz : ∀ f ∈ fs, f.1.size ≤ maxLen ∧ f.2.1.size ≤ maxLen) :
    Calls Tryz.prog 26 #[v] w fun e w' => e = .returned (.int .i64 (if longFs fs then 1 else 0)) ∧ Below w.heap.size w w' := by
  obtain ⟨q, cap, rfl⟩ := hx.form
  have HFX : Hid (FlsAt w (.slice q fs.length cap) fs) := hx
  have HSZ : Hid (∀ f ∈ fs, f.1.size ≤ maxLen ∧ f.2.1.size ≤ maxLen) := hsz
  obtain ⟨L, hL⟩ : ∃ L, fs.length = L := ⟨_, rfl⟩
  have HX : Hid (fs.length = L) := hL
  rw [hL] at hl ⊢
  unfold maxLen at hl
  generalize hR : (if longFs fs then (1 : Int) else 0) = R
  have HR : Hid ((if longFs fs then (1 : Int) else 0) = R) := hR
  clear hL hx hsz hR
  by_cases hbig : 40 < L ∧ L ≠ 60 ∧ L ≠ 61
  · have hRR : R = 1 := by
      rw [← HR.out, if_pos]
      unfold longFs
      rw [HX.out]
      simp [hbig.1, hbig.2.1, hbig.2.2]
    subst hRR
    obtain ⟨b1, b2, b3⟩ := hbig
    have i1 : (40 : Int) < (L : Int) := by omega
    have j2 : ((L : Int) != 60) = true := by simp; omega
    have j3 : ((L : Int) != 61) = true := by simp; omega
    go_enter Tryz.func26, Tryz.ntmps26
    go_wp2
    go_ret
    exact ⟨rfl, Below.refl _ _⟩
  · have HS : Hid ((decide (40 < fs.length) && decide (fs.length ≠ 60) && decide (fs.length ≠ 61)) = false) := by
      show _ = _
      rw [HX.out]
      rw [Bool.eq_false_iff]
      intro h
      simp only [Bool.and_eq_true, decide_eq_true_eq] at h
      exact hbig ⟨h.1.1, h.1.2, h.2⟩
    have hc3 : (¬ (40 : Int) < (L : Int)) ∨ ((40 : Int) < (L : Int) ∧ (L : Int) = 60) ∨ ((40 : Int) < (L : Int) ∧ ¬ (L : Int) = 60 ∧ (L : Int) = 61) := by omega
    clear hbig
    rcases hc3 with i1 | ⟨i1, i2⟩ | ⟨i1, i2, i3⟩
    · skip
      go_enter Tryz.func26, Tryz.ntmps26
      go_wp2
      go_loopw [3] (fun k wr => ∃ n : Nat, n ≤ L ∧ k = .int .i64 n ∧ (∀ j (h : j < fs.length), j < n → longFB fs[j] = false) ∧ Below w.heap.size w wr) (fun k _ => L - (intOf k).toNat)
      case atStart => exact ⟨0, by omega, rfl, fun j h h' => absurd h' (Nat.not_lt_zero _), Below.refl _ _⟩
      case round =>
        obtain ⟨n, hn, rfl, hno, hb⟩ := hrel
        have HNO : Hid (∀ j (h : j < fs.length), j < n → longFB fs[j] = false) := hno
        clear hno
        by_cases hlt : n < L
        · have hltx : n < fs.length := by rw [HX.out]; exact hlt
          obtain ⟨b, o, hq, hc⟩ := (HFX.out.below hb).cells (fun e => by rw [e] at hltx; simp at hltx)
          subst hq
          obtain ⟨c0, c1, c2, c3, c4, c5⟩ := hc n hltx
          obtain ⟨k1, k2⟩ := HSZ.out fs[n] (List.getElem_mem _)
          have hlf := longFile_any fs[n] wr k1 k2
          have hyes : longFB fs[n] = true → R = 1 := fun e => by
            rw [← HR.out, if_pos]
            unfold longFs
            rw [Bool.or_eq_true]
            exact Or.inr (List.any_eq_true.2 ⟨fs[n], List.getElem_mem _, e⟩)
          have hnx := fun e => anyLong_succ HNO.out hltx e
          unfold flV at hlf
          generalize longFB fs[n] = lb at hlf hyes hnx
          generalize fs[n] = f at c0 c1 c2 c3 c4 c5 hlf
          obtain ⟨fp, fq, fn, flo, fhi, fseq⟩ := f
          dsimp only at c0 c1 c2 c3 c4 c5 hlf
          have hiL : (n : Int) < (L : Int) := by omega
          have hi0' : (0 : Int) ≤ (n : Int) := by omega
          clear hc k1 k2 hltx
          cases lb with
          | true =>
            obtain rfl := hyes rfl
            simp only [if_true] at hlf
            clear hyes hnx
            go_wp2_with fail
            refine hlf.mono ?_
            rintro e w3 ⟨rfl, hb3⟩
            clear hlf
            go_wp2
            go_ret
            exact ⟨rfl, hb.trans (hb3.mono hb.size)⟩
          | false =>
            have HNX : Hid (∀ j (h : j < fs.length), j < n + 1 → longFB fs[j] = false) := hnx rfl
            simp only [Bool.false_eq_true, if_false] at hlf
            clear hyes hnx
            go_wp2_with fail
            refine hlf.mono ?_
            rintro e w3 ⟨rfl, hb3⟩
            clear hlf
            have hb4 : Below w.heap.size w w3 := hb.trans (hb3.mono hb.size)
            go_wp2
            go_roundw
            case rel => exact ⟨n + 1, by omega, by go_num, HNX.out, hb4⟩
            case measure => simp [intOf]; omega
        · obtain rfl : n = L := by omega
          have hRR : R = 0 := by
            rw [← HR.out, if_neg]
            unfold longFs
            rw [HS.out, Bool.false_or]
            intro h
            obtain ⟨f, hf, e⟩ := List.any_eq_true.1 h
            obtain ⟨j, hj, rfl⟩ := List.mem_iff_getElem.1 hf
            rw [HNO.out j hj (by rw [← HX.out]; exact hj)] at e
            cases e
          subst hRR
          go_wp2
          go_ret
          exact ⟨rfl, hb⟩
    · have j2 : ((L : Int) != 60) = false := by rw [i2]; rfl
      go_enter Tryz.func26, Tryz.ntmps26
      go_wp2
      go_loopw [3] (fun k wr => ∃ n : Nat, n ≤ L ∧ k = .int .i64 n ∧ (∀ j (h : j < fs.length), j < n → longFB fs[j] = false) ∧ Below w.heap.size w wr) (fun k _ => L - (intOf k).toNat)
      case atStart => exact ⟨0, by omega, rfl, fun j h h' => absurd h' (Nat.not_lt_zero _), Below.refl _ _⟩
      case round =>
        obtain ⟨n, hn, rfl, hno, hb⟩ := hrel
        have HNO : Hid (∀ j (h : j < fs.length), j < n → longFB fs[j] = false) := hno
        clear hno
        by_cases hlt : n < L
        · have hltx : n < fs.length := by rw [HX.out]; exact hlt
          obtain ⟨b, o, hq, hc⟩ := (HFX.out.below hb).cells (fun e => by rw [e] at hltx; simp at hltx)
          subst hq
          obtain ⟨c0, c1, c2, c3, c4, c5⟩ := hc n hltx
          obtain ⟨k1, k2⟩ := HSZ.out fs[n] (List.getElem_mem _)
          have hlf := longFile_any fs[n] wr k1 k2
          have hyes : longFB fs[n] = true → R = 1 := fun e => by
            rw [← HR.out, if_pos]
            unfold longFs
            rw [Bool.or_eq_true]
            exact Or.inr (List.any_eq_true.2 ⟨fs[n], List.getElem_mem _, e⟩)
          have hnx := fun e => anyLong_succ HNO.out hltx e
          unfold flV at hlf
          generalize longFB fs[n] = lb at hlf hyes hnx
          generalize fs[n] = f at c0 c1 c2 c3 c4 c5 hlf
          obtain ⟨fp, fq, fn, flo, fhi, fseq⟩ := f
          dsimp only at c0 c1 c2 c3 c4 c5 hlf
          have hiL : (n : Int) < (L : Int) := by omega
          have hi0' : (0 : Int) ≤ (n : Int) := by omega
          clear hc k1 k2 hltx
          cases lb with
          | true =>
            obtain rfl := hyes rfl
            simp only [if_true] at hlf
            clear hyes hnx
            go_wp2_with fail
            refine hlf.mono ?_
            rintro e w3 ⟨rfl, hb3⟩
            clear hlf
            go_wp2
            go_ret
            exact ⟨rfl, hb.trans (hb3.mono hb.size)⟩
          | false =>
            have HNX : Hid (∀ j (h : j < fs.length), j < n + 1 → longFB fs[j] = false) := hnx rfl
            simp only [Bool.false_eq_true, if_false] at hlf
            clear hyes hnx
            go_wp2_with fail
            refine hlf.mono ?_
            rintro e w3 ⟨rfl, hb3⟩
            clear hlf
            have hb4 : Below w.heap.size w w3 := hb.trans (hb3.mono hb.size)
            go_wp2
            go_roundw
            case rel => exact ⟨n + 1, by omega, by go_num, HNX.out, hb4⟩
            case measure => simp [intOf]; omega
        · obtain rfl : n = L := by omega
          have hRR : R = 0 := by
            rw [← HR.out, if_neg]
            unfold longFs
            rw [HS.out, Bool.false_or]
            intro h
            obtain ⟨f, hf, e⟩ := List.any_eq_true.1 h
            obtain ⟨j, hj, rfl⟩ := List.mem_iff_getElem.1 hf
            rw [HNO.out j hj (by rw [← HX.out]; exact hj)] at e
            cases e
          subst hRR
          go_wp2
          go_ret
          exact ⟨rfl, hb⟩
    · have j2 : ((L : Int) != 60) = true := by simp [i2]
      have j3 : ((L : Int) != 61) = false := by rw [i3]; rfl
      go_enter Tryz.func26, Tryz.ntmps26
      go_wp2
      go_loopw [3] (fun k wr => ∃ n : Nat, n ≤ L ∧ k = .int .i64 n ∧ (∀ j (h : j < fs.length), j < n → longFB fs[j] = false) ∧ Below w.heap.size w wr) (fun k _ => L - (intOf k).toNat)
      case atStart => exact ⟨0, by omega, rfl, fun j h h' => absurd h' (Nat.not_lt_zero _), Below.refl _ _⟩
      case round =>
        obtain ⟨n, hn, rfl, hno, hb⟩ := hrel
        have HNO : Hid (∀ j (h : j < fs.length), j < n → longFB fs[j] = false) := hno
        clear hno
        by_cases hlt : n < L
        · have hltx : n < fs.length := by rw [HX.out]; exact hlt
          obtain ⟨b, o, hq, hc⟩ := (HFX.out.below hb).cells (fun e => by rw [e] at hltx; simp at hltx)
          subst hq
          obtain ⟨c0, c1, c2, c3, c4, c5⟩ := hc n hltx
          obtain ⟨k1, k2⟩ := HSZ.out fs[n] (List.getElem_mem _)
          have hlf := longFile_any fs[n] wr k1 k2
          have hyes : longFB fs[n] = true → R = 1 := fun e => by
            rw [← HR.out, if_pos]
            unfold longFs
            rw [Bool.or_eq_true]
            exact Or.inr (List.any_eq_true.2 ⟨fs[n], List.getElem_mem _, e⟩)
          have hnx := fun e => anyLong_succ HNO.out hltx e
          unfold flV at hlf
          generalize longFB fs[n] = lb at hlf hyes hnx
          generalize fs[n] = f at c0 c1 c2 c3 c4 c5 hlf
          obtain ⟨fp, fq, fn, flo, fhi, fseq⟩ := f
          dsimp only at c0 c1 c2 c3 c4 c5 hlf
          have hiL : (n : Int) < (L : Int) := by omega
          have hi0' : (0 : Int) ≤ (n : Int) := by omega
          clear hc k1 k2 hltx
          cases lb with
          | true =>
            obtain rfl := hyes rfl
            simp only [if_true] at hlf
            clear hyes hnx
            go_wp2_with fail
            refine hlf.mono ?_
            rintro e w3 ⟨rfl, hb3⟩
            clear hlf
            go_wp2
            go_ret
            exact ⟨rfl, hb.trans (hb3.mono hb.size)⟩
          | false =>
            have HNX : Hid (∀ j (h : j < fs.length), j < n + 1 → longFB fs[j] = false) := hnx rfl
            simp only [Bool.false_eq_true, if_false] at hlf
            clear hyes hnx
            go_wp2_with fail
            refine hlf.mono ?_
            rintro e w3 ⟨rfl, hb3⟩
            clear hlf
            have hb4 : Below w.heap.size w w3 := hb.trans (hb3.mono hb.size)
            go_wp2
            go_roundw
            case rel => exact ⟨n + 1, by omega, by go_num, HNX.out, hb4⟩
            case measure => simp [intOf]; omega
        · obtain rfl : n = L := by omega
          have hRR : R = 0 := by
            rw [← HR.out, if_neg]
            unfold longFs
            rw [HS.out, Bool.false_or]
            intro h
            obtain ⟨f, hf, e⟩ := List.any_eq_true.1 h
            obtain ⟨j, hj, rfl⟩ := List.mem_iff_getElem.1 hf
            rw [HNO.out j hj (by rw [← HX.out]; exact hj)] at e
            cases e
          subst hRR
          go_wp2
          go_ret
          exact ⟨rfl, hb⟩
end Go.Proofs.YtpkoefpdpoikkaaGreatDoor
namespace Go.Proofs.YtpkoefpdpoikkaaGreatDoor
open Go.RowKit Go.Extern.Stop Go.Stop Go.Extern Go.Sort Go.Shelf Go.Lib

def addE (fs : List Fl) (f : Fl) : Nat × Option Nat := if (listE fs).1 ≠ 0 then listE fs else if fileE f ≠ 0 then (fileE f, none) else if 0 ≤ findF fs f.1 then (7, none) else if 60 ≤ fs.length then (8, none) else (0, none)
def addL (fs : List Fl) (f : Fl) : List Fl := if (addE fs f).1 = 0 then placeL fs f else []
def remE (fs : List Fl) (p : ByteArray) : Nat × Option Nat := if (listE fs).1 ≠ 0 then listE fs else if findF fs p < 0 then (6, none) else (0, none)
def remL (fs : List Fl) (p : ByteArray) : List Fl := if (remE fs p).1 = 0 then fs.filter (offP p) else []

end Go.Proofs.YtpkoefpdpoikkaaGreatDoor
namespace Go.Proofs.YtpkoefpdpoikkaaGreatDoor
open Go.RowKit Go.Extern.Stop Go.Stop Go.Extern Go.Sort Go.Shelf Go.Lib

def ToldE (W : World) (a : Nat → Addr) (ev : Value) (c : Nat × Option Nat) : Prop := match c.2 with
  | none => ev = errV a c.1
  | some j => c.1 ≠ 0 ∧ ∃ fb, ev = .iface 108 (.pointer (some ⟨fb, 0, none⟩)) ∧ W.cell? ⟨fb, 0, none⟩ = some (.int .i64 j) ∧ W.cell? ⟨fb, 1, none⟩ = some (errV a c.1)

theorem ToldE.ok {W : World} {a : Nat → Addr} {ev : Value} {c : Nat × Option Nat} (h : ToldE W a ev c) (h0 : c.1 = 0) : ev = .nilIface := by
  obtain ⟨n, o⟩ := c
  dsimp only at h0
  subst h0
  cases o with
  | none => exact h
  | some j => exact absurd rfl h.1

theorem ToldE.bad {W : World} {a : Nat → Addr} {ev : Value} {c : Nat × Option Nat} (h : ToldE W a ev c) (h0 : c.1 ≠ 0) : ∃ t u, ev = .iface t u := by
  obtain ⟨n, o⟩ := c
  cases o with
  | none =>
    cases n with
    | zero => exact absurd rfl h0
    | succ n => exact ⟨_, _, h⟩
  | some j =>
    obtain ⟨_, fb, h, _⟩ := h
    exact ⟨_, _, h⟩

def Short (fs : List Fl) : Prop := ∀ g ∈ fs, g.1.size ≤ 30 ∧ g.2.1.size ≤ 30

def boxW (W : World) (f : Fl) : World := W.alloc (.cells #[.string f.1, .string f.2.1, .int .i64 f.2.2.1, .int .i64 f.2.2.2.1, .int .i64 f.2.2.2.2.1, .int .i64 f.2.2.2.2.2] 23)
theorem boxW_at (W : World) (f : Fl) : FlAt (boxW W f) W.heap.size f := FlAt.new W f
theorem boxW_below (W : World) (f : Fl) : Below W.heap.size W (boxW W f) := (Below.refl _ _).alloc (Nat.le_refl _) _

theorem flsAt_take {w : World} {b o cap : Nat} {fs : List Fl} (h : FlCells w b o fs) {n : Nat} (hn : n ≤ fs.length) (hc : fs.length ≤ cap) : FlsAt w (.slice (some ⟨b, o, none⟩) n cap) (fs.take n) := by
  refine Or.inr ⟨b, o, cap, ?_, ?_, flCells_take h n⟩
  · rw [List.length_take, Nat.min_eq_left hn]
  · rw [List.length_take]; omega

theorem flsAt_drop {w : World} {b o cap L : Nat} {fs : List Fl} (h : FlCells w b o fs) {n : Nat} (hn : n ≤ fs.length) (hc : fs.length ≤ cap) (hL : fs.length = L) : FlsAt w (.slice (some ⟨b, o + n * 6, none⟩) (L - n) (cap - n)) (fs.drop n) := by
  refine Or.inr ⟨b, o + n * 6, cap - n, ?_, ?_, flCells_drop h n⟩
  · rw [List.length_drop, hL]
  · rw [List.length_drop]; omega
def NewL (w : World) (v : Value) : Prop := ∀ k, v.ownBlock = some k → w.heap.size ≤ k
theorem newL_nil (w : World) : NewL w (.slice none 0 0) := fun k hk => by simp [Value.ownBlock] at hk
theorem own_ge {w : World} {B : Nat} {e : TypeId} {z : Nat} {v : Value} {n : Nat} {xs : List Value} (h : w.ownsRow B e z v n xs) {k : Nat} (hk : v.ownBlock = some k) : B ≤ k := by
  rcases h.2 with ⟨rfl, _⟩ | ⟨g, cap, cur, rfl, hB, _⟩
  · simp [Value.ownBlock] at hk
  · simp only [Value.ownBlock, Option.some.injEq] at hk
    exact hk ▸ hB
end Go.Proofs.YtpkoefpdpoikkaaGreatDoor
namespace Go.Proofs.YtpkoefpdpoikkaaGreatDoor
open Go.RowKit Go.Extern.Stop Go.Stop Go.Extern Go.Sort Go.Shelf Go.Lib

theorem own_slice {W : World} {base : Nat} {e : TypeId} {size : Nat} {v : Value} {n : Nat} {xs : List Value} (h : W.ownsRow base e size v n xs) : ∃ q c, v = .slice q n c := by
  rcases h.2 with ⟨rfl, rfl⟩ | ⟨g, cap, cur, rfl, _⟩
  · exact ⟨_, _, rfl⟩
  · exact ⟨_, _, rfl⟩

end Go.Proofs.YtpkoefpdpoikkaaGreatDoor
namespace Go.Proofs.YtpkoefpdpoikkaaGreatDoor
open Go.RowKit Go.Extern.Stop Go.Stop Go.Extern Go.Sort Go.Shelf Go.Lib

theorem readF_other {l : List UInt8} (h : (words l).length ≠ 6) : readF l = (zeroF, 1) := by
  unfold readF
  split
  · rename_i e; rw [e] at h; simp at h
  · rfl

theorem readF_six {l p q a b c d : List UInt8} (h : words l = [p, q, a, b, c, d]) : readF l = (match numO a, numO b, numO c, numO d with
    | some n, some lo, some hi, some seq => chkF (bytesOf p, bytesOf q, n, lo, hi, seq)
    | _, _, _, _ => (zeroF, 1)) := by
  unfold readF
  rw [h]
  rfl

theorem six_of {α : Type} {ts : List α} (h : ts.length = 6) : ∃ a b c d e f, ts = [a, b, c, d, e, f] := by
  match ts, h with
  | [a, b, c, d, e, f], _ => exact ⟨a, b, c, d, e, f, rfl⟩

theorem cell_store {W : World} {b R o : Nat} {v v0 v1 v2 v3 v4 v5 : Value} (h : b ≠ R) (hc : W.cell? ⟨b, o, none⟩ = some v) : ((((((W.setCell ⟨R, 0, none⟩ v0).setCell ⟨R, 1, none⟩ v1).setCell ⟨R, 2, none⟩ v2).setCell ⟨R, 3, none⟩ v3).setCell ⟨R, 4, none⟩ v4).setCell ⟨R, 5, none⟩ v5).cell? ⟨b, o, none⟩ = some v := by
  rw [World.cell?_setCell_other _ _ _ _ (by simp), World.cell?_setCell_other _ _ _ _ (by simp), World.cell?_setCell_other _ _ _ _ (by simp), World.cell?_setCell_other _ _ _ _ (by simp), World.cell?_setCell_other _ _ _ _ (by simp), World.cell?_setCell_other _ _ _ _ (by simp)]
  exact hc

theorem below_store {W w : World} {R : Nat} {v0 v1 v2 v3 v4 v5 : Value} (h : Below R w W) : Below R w ((((((W.setCell ⟨R, 0, none⟩ v0).setCell ⟨R, 1, none⟩ v1).setCell ⟨R, 2, none⟩ v2).setCell ⟨R, 3, none⟩ v3).setCell ⟨R, 4, none⟩ v4).setCell ⟨R, 5, none⟩ v5) :=
  (((((h.setCell (Nat.le_refl _) _).setCell (Nat.le_refl _) _).setCell (Nat.le_refl _) _).setCell (Nat.le_refl _) _).setCell (Nat.le_refl _) _).setCell (Nat.le_refl _) _

set_option maxRecDepth 100000 in
set_option maxHeartbeats 8000000 in
theorem fread_any (s : ByteArray) (w : World) (a : Nat → Addr) (h : EnvR w a) (hs : s.size ≤ 100000) :
    Calls Tryz.prog 14 #[.string s] w fun e w' => e = .returned (.tuple #[flV (readF s.data.toList).1, errV a (readF s.data.toList).2]) ∧ Below w.heap.size w w' := by
  have hal : Below w.heap.size w (w.alloc (.cells #[.string ⟨#[]⟩, .string ⟨#[]⟩, .int .i64 0, .int .i64 0, .int .i64 0, .int .i64 0] 23)) := (Below.refl _ _).alloc (Nat.le_refl _) _
  have hfz : FlAt (w.alloc (.cells #[.string ⟨#[]⟩, .string ⟨#[]⟩, .int .i64 0, .int .i64 0, .int .i64 0, .int .i64 0] 23)) w.heap.size zeroF := FlAt.new w zeroF
  have hsp := splitTx_any s _ a (h.below hal).weak (by omega)
  generalize hR : readF s.data.toList = R
  have HR : Hid (readF s.data.toList = R) := hR
  clear hR
  have hwl := words_len s.data.toList
  have ZERO : Hid (∀ W, FlAt W w.heap.size zeroF → (W.cell? ⟨w.heap.size, 0, none⟩ = some (.string ⟨#[]⟩) ∧ W.cell? ⟨w.heap.size, 1, none⟩ = some (.string ⟨#[]⟩) ∧ W.cell? ⟨w.heap.size, 2, none⟩ = some (.int .i64 0) ∧ W.cell? ⟨w.heap.size, 3, none⟩ = some (.int .i64 0) ∧ W.cell? ⟨w.heap.size, 4, none⟩ = some (.int .i64 0) ∧ W.cell? ⟨w.heap.size, 5, none⟩ = some (.int .i64 0) ∧ ∀ o, W.frozen? ⟨w.heap.size, o, none⟩ = false)) := fun W hW => hW.cells
  go_enter Tryz.func14, Tryz.ntmps14
  go_wp2_with fail
  generalize w.alloc (.cells #[.string ⟨#[]⟩, .string ⟨#[]⟩, .int .i64 0, .int .i64 0, .int .i64 0, .int .i64 0] 23) = WA at hal hfz hsp ⊢
  refine hsp.mono ?_
  rintro e w1 ⟨v1, ts, rfl, hts, htm, hb1⟩
  clear hsp
  have hB1 : Below w.heap.size w w1 := hal.trans (hb1.mono hal.size)
  have HF1 : Hid (FlAt w1 w.heap.size zeroF) := hfz.below hb1
  clear hfz hb1 hal
  obtain ⟨b, rfl, hcell⟩ := hts
  by_cases h6 : ts.length = 6
  · obtain ⟨P, Q, A, B, C, D, rfl⟩ := six_of h6
    have hw : words s.data.toList = [P.data.toList, Q.data.toList, A.data.toList, B.data.toList, C.data.toList, D.data.toList] := by rw [← htm]; rfl
    have hrs := HR.out
    rw [readF_six hw, bytesOf_data, bytesOf_data] at hrs
    have hwz : ∀ t ∈ [P, Q, A, B, C, D], t.size ≤ 100000 := fun t ht => by
      have := hwl t.data.toList (by rw [← htm]; exact List.mem_map.2 ⟨t, ht, rfl⟩)
      rw [size_list, size_list] at this
      omega
    have hP := hwz P (by simp)
    have hQ := hwz Q (by simp)
    have c0 := hcell 0 (by simp)
    have c1 := hcell 1 (by simp)
    have c2 := hcell 2 (by simp)
    simp only [List.getElem_cons_succ, List.getElem_cons_zero] at c0 c1 c2
    have hnm := numbers_any b 2 4 [A, B, C, D] w1 a (h.below hB1).weak (fun j hj => by
      have hj' : j + 2 < [P, Q, A, B, C, D].length := by simp at hj ⊢; omega
      have := hcell (j + 2) hj'
      rw [Nat.add_comm 2 j]
      simpa using this) (fun t ht => by
        have := hwz t (List.mem_cons_of_mem _ (List.mem_cons_of_mem _ ht))
        unfold maxLen; omega) (by simp)
    have HRS : Hid ((match numO A.data.toList, numO B.data.toList, numO C.data.toList, numO D.data.toList with
      | some n, some lo, some hi, some seq => chkF (P, Q, n, lo, hi, seq)
      | _, _, _, _ => (zeroF, 1)) = R) := hrs
    clear hw htm hwl hcell h6 hwz hrs
    simp only [List.length_cons, List.length_nil, Nat.zero_add, Nat.reduceAdd] at hnm ⊢
    go_wp2_with fail
    refine hnm.mono ?_
    rintro e w3 ⟨hres, hb3⟩
    clear hnm
    have hB3 : Below w.heap.size w w3 := hB1.trans (hb3.mono hB1.size)
    have HF3 : Hid (FlAt w3 w.heap.size zeroF) := HF1.out.below hb3
    rcases hres with ⟨zs, g, hzl, hzn, rfl, hzc⟩ | ⟨j, t, ht, hno, rfl⟩
    · obtain ⟨n, lo, hi, seq, hz4⟩ : ∃ z0 z1 z2 z3, zs = [z0, z1, z2, z3] := by
        match zs, hzl with
        | [z0, z1, z2, z3], _ => exact ⟨z0, z1, z2, z3, rfl⟩
      subst hz4
      have HX : Hid (chkF (P, Q, n, lo, hi, seq) = R) := by
        show _ = _
        rw [← HRS.out]
        have q0 := hzn 0 A rfl
        have q1 := hzn 1 B rfl
        have q2 := hzn 2 C rfl
        have q3 := hzn 3 D rfl
        rw [q0, q1, q2, q3]
        rfl
      have d0 := below_keep hb3 c0
      have d1 := below_keep hb3 c1
      have k0 := hzc 0 (by simp)
      have k1 := hzc 1 (by simp)
      have k2 := hzc 2 (by simp)
      have k3 := hzc 3 (by simp)
      simp only [List.getElem_cons_succ, List.getElem_cons_zero] at k0 k1 k2 k3
      have hck := fun W (hW : EnvK W a) => checked_any (P, Q, n, lo, hi, seq) W a hW hP hQ
      rw [HX.out] at hck
      unfold flV at hck
      obtain ⟨⟨rp, rq, rn, rlo, rhi, rseq⟩, rE⟩ := R
      dsimp only at hck
      have hbR : b ≠ w.heap.size := fun e => by
        have e2 := (ZERO.out w3 HF3.out).2.2.1
        rw [← e] at e2
        have := (below_keep hb3 c2).symm.trans e2
        simp at this
      have hgR : g ≠ w.heap.size := fun e => by
        have e2 := (ZERO.out w3 HF3.out).1
        rw [← e] at e2
        have := k0.symm.trans e2
        simp at this
      have hbR' : ¬ w.heap.size = b := fun e => hbR e.symm
      have hgR' : ¬ w.heap.size = g := fun e => hgR e.symm
      have hbd : Below w3.heap.size w3 w3.drew := (Below.refl _ _).drew
      have hz3 := HF3.out.below hbd
      have HZ3 : Hid (FlAt w3.drew w.heap.size zeroF) := hz3
      have hck3 := hck w3.drew (h.below (hB3.trans (hbd.mono hB3.size))).file
      clear hzn hzc hzl c0 c1 c2 hb3 HRS hck hz3 hbd
      simp only [List.length_cons, List.length_nil, Nat.zero_add, Nat.reduceAdd]
      go_wp2_with fail
      go_region_held3 (fun w' => w'.cell? ⟨b, 0, none⟩ = some (.string P) ∧ w'.cell? ⟨b, 1, none⟩ = some (.string Q) ∧ w'.cell? ⟨g, 0, none⟩ = some (.int .i64 n) ∧ w'.cell? ⟨g, 1, none⟩ = some (.int .i64 lo) ∧ w'.cell? ⟨g, 2, none⟩ = some (.int .i64 hi) ∧ w'.cell? ⟨g, 3, none⟩ = some (.int .i64 seq) ∧ Below w.heap.size w w')
        (first
          | (go_split_ands; with_reducible exact ⟨below_keep hbX (by assumption), below_keep hbX (by assumption), below_keep hbX (by assumption), below_keep hbX (by assumption), below_keep hbX (by assumption), below_keep hbX (by assumption), Below.trans (by assumption) (hbX.mono (Below.size (by assumption)))⟩)
          | (go_split_ands; with_reducible exact ⟨cell_store hbR (by assumption), cell_store hbR (by assumption), cell_store hgR (by assumption), cell_store hgR (by assumption), cell_store hgR (by assumption), cell_store hgR (by assumption), below_store (by assumption)⟩)
          | (go_split_ands; exact ⟨by go_keep, by go_keep, by go_keep, by go_keep, by go_keep, by go_keep, Below.drew (by assumption)⟩))
        (first
          | (go_at_call 65; refine hck3.mono ?_; rintro e w5 ⟨rfl, hbX⟩; obtain ⟨y0, y1, y2, y3, y4, y5, yf⟩ := ZERO.out w5 (HZ3.out.below hbX)))
      go_split_ands
      have hz5 := HZ3.out.below hbX
      have hB5 : Below w.heap.size w w5 := hB3.drew.trans (hbX.mono hB3.drew.size)
      obtain ⟨z0, z1, z2, z3, z4, z5, _⟩ := (hz5.set (rp, rq, rn, rlo, rhi, rseq)).cells
      have hB6 := flSet_below (f := (rp, rq, rn, rlo, rhi, rseq)) hB5 (Nat.le_refl w.heap.size)
      unfold flSet at z0 z1 z2 z3 z4 z5 hB6
      dsimp only at z0 z1 z2 z3 z4 z5 hB6
      clear hz5
      go_wp2
      exact bodyPost_ret (v := .tuple #[.agg #[.string rp, .string rq, .int .i64 rn, .int .i64 rlo, .int .i64 rhi, .int .i64 rseq], errV a rE]) (by simp [results, Tryz.results14, go_sem, z0, z1, z2, z3, z4, z5]) rfl ⟨rfl, hB6⟩
    · have hbadR : R = (zeroF, 1) := by
        rw [← HRS.out]
        match j, ht with
        | 0, ht => rw [Option.some.inj ht, hno]
        | 1, ht => rw [Option.some.inj ht, hno]; split <;> simp_all
        | 2, ht => rw [Option.some.inj ht, hno]; split <;> simp_all
        | 3, ht => rw [Option.some.inj ht, hno]; split <;> simp_all
      subst hbadR
      clear HRS ht hno c0 c1
      have et := (h.below hB3).text
      obtain ⟨y0, y1, y2, y3, y4, y5, yf⟩ := ZERO.out w3 HF3.out
      have s0 := setCell_self y0
      have s1 := setCell_self y1
      have s2 := setCell_self y2
      have s3 := setCell_self y3
      have s4 := setCell_self y4
      have s5 := setCell_self y5
      go_wp2
      go_region
      all_goals go_wp2
      all_goals exact bodyPost_ret (v := .tuple #[.agg #[.string ⟨#[]⟩, .string ⟨#[]⟩, .int .i64 0, .int .i64 0, .int .i64 0, .int .i64 0], .iface 289 (.pointer (some (a 0)))]) (by simp [results, Tryz.results14, go_sem, y0, y1, y2, y3, y4, y5]) rfl ⟨rfl, hB3.drew⟩
  · have hRR := HR.out.symm.trans (readF_other (l := s.data.toList) (fun e => h6 (by rw [← e, ← htm, List.length_map])))
    subst hRR
    generalize ts.length = L at h6 ⊢
    have hne : ¬ (L : Int) = 6 := by omega
    clear htm hwl hcell h6 HR
    have et := (h.below hB1).text
    obtain ⟨y0, y1, y2, y3, y4, y5, yf⟩ := ZERO.out w1 HF1.out
    have s0 := setCell_self y0
    have s1 := setCell_self y1
    have s2 := setCell_self y2
    have s3 := setCell_self y3
    have s4 := setCell_self y4
    have s5 := setCell_self y5
    go_wp2
    go_region
    all_goals go_wp2
    all_goals exact bodyPost_ret (v := .tuple #[.agg #[.string ⟨#[]⟩, .string ⟨#[]⟩, .int .i64 0, .int .i64 0, .int .i64 0, .int .i64 0], .iface 289 (.pointer (some (a 0)))]) (by simp [results, Tryz.results14, go_sem, y0, y1, y2, y3, y4, y5]) rfl ⟨rfl, hB1.drew⟩
end Go.Proofs.YtpkoefpdpoikkaaGreatDoor
