/-
  The contracts of the second package of statements' own faulted and LongFiles.
  What the statements on lists ask of the program's functions, in one word; the closed fact of the statements.
-/
import Derived.Test.YtpiagofhgalklacGreatDoorFaulted
import Derived.Test.YtpiagofhgalklacGreatDoorFileKnown
import Derived.Test.YtpiagofhgalklacGreatDoorRefList1
import Derived.Test.YtpiagofhgalklacGreatDoorListRd
namespace Go.Proofs.YtpiagofhgalklacGreatDoor
open Go.RowKit Go.Extern.Stop Go.Stop Go.Extern Go.Sort Go.Shelf Go.Lib

set_option maxRecDepth 100000 in
set_option maxHeartbeats 1000000 in
theorem faulted2_same (v : Value) (x y : Int) (w : World)
    (hc : Calls Tryz.prog 47 #[v] (w.alloc (.cells #[.int .i64 x, .int .i64 y] 30)) fun e w' => e = .returned (.tuple #[.int .i64 x, .int .i64 y]) ∧ Below (w.alloc (.cells #[.int .i64 x, .int .i64 y] 30)).heap.size (w.alloc (.cells #[.int .i64 x, .int .i64 y] 30)) w') :
    Calls Tryz.prog 12 #[v, .agg #[.int .i64 x, .int .i64 y]] w fun e w' => e = .returned (.bool true) ∧ Below w.heap.size w w' := by
  have hal : Below w.heap.size w (w.alloc (.cells #[.int .i64 x, .int .i64 y] 30)) := (Below.refl _ _).alloc (Nat.le_refl _) _
  have x0 : (w.alloc (.cells #[.int .i64 x, .int .i64 y] 30)).cell? ⟨w.heap.size, 0, none⟩ = some (.int .i64 x) := by simp
  have x1 : (w.alloc (.cells #[.int .i64 x, .int .i64 y] 30)).cell? ⟨w.heap.size, 1, none⟩ = some (.int .i64 y) := by simp
  go_enter Tryz.func12, Tryz.ntmps12
  go_wp2_with fail
  refine hc.mono ?_
  rintro e w1 ⟨rfl, hb1⟩
  clear hc
  have y0 := below_keep hb1 x0
  have y1 := below_keep hb1 x1
  have hB : Below w.heap.size w w1 := hal.trans (hb1.mono hal.size)
  clear x0 x1
  by_cases hx : x = 0
  · subst hx
    go_wp2
    go_ret
    exact ⟨rfl, hB⟩
  · go_wp2
    go_ret
    exact ⟨by simp, hB⟩

theorem faulted2_err (n : Nat) (hn : n ≤ 12) (w : World) (a : Nat → Addr) (h : Errs w a) :
    Calls Tryz.prog 12 #[errV a n, .agg #[.int .i64 n, .int .i64 (-1)]] w fun e w' => e = .returned (.bool true) ∧ Below w.heap.size w w' :=
  faulted2_same _ _ _ w (err_code n hn _ a (h.below ((Below.refl _ _).alloc (Nat.le_refl _) _)))

theorem faulted2_at (n : Nat) (h0 : n ≠ 0) (hn : n ≤ 12) (w : World) (a : Nat → Addr) (h : Errs w a) (fb : Nat) (j : Int) (c0 : w.cell? ⟨fb, 0, none⟩ = some (.int .i64 j)) (c1 : w.cell? ⟨fb, 1, none⟩ = some (errV a n)) :
    Calls Tryz.prog 12 #[.iface 85 (.pointer (some ⟨fb, 0, none⟩)), .agg #[.int .i64 n, .int .i64 j]] w fun e w' => e = .returned (.bool true) ∧ Below w.heap.size w w' :=
  faulted2_same _ _ _ w (fault_code n h0 hn _ a (h.below ((Below.refl _ _).alloc (Nat.le_refl _) _)) fb j (below_keep ((Below.refl _ _).alloc (Nat.le_refl _) _) c0) (below_keep ((Below.refl _ _).alloc (Nat.le_refl _) _) c1))

/-- Are files too many, or too long, for a statement? -/
def longFs (fs : List Fl) : Bool := (decide (40 < fs.length) && decide (fs.length ≠ 60) && decide (fs.length ≠ 61)) || fs.any longFB

theorem longFs_no {fs : List Fl} (h : longFs fs = false) : fs.length ≤ 61 ∧ ∀ f ∈ fs, f.1.size ≤ 30 ∧ f.2.1.size ≤ 30 := by
  unfold longFs at h
  rw [Bool.or_eq_false_iff] at h
  refine ⟨?_, fun f hf => ?_⟩
  · have h1 := h.1
    rcases Nat.lt_or_ge 40 fs.length with h' | h'
    · simp only [h', decide_true, Bool.true_and] at h1
      simp at h1
      omega
    · omega
  · have := List.any_eq_false.1 h.2 f hf
    simp only [longFB, Bool.or_eq_true, decide_eq_true_eq, not_or] at this
    omega

theorem anyLong_succ {fs : List Fl} {n : Nat} (h : ∀ j (h : j < fs.length), j < n → longFB fs[j] = false) (hn : n < fs.length) (e : longFB fs[n] = false) : ∀ j (h : j < fs.length), j < n + 1 → longFB fs[j] = false := fun j hj hjn => by
  rcases Nat.lt_or_ge j n with h' | h'
  · exact h j hj h'
  · obtain rfl : j = n := by omega
    exact e

set_option maxRecDepth 100000 in
set_option maxHeartbeats 4000000 in
theorem longFiles_any (v : Value) (fs : List Fl) (w : World) (hx : FlsAt w v fs) (hl : fs.length ≤ maxLen) (hsz : ∀ f ∈ fs, f.1.size ≤ maxLen ∧ f.2.1.size ≤ maxLen) :
    Calls Tryz.prog 7 #[v] w fun e w' => e = .returned (.int .i64 (if longFs fs then 1 else 0)) ∧ Below w.heap.size w w' := by
  obtain ⟨q, cap, rfl⟩ := hx.form
  have HFX : Hid (FlsAt w (.slice q fs.length cap) fs) := hx
  have HSZ : Hid (∀ f ∈ fs, f.1.size ≤ maxLen ∧ f.2.1.size ≤ maxLen) := hsz
  obtain ⟨L, hL⟩ : ∃ L, fs.length = L := ⟨_, rfl⟩
  have HX : Hid (fs.length = L) := hL
  rw [hL] at hl ⊢
  unfold maxLen at hl
  generalize hR : (if longFs fs then (1 : Int) else 0) = R
  have HR : Hid ((if longFs fs then (1 : Int) else 0) = R) := hR
  clear hL hx hsz hR
  by_cases hbig : 40 < L ∧ L ≠ 60 ∧ L ≠ 61
  · have hRR : R = 1 := by
      rw [← HR.out, if_pos]
      unfold longFs
      rw [HX.out]
      simp [hbig.1, hbig.2.1, hbig.2.2]
    subst hRR
    obtain ⟨b1, b2, b3⟩ := hbig
    have i1 : (40 : Int) < (L : Int) := by omega
    have j2 : ((L : Int) != 60) = true := by simp; omega
    have j3 : ((L : Int) != 61) = true := by simp; omega
    go_enter Tryz.func7, Tryz.ntmps7
    go_wp2
    go_ret
    exact ⟨rfl, Below.refl _ _⟩
  · have HS : Hid ((decide (40 < fs.length) && decide (fs.length ≠ 60) && decide (fs.length ≠ 61)) = false) := by
      show _ = _
      rw [HX.out]
      rw [Bool.eq_false_iff]
      intro h
      simp only [Bool.and_eq_true, decide_eq_true_eq] at h
      exact hbig ⟨h.1.1, h.1.2, h.2⟩
    have hc3 : (¬ (40 : Int) < (L : Int)) ∨ ((40 : Int) < (L : Int) ∧ (L : Int) = 60) ∨ ((40 : Int) < (L : Int) ∧ ¬ (L : Int) = 60 ∧ (L : Int) = 61) := by omega
    clear hbig
    rcases hc3 with i1 | ⟨i1, i2⟩ | ⟨i1, i2, i3⟩
    · skip
      go_enter Tryz.func7, Tryz.ntmps7
      go_wp2
      go_loopw [3] (fun k wr => ∃ n : Nat, n ≤ L ∧ k = .int .i64 n ∧ (∀ j (h : j < fs.length), j < n → longFB fs[j] = false) ∧ Below w.heap.size w wr) (fun k _ => L - (intOf k).toNat)
      case atStart => exact ⟨0, by omega, rfl, fun j h h' => absurd h' (Nat.not_lt_zero _), Below.refl _ _⟩
      case round =>
        obtain ⟨n, hn, rfl, hno, hb⟩ := hrel
        have HNO : Hid (∀ j (h : j < fs.length), j < n → longFB fs[j] = false) := hno
        clear hno
        by_cases hlt : n < L
        · have hltx : n < fs.length := by rw [HX.out]; exact hlt
          obtain ⟨b, o, hq, hc⟩ := (HFX.out.below hb).cells (fun e => by rw [e] at hltx; simp at hltx)
          subst hq
          obtain ⟨c0, c1, c2, c3, c4, c5⟩ := hc n hltx
          obtain ⟨k1, k2⟩ := HSZ.out fs[n] (List.getElem_mem _)
          have hlf := longFile_any fs[n] wr k1 k2
          have hyes : longFB fs[n] = true → R = 1 := fun e => by
            rw [← HR.out, if_pos]
            unfold longFs
            rw [Bool.or_eq_true]
            exact Or.inr (List.any_eq_true.2 ⟨fs[n], List.getElem_mem _, e⟩)
          have hnx := fun e => anyLong_succ HNO.out hltx e
          unfold flV at hlf
          generalize longFB fs[n] = lb at hlf hyes hnx
          generalize fs[n] = f at c0 c1 c2 c3 c4 c5 hlf
          obtain ⟨fp, fq, fn, flo, fhi, fseq⟩ := f
          dsimp only at c0 c1 c2 c3 c4 c5 hlf
          have hiL : (n : Int) < (L : Int) := by omega
          have hi0' : (0 : Int) ≤ (n : Int) := by omega
          clear hc k1 k2 hltx
          cases lb with
          | true =>
            obtain rfl := hyes rfl
            simp only [if_true] at hlf
            clear hyes hnx
            go_wp2_with fail
            refine hlf.mono ?_
            rintro e w3 ⟨rfl, hb3⟩
            clear hlf
            go_wp2
            go_ret
            exact ⟨rfl, hb.trans (hb3.mono hb.size)⟩
          | false =>
            have HNX : Hid (∀ j (h : j < fs.length), j < n + 1 → longFB fs[j] = false) := hnx rfl
            simp only [Bool.false_eq_true, if_false] at hlf
            clear hyes hnx
            go_wp2_with fail
            refine hlf.mono ?_
            rintro e w3 ⟨rfl, hb3⟩
            clear hlf
            have hb4 : Below w.heap.size w w3 := hb.trans (hb3.mono hb.size)
            go_wp2
            go_roundw
            case rel => exact ⟨n + 1, by omega, by go_num, HNX.out, hb4⟩
            case measure => simp [intOf]; omega
        · obtain rfl : n = L := by omega
          have hRR : R = 0 := by
            rw [← HR.out, if_neg]
            unfold longFs
            rw [HS.out, Bool.false_or]
            intro h
            obtain ⟨f, hf, e⟩ := List.any_eq_true.1 h
            obtain ⟨j, hj, rfl⟩ := List.mem_iff_getElem.1 hf
            rw [HNO.out j hj (by rw [← HX.out]; exact hj)] at e
            cases e
          subst hRR
          go_wp2
          go_ret
          exact ⟨rfl, hb⟩
    · have j2 : ((L : Int) != 60) = false := by rw [i2]; rfl
      go_enter Tryz.func7, Tryz.ntmps7
      go_wp2
      go_loopw [3] (fun k wr => ∃ n : Nat, n ≤ L ∧ k = .int .i64 n ∧ (∀ j (h : j < fs.length), j < n → longFB fs[j] = false) ∧ Below w.heap.size w wr) (fun k _ => L - (intOf k).toNat)
      case atStart => exact ⟨0, by omega, rfl, fun j h h' => absurd h' (Nat.not_lt_zero _), Below.refl _ _⟩
      case round =>
        obtain ⟨n, hn, rfl, hno, hb⟩ := hrel
        have HNO : Hid (∀ j (h : j < fs.length), j < n → longFB fs[j] = false) := hno
        clear hno
        by_cases hlt : n < L
        · have hltx : n < fs.length := by rw [HX.out]; exact hlt
          obtain ⟨b, o, hq, hc⟩ := (HFX.out.below hb).cells (fun e => by rw [e] at hltx; simp at hltx)
          subst hq
          obtain ⟨c0, c1, c2, c3, c4, c5⟩ := hc n hltx
          obtain ⟨k1, k2⟩ := HSZ.out fs[n] (List.getElem_mem _)
          have hlf := longFile_any fs[n] wr k1 k2
          have hyes : longFB fs[n] = true → R = 1 := fun e => by
            rw [← HR.out, if_pos]
            unfold longFs
            rw [Bool.or_eq_true]
            exact Or.inr (List.any_eq_true.2 ⟨fs[n], List.getElem_mem _, e⟩)
          have hnx := fun e => anyLong_succ HNO.out hltx e
          unfold flV at hlf
          generalize longFB fs[n] = lb at hlf hyes hnx
          generalize fs[n] = f at c0 c1 c2 c3 c4 c5 hlf
          obtain ⟨fp, fq, fn, flo, fhi, fseq⟩ := f
          dsimp only at c0 c1 c2 c3 c4 c5 hlf
          have hiL : (n : Int) < (L : Int) := by omega
          have hi0' : (0 : Int) ≤ (n : Int) := by omega
          clear hc k1 k2 hltx
          cases lb with
          | true =>
            obtain rfl := hyes rfl
            simp only [if_true] at hlf
            clear hyes hnx
            go_wp2_with fail
            refine hlf.mono ?_
            rintro e w3 ⟨rfl, hb3⟩
            clear hlf
            go_wp2
            go_ret
            exact ⟨rfl, hb.trans (hb3.mono hb.size)⟩
          | false =>
            have HNX : Hid (∀ j (h : j < fs.length), j < n + 1 → longFB fs[j] = false) := hnx rfl
            simp only [Bool.false_eq_true, if_false] at hlf
            clear hyes hnx
            go_wp2_with fail
            refine hlf.mono ?_
            rintro e w3 ⟨rfl, hb3⟩
            clear hlf
            have hb4 : Below w.heap.size w w3 := hb.trans (hb3.mono hb.size)
            go_wp2
            go_roundw
            case rel => exact ⟨n + 1, by omega, by go_num, HNX.out, hb4⟩
            case measure => simp [intOf]; omega
        · obtain rfl : n = L := by omega
          have hRR : R = 0 := by
            rw [← HR.out, if_neg]
            unfold longFs
            rw [HS.out, Bool.false_or]
            intro h
            obtain ⟨f, hf, e⟩ := List.any_eq_true.1 h
            obtain ⟨j, hj, rfl⟩ := List.mem_iff_getElem.1 hf
            rw [HNO.out j hj (by rw [← HX.out]; exact hj)] at e
            cases e
          subst hRR
          go_wp2
          go_ret
          exact ⟨rfl, hb⟩
    · have j2 : ((L : Int) != 60) = true := by simp [i2]
      have j3 : ((L : Int) != 61) = false := by rw [i3]; rfl
      go_enter Tryz.func7, Tryz.ntmps7
      go_wp2
      go_loopw [3] (fun k wr => ∃ n : Nat, n ≤ L ∧ k = .int .i64 n ∧ (∀ j (h : j < fs.length), j < n → longFB fs[j] = false) ∧ Below w.heap.size w wr) (fun k _ => L - (intOf k).toNat)
      case atStart => exact ⟨0, by omega, rfl, fun j h h' => absurd h' (Nat.not_lt_zero _), Below.refl _ _⟩
      case round =>
        obtain ⟨n, hn, rfl, hno, hb⟩ := hrel
        have HNO : Hid (∀ j (h : j < fs.length), j < n → longFB fs[j] = false) := hno
        clear hno
        by_cases hlt : n < L
        · have hltx : n < fs.length := by rw [HX.out]; exact hlt
          obtain ⟨b, o, hq, hc⟩ := (HFX.out.below hb).cells (fun e => by rw [e] at hltx; simp at hltx)
          subst hq
          obtain ⟨c0, c1, c2, c3, c4, c5⟩ := hc n hltx
          obtain ⟨k1, k2⟩ := HSZ.out fs[n] (List.getElem_mem _)
          have hlf := longFile_any fs[n] wr k1 k2
          have hyes : longFB fs[n] = true → R = 1 := fun e => by
            rw [← HR.out, if_pos]
            unfold longFs
            rw [Bool.or_eq_true]
            exact Or.inr (List.any_eq_true.2 ⟨fs[n], List.getElem_mem _, e⟩)
          have hnx := fun e => anyLong_succ HNO.out hltx e
          unfold flV at hlf
          generalize longFB fs[n] = lb at hlf hyes hnx
          generalize fs[n] = f at c0 c1 c2 c3 c4 c5 hlf
          obtain ⟨fp, fq, fn, flo, fhi, fseq⟩ := f
          dsimp only at c0 c1 c2 c3 c4 c5 hlf
          have hiL : (n : Int) < (L : Int) := by omega
          have hi0' : (0 : Int) ≤ (n : Int) := by omega
          clear hc k1 k2 hltx
          cases lb with
          | true =>
            obtain rfl := hyes rfl
            simp only [if_true] at hlf
            clear hyes hnx
            go_wp2_with fail
            refine hlf.mono ?_
            rintro e w3 ⟨rfl, hb3⟩
            clear hlf
            go_wp2
            go_ret
            exact ⟨rfl, hb.trans (hb3.mono hb.size)⟩
          | false =>
            have HNX : Hid (∀ j (h : j < fs.length), j < n + 1 → longFB fs[j] = false) := hnx rfl
            simp only [Bool.false_eq_true, if_false] at hlf
            clear hyes hnx
            go_wp2_with fail
            refine hlf.mono ?_
            rintro e w3 ⟨rfl, hb3⟩
            clear hlf
            have hb4 : Below w.heap.size w w3 := hb.trans (hb3.mono hb.size)
            go_wp2
            go_roundw
            case rel => exact ⟨n + 1, by omega, by go_num, HNX.out, hb4⟩
            case measure => simp [intOf]; omega
        · obtain rfl : n = L := by omega
          have hRR : R = 0 := by
            rw [← HR.out, if_neg]
            unfold longFs
            rw [HS.out, Bool.false_or]
            intro h
            obtain ⟨f, hf, e⟩ := List.any_eq_true.1 h
            obtain ⟨j, hj, rfl⟩ := List.mem_iff_getElem.1 hf
            rw [HNO.out j hj (by rw [← HX.out]; exact hj)] at e
            cases e
          subst hRR
          go_wp2
          go_ret
          exact ⟨rfl, hb⟩
end Go.Proofs.YtpiagofhgalklacGreatDoor
namespace Go.Proofs.YtpiagofhgalklacGreatDoor
open Go.RowKit Go.Extern.Stop Go.Stop Go.Extern Go.Sort Go.Shelf Go.Lib

/-- Such an error and the document's fault are the same. -/
theorem ToldE.same {W : World} {a : Nat → Addr} {ev : Value} {c : Nat × Option Nat} (h : ToldE W a ev c) (hc : c.1 ≤ 12) (hE : Errs W a) :
    Calls Tryz.prog 12 #[ev, .agg #[.int .i64 c.1, .int .i64 (atZ c.2)]] W fun e w' => e = .returned (.bool true) ∧ Below W.heap.size W w' := by
  obtain ⟨n, o⟩ := c
  cases o with
  | none =>
    obtain rfl : ev = errV a n := h
    exact faulted2_err n hc W a hE
  | some j =>
    obtain ⟨h0, fb, rfl, c0, c1⟩ := h
    exact faulted2_at n h0 hc W a hE fb j c0 c1

/-- What the statements ask of the program's functions on lists. -/
structure ListK (a : Nat → Addr) (EL : World → Prop) : Prop where
  below : ∀ W W' : World, EL W → Below W.heap.size W W' → EL W'
  check : ∀ (W : World) (v : Value) (fs : List Fl), EL W → FlsAt W v fs → fs.length ≤ 100 → Short fs → Calls Tryz.prog 13 #[v] W fun e w' => ∃ ev, e = .returned ev ∧ ToldE w' a ev (listE fs) ∧ Below W.heap.size W w'
  text : ∀ (W : World) (v : Value) (fs : List Fl), EL W → FlsAt W v fs → fs.length ≤ 100 → Short fs → Calls Tryz.prog 11 #[v] W fun e w' => ∃ ev, e = .returned (.tuple #[.string (if (listE fs).1 = 0 then bytesOf (listL fs) else ⟨#[]⟩), ev]) ∧ ToldE w' a ev (listE fs) ∧ Below W.heap.size W w'
  add : ∀ (W : World) (v : Value) (fs : List Fl) (f : Fl), EL W → FlsAt W v fs → fs.length ≤ 100 → Short fs → f.1.size ≤ 30 → f.2.1.size ≤ 30 → Calls Tryz.prog 18 #[v, flV f] W fun e w' => ∃ v' ev, e = .returned (.tuple #[v', ev]) ∧ FlsAt w' v' (addL fs f) ∧ ToldE w' a ev (addE fs f) ∧ Below W.heap.size W w'
  remove : ∀ (W : World) (v : Value) (fs : List Fl) (p : ByteArray), EL W → FlsAt W v fs → fs.length ≤ 100 → Short fs → p.size ≤ 30 → Calls Tryz.prog 20 #[v, .string p] W fun e w' => ∃ v' ev, e = .returned (.tuple #[v', ev]) ∧ FlsAt w' v' (remL fs p) ∧ ToldE w' a ev (remE fs p) ∧ Below W.heap.size W w'
  find : ∀ (W : World) (v : Value) (fs : List Fl) (p : ByteArray), EL W → FlsAt W v fs → fs.length ≤ 100 → Calls Tryz.prog 22 #[v, .string p] W fun e w' => e = .returned (.int .i64 (findF fs p)) ∧ Below W.heap.size W w'

/-- .. with those that read a list and prune one. -/
structure ListR (a : Nat → Addr) (EL : World → Prop) : Prop where
  core : ListK a EL
  read : ∀ (W : World) (s : ByteArray), EL W → s.size ≤ 20000 → Calls Tryz.prog 15 #[.string s] W fun e w' => ∃ v' ev, e = .returned (.tuple #[v', ev]) ∧ FlsAt w' v' (readL s.data.toList).1 ∧ ToldE w' a ev (readL s.data.toList).2 ∧ Below W.heap.size W w'
  prune : ∀ (W : World) (v : Value) (fs : List Fl) (lo hi : Int), EL W → FlsAt W v fs → fs.length ≤ 100 → Calls Tryz.prog 24 #[v, .int .i64 lo, .int .i64 hi] W fun e w' => ∃ v', e = .returned v' ∧ FlsAt w' v' (fs.filter (inP lo hi)) ∧ Below W.heap.size W w'

theorem listE_le (fs : List Fl) : (listE fs).1 ≤ 12 := by
  unfold listE
  split
  · exact (by decide : (8 : Nat) ≤ 12)
  · exact lstG_le _ _ _

/-- The two files of the closed fact. -/
def oneF (n : UInt8) : Fl := (⟨#[100, 97, 116, 97, 47, n]⟩, ⟨#[97]⟩, 1, 0, 0, 1)

set_option maxRecDepth 100000 in
theorem one_any (p : ByteArray) (seq : Int) (w : World) :
    Calls Tryz.prog 39 #[.string p, .int .i64 seq] w fun e w' => e = .returned (flV (p, ⟨#[97]⟩, 1, 0, 0, seq)) ∧ Below w.heap.size w w' := by
  have hal : Below w.heap.size w (w.alloc (.cells #[.string p, .string ⟨#[97]⟩, .int .i64 1, .int .i64 0, .int .i64 0, .int .i64 seq] 24)) := (Below.refl _ _).alloc (Nat.le_refl _) _
  go_enter Tryz.func39, Tryz.ntmps39
  go_wp2
  refine bodyPost_ret (v := flV (p, ⟨#[97]⟩, 1, 0, 0, seq)) (by simp [results, Tryz.results39, go_sem, flV]) rfl ⟨rfl, ?_⟩
  exact hal

theorem dig_o (d : Nat) (h : d < 10) : decDigits d = [UInt8.ofNat (48 + d)] := by rw [decDigits, dif_pos h]
theorem on_1 : itoa 1 = [49] := by
  have h : decDigits 1 = [49] := dig_o 1 (by decide)
  simp [itoa, h]
theorem on_2 : itoa 2 = [50] := by
  have h : decDigits 2 = [50] := dig_o 2 (by decide)
  simp [itoa, h]
theorem on_0 : itoa 0 = [48] := by
  have h : decDigits 0 = [48] := dig_o 0 (by decide)
  simp [itoa, h]
theorem on_path1 : pathO (oneF 49).1.data.toList = some (false, 1) := by
  have h := path_of false [49]
  have hn : numO [49] = some 1 := by rw [← on_1]; exact numO_itoa 1 (by decide)
  have hp : pathN [49] = some 1 := by unfold pathN; rw [hn]; rfl
  rw [hp] at h
  exact h
theorem on_path2 : pathO (oneF 50).1.data.toList = some (false, 2) := by
  have h := path_of false [50]
  have hn : numO [50] = some 2 := by rw [← on_2]; exact numO_itoa 2 (by decide)
  have hp : pathN [50] = some 2 := by unfold pathN; rw [hn]; rfl
  rw [hp] at h
  exact h
theorem on_ok1 : fileE (oneF 49) = 0 := by
  unfold fileE
  rw [on_path1]
  decide
theorem on_ok2 : fileE (oneF 50) = 0 := by
  unfold fileE
  rw [on_path2]
  decide
theorem on_fk1 : fk (oneF 49) = 1 := by unfold fk; rw [(pk_some on_path1).1]; rfl
theorem on_fk2 : fk (oneF 50) = 2 := by unfold fk; rw [(pk_some on_path2).1]; rfl
theorem on_list : (listE [oneF 50]).1 = 0 := listE_ok.2 ⟨by decide, rises_cons.2 ⟨on_ok2, by rw [on_fk2]; decide, by simp [Rises]⟩⟩
theorem on_two : (listE [oneF 49, oneF 50]).1 = 0 := listE_ok.2 ⟨by decide, rises_cons.2 ⟨on_ok1, by rw [on_fk1]; decide, rises_cons.2 ⟨on_ok2, by rw [on_fk1, on_fk2]; decide, by simp [Rises]⟩⟩⟩
theorem on_find : findF [oneF 50] (oneF 49).1 = -1 := findF_no fun j hj => by
  obtain rfl : j = 0 := by simp at hj; omega
  intro e
  have := congrArg (fun b : ByteArray => b.data.toList) e
  simp [oneF] at this
theorem on_add : addE [oneF 50] (oneF 49) = (0, none) := by
  unfold addE
  rw [if_neg (by rw [on_list]; simp), if_neg (by rw [on_ok1]; simp), on_find, if_neg (by decide), if_neg (by decide)]
theorem on_addL : addL [oneF 50] (oneF 49) = [oneF 49, oneF 50] := by
  unfold addL
  rw [on_add, if_pos rfl]
  exact place_mid (xs := []) (ys := [oneF 50]) (by simp) (by simp [on_fk1, on_fk2])
theorem on_text : listL [oneF 49, oneF 50] = [100, 97, 116, 97, 47, 49, 32, 97, 32, 49, 32, 48, 32, 48, 32, 49, 10, 100, 97, 116, 97, 47, 50, 32, 97, 32, 49, 32, 48, 32, 48, 32, 49, 10] := by
  simp [listL, fileL, oneF, on_1, on_0]

set_option maxRecDepth 100000 in
set_option maxHeartbeats 2000000 in
theorem listed_any (w : World) (a : Nat → Addr) (EL : World → Prop) (K : ListK a EL) (h : EL w) :
    Calls Tryz.prog 6 #[] w fun e w' => e = .returned (.bool true) ∧ Below w.heap.size w w' := by
  have ho := fun p W => one_any p 1 W
  unfold flV at ho
  dsimp only at ho
  go_enter Tryz.func6, Tryz.ntmps6
  go_wp2_with fail
  refine (ho _ _).mono ?_
  rintro e w1 ⟨rfl, hb1⟩
  have hal : Below w1.heap.size w1 (w1.alloc (.cells #[.string ⟨#[100, 97, 116, 97, 47, 50]⟩, .string ⟨#[97]⟩, .int .i64 1, .int .i64 0, .int .i64 0, .int .i64 1] 24)) := (Below.refl _ _).alloc (Nat.le_refl _) _
  have hB2 : Below w.heap.size w (w1.alloc (.cells #[.string ⟨#[100, 97, 116, 97, 47, 50]⟩, .string ⟨#[97]⟩, .int .i64 1, .int .i64 0, .int .i64 0, .int .i64 1] 24)) := hb1.trans (hal.mono hb1.size)
  have hx : FlsAt (w1.alloc (.cells #[.string ⟨#[100, 97, 116, 97, 47, 50]⟩, .string ⟨#[97]⟩, .int .i64 1, .int .i64 0, .int .i64 0, .int .i64 1] 24)) (.slice (some ⟨w1.heap.size, 0, none⟩) 1 1) [oneF 50] := by
    refine Or.inr ⟨w1.heap.size, 0, 1, rfl, Nat.le_refl _, flCells_of fun t u hu => ?_⟩
    have h' := cells6 w1 (oneF 50) t u (by simpa [flatF] using hu)
    rw [Addr.add_lit] at h'
    exact h'
  go_wp2_with fail
  generalize w1.alloc (.cells #[.string ⟨#[100, 97, 116, 97, 47, 50]⟩, .string ⟨#[97]⟩, .int .i64 1, .int .i64 0, .int .i64 0, .int .i64 1] 24) = w2 at hB2 hx ⊢
  generalize w1.heap.size = b1 at hx ⊢
  refine (ho _ _).mono ?_
  rintro e w3 ⟨rfl, hb3⟩
  clear ho hal hb1
  have hB3 : Below w.heap.size w w3 := hB2.trans (hb3.mono hB2.size)
  have had := K.add w3 _ [oneF 50] (oneF 49) (K.below _ _ h hB3) (hx.below hb3) (by decide) (fun g hg => by
    rw [List.mem_singleton] at hg; subst hg; decide) (by decide) (by decide)
  rw [on_add, on_addL] at had
  simp only [flV, oneF] at had
  go_wp2_with fail
  refine had.mono ?_
  rintro e w4 ⟨v4, ev4, rfl, hv4, ht4, hb4⟩
  clear had hx hb3
  obtain rfl : ev4 = .nilIface := ht4
  have hB4 : Below w.heap.size w w4 := hB3.trans (hb4.mono hB3.size)
  have htx := K.text w4 v4 [oneF 49, oneF 50] (K.below _ _ h hB4) hv4 (by decide) (fun g hg => by
    simp only [List.mem_cons, List.not_mem_nil, or_false] at hg
    rcases hg with rfl | rfl <;> decide)
  rw [on_two, if_pos rfl, on_text] at htx
  clear hv4 hb4
  go_wp2_with fail
  refine htx.mono ?_
  rintro e w5 ⟨ev5, rfl, ht5, hb5⟩
  clear htx
  obtain rfl : ev5 = .nilIface := ht5.ok on_two
  have hB5 : Below w.heap.size w w5 := hB4.trans (hb5.mono hB4.size)
  have eb : bytesOf [100, 97, 116, 97, 47, 49, 32, 97, 32, 49, 32, 48, 32, 48, 32, 49, 10, 100, 97, 116, 97, 47, 50, 32, 97, 32, 49, 32, 48, 32, 48, 32, 49, 10] = ⟨#[100, 97, 116, 97, 47, 49, 32, 97, 32, 49, 32, 48, 32, 48, 32, 49, 10, 100, 97, 116, 97, 47, 50, 32, 97, 32, 49, 32, 48, 32, 48, 32, 49, 10]⟩ := rfl
  rw [eb]
  clear eb ht5 hb5
  go_wp2
  go_ret
  exact ⟨rfl, hB5⟩
end Go.Proofs.YtpiagofhgalklacGreatDoor
