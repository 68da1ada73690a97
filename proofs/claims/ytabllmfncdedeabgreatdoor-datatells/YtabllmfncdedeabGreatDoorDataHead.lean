/-
  The contracts of data.headOf and head.text: a file's first line.
-/
import Derived.Test.YtabllmfncdedeabGreatDoorDataLines
import Derived.Lib.QuietBelow
import Derived.BigQuiet
namespace Go.Proofs.YtabllmfncdedeabGreatDoor
open Go.RowKit Go.Extern.Stop Go.Stop Go.Extern Go.Sort Go.Shelf Go.Lib

theorem ends_snoc (zs : List Int) (k : Int) (h : zs ≠ []) : endsZ (zs ++ [k]) = (if k < (endsZ zs).1 then k else (endsZ zs).1, if (endsZ zs).2 < k then k else (endsZ zs).2) := by
  cases zs with
  | nil => exact absurd rfl h
  | cons z r =>
    show ((r ++ [k]).foldl _ z, (r ++ [k]).foldl _ z) = _
    rw [List.foldl_append, List.foldl_append]
    rfl
theorem ends_one (k : Int) : endsZ [k] = (k, k) := rfl
theorem keys_snoc (xs : List Rw) (x : Rw) : keysR (xs ++ [x]) = keysR xs ++ [x.2.1] := by simp [keysR]

theorem headBlk_lo {W : World} {g : Nat} {t : TypeId} {n lo hi s v : Value} (h : W.heap[g]? = some (.cells #[n, lo, hi, s] t (0, 0))) : (W.setCell ⟨g, 1, none⟩ v).heap[g]? = some (.cells #[n, v, hi, s] t (0, 0)) := by
  rw [heap_setCell_same _ _ _ _ _ _ h]; rfl
theorem headBlk_hi {W : World} {g : Nat} {t : TypeId} {n lo hi s v : Value} (h : W.heap[g]? = some (.cells #[n, lo, hi, s] t (0, 0))) : (W.setCell ⟨g, 2, none⟩ v).heap[g]? = some (.cells #[n, lo, v, s] t (0, 0)) := by
  rw [heap_setCell_same _ _ _ _ _ _ h]; rfl
theorem blk_other {W : World} {g b : Nat} {o : Nat} {v : Value} {x : Option Obj} (h : W.heap[g]? = x) (hne : g ≠ b) : (W.setCell ⟨b, o, none⟩ v).heap[g]? = x := by
  rw [heap_setCell_other _ _ _ _ hne]; exact h

set_option maxRecDepth 100000 in
set_option maxHeartbeats 4000000 in
theorem headOf_any (v : Value) (xs : List Rw) (sum : Nat) (w : World) (hx : RowsAt w v xs) (hl : xs.length ≤ 1000) (hs : sum < 4294967296) :
    Calls Tryz.prog 18 #[v, .int .u32 sum] w fun e w' => e = .returned (.agg #[.int .i64 xs.length, .int .i64 (endsZ (keysR xs)).1, .int .i64 (endsZ (keysR xs)).2, .int .i64 sum]) ∧ Below w.heap.size w w' := by
  obtain ⟨q, cap, rfl⟩ := hx.form
  generalize hL : xs.length = L at hx hl ⊢
  have HX : Hid (xs.length = L) := hL
  clear hL
  have hw0 : IntKind.i64.wrap (sum : Int) = (sum : Int) := IntWalk.i64_in _ (by omega)
  go_enter Tryz.func18, Tryz.ntmps18
  have hA := heap_alloc2_old w (.cells #[.int .i64 0, .int .i64 0, .int .i64 0, .int .i64 0] 52) (.cells #[.int .i64 L, .int .i64 0, .int .i64 0, .int .i64 sum] 52)
  have hB := heap_alloc2_new w (.cells #[.int .i64 0, .int .i64 0, .int .i64 0, .int .i64 0] 52) (.cells #[.int .i64 L, .int .i64 0, .int .i64 0, .int .i64 sum] 52)
  have hal : Below w.heap.size w ((w.alloc (.cells #[.int .i64 0, .int .i64 0, .int .i64 0, .int .i64 0] 52)).alloc (.cells #[.int .i64 L, .int .i64 0, .int .i64 0, .int .i64 sum] 52)) := ((Below.refl _ _).alloc (Nat.le_refl _) _).alloc (by simp) _
  go_wp2
  go_loopw [15] (fun k wr => ∃ n : Nat, n ≤ L ∧ k = .int .i64 n ∧ Below w.heap.size w wr ∧ wr.heap[w.heap.size]? = some (.cells #[.int .i64 0, .int .i64 0, .int .i64 0, .int .i64 0] 52 (0, 0)) ∧ wr.heap[w.heap.size + 1]? = some (.cells #[.int .i64 L, .int .i64 (endsZ (keysR (xs.take n))).1, .int .i64 (endsZ (keysR (xs.take n))).2, .int .i64 sum] 52 (0, 0))) (fun k _ => L - (intOf k).toNat)
  case atStart => exact ⟨0, by omega, rfl, hal, hA, by simpa [keysR, endsZ] using hB⟩
  case round =>
    clear hA hB hal
    obtain ⟨n, hn, rfl, hb, h0, h1⟩ := hrel
    have H0 : Hid (wr.heap[w.heap.size]? = some (.cells #[.int .i64 0, .int .i64 0, .int .i64 0, .int .i64 0] 52 (0, 0))) := h0
    have H1 : Hid (wr.heap[w.heap.size + 1]? = some (.cells #[.int .i64 L, .int .i64 (endsZ (keysR (xs.take n))).1, .int .i64 (endsZ (keysR (xs.take n))).2, .int .i64 sum] 52 (0, 0))) := h1
    clear h0 h1
    have hbh : w.heap.size + 1 < wr.heap.size := lt_of_block H1.out
    by_cases hlt : n < L
    · have hltx : n < xs.length := by rw [HX.out]; exact hlt
      have hrows := hx.below hb
      rcases hrows with ⟨_, _, e, e'⟩ | ⟨b, o, cap2, e, hcells⟩
      · exfalso; have := HX.out; rw [e'] at this; simp at this; omega
      injection e with e1 e2 e3
      subst e1
      clear e2 e3
      obtain ⟨c1, c2, c3⟩ := hcells n hltx
      clear hcells
      have hi : (n : Int) < (L : Int) := by omega
      have htk : xs.take (n + 1) = xs.take n ++ [xs[n]] := by rw [List.take_append_getElem hltx]
      have hkk : keysR (xs.take (n + 1)) = keysR (xs.take n) ++ [xs[n].2.1] := by rw [htk, keys_snoc]
      have hkl : (keysR (xs.take n)).length = n := by simp [keysR]; omega
      have HK : Hid (endsZ (keysR (xs.take (n + 1))) = if n = 0 then (xs[n].2.1, xs[n].2.1) else (if xs[n].2.1 < (endsZ (keysR (xs.take n))).1 then xs[n].2.1 else (endsZ (keysR (xs.take n))).1, if (endsZ (keysR (xs.take n))).2 < xs[n].2.1 then xs[n].2.1 else (endsZ (keysR (xs.take n))).2)) := by
        show _ = _
        rw [hkk]
        by_cases hn0 : n = 0
        · rw [if_pos hn0]
          have : keysR (xs.take n) = [] := List.length_eq_zero_iff.1 (by omega)
          rw [this]; rfl
        · rw [if_neg hn0, ends_snoc _ _ (fun e => hn0 (by rw [← hkl, e]; rfl))]
      clear htk hkk hkl
      generalize xs[n] = x at c1 c2 c3 HK
      generalize endsZ (keysR (xs.take n)) = E at H1 HK
      obtain ⟨lo, hi2⟩ := E
      obtain ⟨xp, xk, xv⟩ := x
      dsimp only at c1 c2 c3 HK H1
      have hal : Below wr.heap.size wr (wr.alloc (.cells #[.string xp, .int .i64 xk, .int .i64 xv] 45)) := (Below.refl _ _).alloc (Nat.le_refl _) _
      have g1 : wr.cell? ⟨w.heap.size + 1, 1, none⟩ = some (.int .i64 lo) := by rw [cell_of_row _ _ _ _ _ _ H1.out]; rfl
      have g2 : wr.cell? ⟨w.heap.size + 1, 2, none⟩ = some (.int .i64 hi2) := by rw [cell_of_row _ _ _ _ _ _ H1.out]; rfl
      have gf : ∀ o, wr.frozen? ⟨w.heap.size + 1, o, none⟩ = false := fun o => frozen_of_row _ _ _ _ _ H1.out
      have hne : ¬ w.heap.size + 1 = wr.heap.size := by omega
      have hne2 : ¬ wr.heap.size = w.heap.size + 1 := by omega
      have fin : ∀ (W : World) (lo' hi' : Int), Below w.heap.size w W → W.heap.size = wr.heap.size → W.heap[w.heap.size]? = some (.cells #[.int .i64 0, .int .i64 0, .int .i64 0, .int .i64 0] 52 (0, 0)) → W.heap[w.heap.size + 1]? = some (.cells #[.int .i64 L, .int .i64 lo', .int .i64 hi', .int .i64 sum] 52 (0, 0)) →
          Below w.heap.size w (W.alloc (.cells #[.string xp, .int .i64 xk, .int .i64 xv] 45)) ∧ (W.alloc (.cells #[.string xp, .int .i64 xk, .int .i64 xv] 45)).heap[w.heap.size]? = some (.cells #[.int .i64 0, .int .i64 0, .int .i64 0, .int .i64 0] 52 (0, 0)) ∧
          (W.alloc (.cells #[.string xp, .int .i64 xk, .int .i64 xv] 45)).heap[w.heap.size + 1]? = some (.cells #[.int .i64 L, .int .i64 lo', .int .i64 hi', .int .i64 sum] 52 (0, 0)) := fun W lo' hi' hW hs h0 h1 =>
        ⟨hW.alloc hW.size _, (Below.heap_alloc _ _ _ (by omega)).trans h0, (Below.heap_alloc _ _ _ (by omega)).trans h1⟩
      have FIN : Hid (∀ (W : World) (lo' hi' : Int), Below w.heap.size w W → W.heap.size = wr.heap.size → W.heap[w.heap.size]? = some (.cells #[.int .i64 0, .int .i64 0, .int .i64 0, .int .i64 0] 52 (0, 0)) → W.heap[w.heap.size + 1]? = some (.cells #[.int .i64 L, .int .i64 lo', .int .i64 hi', .int .i64 sum] 52 (0, 0)) →
          Below w.heap.size w (W.alloc (.cells #[.string xp, .int .i64 xk, .int .i64 xv] 45)) ∧ (W.alloc (.cells #[.string xp, .int .i64 xk, .int .i64 xv] 45)).heap[w.heap.size]? = some (.cells #[.int .i64 0, .int .i64 0, .int .i64 0, .int .i64 0] 52 (0, 0)) ∧
          (W.alloc (.cells #[.string xp, .int .i64 xk, .int .i64 xv] 45)).heap[w.heap.size + 1]? = some (.cells #[.int .i64 L, .int .i64 lo', .int .i64 hi', .int .i64 sum] 52 (0, 0))) := fin
      clear fin
      have S1 : Hid (Below w.heap.size w (wr.setCell ⟨w.heap.size + 1, 1, none⟩ (.int .i64 xk)) ∧ (wr.setCell ⟨w.heap.size + 1, 1, none⟩ (.int .i64 xk)).heap.size = wr.heap.size ∧ (wr.setCell ⟨w.heap.size + 1, 1, none⟩ (.int .i64 xk)).heap[w.heap.size]? = some (.cells #[.int .i64 0, .int .i64 0, .int .i64 0, .int .i64 0] 52 (0, 0)) ∧ (wr.setCell ⟨w.heap.size + 1, 1, none⟩ (.int .i64 xk)).heap[w.heap.size + 1]? = some (.cells #[.int .i64 L, .int .i64 xk, .int .i64 hi2, .int .i64 sum] 52 (0, 0))) :=
        ⟨hb.setCell (by simp) _, by simp [World.setCell], blk_other H0.out (by omega), headBlk_lo H1.out⟩
      have S2 : Hid (Below w.heap.size w (wr.setCell ⟨w.heap.size + 1, 2, none⟩ (.int .i64 xk)) ∧ (wr.setCell ⟨w.heap.size + 1, 2, none⟩ (.int .i64 xk)).heap.size = wr.heap.size ∧ (wr.setCell ⟨w.heap.size + 1, 2, none⟩ (.int .i64 xk)).heap[w.heap.size]? = some (.cells #[.int .i64 0, .int .i64 0, .int .i64 0, .int .i64 0] 52 (0, 0)) ∧ (wr.setCell ⟨w.heap.size + 1, 2, none⟩ (.int .i64 xk)).heap[w.heap.size + 1]? = some (.cells #[.int .i64 L, .int .i64 lo, .int .i64 xk, .int .i64 sum] 52 (0, 0))) :=
        ⟨hb.setCell (by simp) _, by simp [World.setCell], blk_other H0.out (by omega), headBlk_hi H1.out⟩
      have S3 : Hid (Below w.heap.size w ((wr.setCell ⟨w.heap.size + 1, 1, none⟩ (.int .i64 xk)).setCell ⟨w.heap.size + 1, 2, none⟩ (.int .i64 xk)) ∧ ((wr.setCell ⟨w.heap.size + 1, 1, none⟩ (.int .i64 xk)).setCell ⟨w.heap.size + 1, 2, none⟩ (.int .i64 xk)).heap.size = wr.heap.size ∧ ((wr.setCell ⟨w.heap.size + 1, 1, none⟩ (.int .i64 xk)).setCell ⟨w.heap.size + 1, 2, none⟩ (.int .i64 xk)).heap[w.heap.size]? = some (.cells #[.int .i64 0, .int .i64 0, .int .i64 0, .int .i64 0] 52 (0, 0)) ∧ ((wr.setCell ⟨w.heap.size + 1, 1, none⟩ (.int .i64 xk)).setCell ⟨w.heap.size + 1, 2, none⟩ (.int .i64 xk)).heap[w.heap.size + 1]? = some (.cells #[.int .i64 L, .int .i64 xk, .int .i64 xk, .int .i64 sum] 52 (0, 0))) :=
        ⟨S1.out.1.setCell (by simp) _, by simp [World.setCell], blk_other S1.out.2.2.1 (by omega), headBlk_hi S1.out.2.2.2⟩
      clear hltx
      by_cases hn0 : n = 0
      · subst hn0
        simp only [if_true] at HK
        simp only [Nat.zero_mul, Nat.add_zero] at c1 c2 c3
        go_wp2
        obtain ⟨q1, q2, q3⟩ := FIN.out _ _ _ S3.out.1 S3.out.2.1 S3.out.2.2.1 S3.out.2.2.2
        go_roundw
        case rel => exact ⟨0 + 1, by omega, by go_num, q1, q2, by rw [HK.out]; exact q3⟩
        case measure => simp [intOf]; omega
      · have hnz : ((n : Int) == 0) = false := by rw [beq_eq_false_iff_ne]; omega
        simp only [if_neg hn0] at HK
        by_cases hl1 : xk < lo
        · by_cases hl2 : hi2 < xk
          · rw [if_pos hl1, if_pos hl2] at HK
            go_wp2
            obtain ⟨q1, q2, q3⟩ := FIN.out _ _ _ S3.out.1 S3.out.2.1 S3.out.2.2.1 S3.out.2.2.2
            go_roundw
            case rel => exact ⟨n + 1, by omega, by go_num, q1, q2, by rw [HK.out]; exact q3⟩
            case measure => simp [intOf]; omega
          · rw [if_pos hl1, if_neg hl2] at HK
            go_wp2
            obtain ⟨q1, q2, q3⟩ := FIN.out _ _ _ S1.out.1 S1.out.2.1 S1.out.2.2.1 S1.out.2.2.2
            go_roundw
            case rel => exact ⟨n + 1, by omega, by go_num, q1, q2, by rw [HK.out]; exact q3⟩
            case measure => simp [intOf]; omega
        · by_cases hl2 : hi2 < xk
          · rw [if_neg hl1, if_pos hl2] at HK
            go_wp2
            obtain ⟨q1, q2, q3⟩ := FIN.out _ _ _ S2.out.1 S2.out.2.1 S2.out.2.2.1 S2.out.2.2.2
            go_roundw
            case rel => exact ⟨n + 1, by omega, by go_num, q1, q2, by rw [HK.out]; exact q3⟩
            case measure => simp [intOf]; omega
          · rw [if_neg hl1, if_neg hl2] at HK
            go_wp2
            obtain ⟨q1, q2, q3⟩ := FIN.out _ _ _ hb rfl H0.out H1.out
            go_roundw
            case rel => exact ⟨n + 1, by omega, by go_num, q1, q2, by rw [HK.out]; exact q3⟩
            case measure => simp [intOf]; omega
    · obtain rfl : n = L := by omega
      have hta : xs.take n = xs := List.take_of_length_le (by rw [HX.out]; exact Nat.le_refl _)
      rw [hta] at H1
      clear hta
      obtain ⟨lo, hi2, hE⟩ : ∃ lo hi2, endsZ (keysR xs) = (lo, hi2) := ⟨_, _, rfl⟩
      have HE : Hid (endsZ (keysR xs) = (lo, hi2)) := hE
      rw [hE] at H1
      clear hE
      dsimp only at H1
      have g0 : wr.cell? ⟨w.heap.size + 1, 0, none⟩ = some (.int .i64 n) := by rw [cell_of_row _ _ _ _ _ _ H1.out]; rfl
      have g1 : wr.cell? ⟨w.heap.size + 1, 1, none⟩ = some (.int .i64 lo) := by rw [cell_of_row _ _ _ _ _ _ H1.out]; rfl
      have g2 : wr.cell? ⟨w.heap.size + 1, 2, none⟩ = some (.int .i64 hi2) := by rw [cell_of_row _ _ _ _ _ _ H1.out]; rfl
      have g3 : wr.cell? ⟨w.heap.size + 1, 3, none⟩ = some (.int .i64 sum) := by rw [cell_of_row _ _ _ _ _ _ H1.out]; rfl
      have j0 : wr.cell? ⟨w.heap.size, 0, none⟩ = some (.int .i64 0) := by rw [cell_of_row _ _ _ _ _ _ H0.out]; rfl
      have j1 : wr.cell? ⟨w.heap.size, 1, none⟩ = some (.int .i64 0) := by rw [cell_of_row _ _ _ _ _ _ H0.out]; rfl
      have j2 : wr.cell? ⟨w.heap.size, 2, none⟩ = some (.int .i64 0) := by rw [cell_of_row _ _ _ _ _ _ H0.out]; rfl
      have j3 : wr.cell? ⟨w.heap.size, 3, none⟩ = some (.int .i64 0) := by rw [cell_of_row _ _ _ _ _ _ H0.out]; rfl
      have jf : ∀ o, wr.frozen? ⟨w.heap.size, o, none⟩ = false := fun o => frozen_of_row _ _ _ _ _ H0.out
      go_wp2
      refine bodyPost_ret (v := .agg #[.int .i64 n, .int .i64 lo, .int .i64 hi2, .int .i64 sum]) (by simp [results, Tryz.results18, go_sem, j0, j1, j2, j3]) rfl ⟨by rw [HE.out], ?_⟩
      exact (((hb.setCell (by simp) _).setCell (by simp) _).setCell (by simp) _).setCell (by simp) _
end Go.Proofs.YtabllmfncdedeabGreatDoor
