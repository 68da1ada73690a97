/-
  The contract of the document's own RisingOf: keys, rising, each once.
-/
import Derived.Test.YtpkoefpdpoikkaaGreatDoorRefHead
namespace Go.Proofs.YtpkoefpdpoikkaaGreatDoor
open Go.RowKit Go.Extern.Stop Go.Stop Go.Extern Go.Sort Go.Shelf Go.Lib

def ReadPost (w : World) (D : List Rw × Nat × Option Nat) (e : Ending) (w' : World) : Prop :=
  Below w.heap.size w w' ∧ ((D.2.1 = 0 ∧ ∃ v, e = .returned (.tuple #[v, .agg #[.int .i64 0, .int .i64 (-1)]]) ∧ RowsAt w' v D.1) ∨
    (D.2.1 ≠ 0 ∧ ∃ j : Int, e = .returned (.tuple #[.slice none 0 0, .agg #[.int .i64 D.2.1, .int .i64 j]]) ∧ (D.2.2 = none → j = -1) ∧ ∀ k : Nat, D.2.2 = some k → j = k))

theorem own_slice {W : World} {base : Nat} {e : TypeId} {size : Nat} {v : Value} {n : Nat} {xs : List Value} (h : W.ownsRow base e size v n xs) : ∃ q c, v = .slice q n c := by
  rcases h.2 with ⟨rfl, rfl⟩ | ⟨g, cap, cur, rfl, _⟩
  · exact ⟨_, _, rfl⟩
  · exact ⟨_, _, rfl⟩

theorem pieces_len (d : UInt8) : ∀ (l : List UInt8), ∀ x ∈ pieces d l, x.length ≤ l.length
  | [], x, h => by simp [pieces] at h; simp [h]
  | c :: r, x, h => by
    have ih := pieces_len d r
    unfold pieces at h
    split at h
    · rw [List.mem_cons] at h
      rcases h with rfl | h
      · simp
      · have := ih x h; simp; omega
    · split at h
      · rw [List.mem_singleton] at h; subst h; simp
      · rename_i w ws e
        rw [e] at ih
        rw [List.mem_cons] at h
        rcases h with rfl | h
        · have := ih w List.mem_cons_self; simp; omega
        · have := ih x (List.mem_cons_of_mem _ h); simp; omega

theorem blk_other {W : World} {g b : Nat} {o : Nat} {v : Value} {x : Option Obj} (h : W.heap[g]? = x) (hne : g ≠ b) : (W.setCell ⟨b, o, none⟩ v).heap[g]? = x := by
  rw [heap_setCell_other _ _ _ _ hne]; exact h

theorem headF_end (n lo hi : Int) (acc : List Rw) : endO n lo hi (acc, 0, 0) = if headF n lo hi (keysR acc) = 0 then (acc, 0, none) else ([], headF n lo hi (keysR acc), none) := by
  have e : (keysR acc).length = acc.length := by simp [keysG]
  unfold endO endG headF
  rw [e]
  simp only [ne_eq, not_true_eq_false, if_false]
  split
  · simp
  · split <;> simp

set_option maxRecDepth 100000 in
set_option maxHeartbeats 8000000 in
theorem readData_any (s : ByteArray) (w : World) (hs : s.size ≤ maxLen) :
    Calls Tryz.prog 84 #[.string s] w fun e w' => ReadPost w (dataO s.data.toList) e w' := by
  obtain ⟨i0, hi0, hz0, hs0, hby0⟩ := Tryz.rowInfo
  have hf1 := FC.new w
  have hal : Below w.heap.size w (w.alloc (.cells #[.int .i64 0, .int .i64 0] 64)) := (Below.refl _ _).alloc (Nat.le_refl _) _
  have hst := splitText_any dataK ⟨#[100, 97, 116, 97]⟩ s rfl (w.alloc (.cells #[.int .i64 0, .int .i64 0] 64)) hs
  obtain ⟨D, hDD⟩ : ∃ D, dataO s.data.toList = D := ⟨_, rfl⟩
  have HD0 : Hid (dataO s.data.toList = D) := hDD
  rw [hDD]
  clear hDD hs
  go_enter Tryz.func84, Tryz.ntmps84
  go_wp2_with fail
  generalize w.alloc (.cells #[.int .i64 0, .int .i64 0] 64) = w1 at hf1 hal hst ⊢
  refine hst.mono ?_
  rintro e w2 ⟨hb2, hp⟩
  clear hst
  have hB2 : Below w.heap.size w w2 := hal.trans (hb2.mono hal.size)
  have hf2 := hf1.below hb2
  clear hf1 hal hb2
  rcases hp with ⟨c, hc0, rfl, hD⟩ | ⟨nn, nlo, nhi, sum, b, v, tv, ts, rfl, hka, hts, htm, hbl, hD⟩
  · have HD : Hid (D = ([], c, none)) := by show _ = _; rw [← HD0.out]; exact hD
    have hcp : (0 : Int) < (c : Int) := by omega
    have HC0 : Hid (c ≠ 0) := hc0
    have hal2 : Below w2.heap.size w2 (w2.alloc (.cells #[.int .i64 c, .int .i64 (-1)] 64)) := (Below.refl _ _).alloc (Nat.le_refl _) _
    have hg3 : FC (w2.alloc (.cells #[.int .i64 c, .int .i64 (-1)] 64)) w2.heap.size c (-1) := heap_alloc_new _ _
    have hf3 := hf2.below hal2
    have hB3 : Below w.heap.size w (w2.alloc (.cells #[.int .i64 c, .int .i64 (-1)] 64)) := hB2.trans (hal2.mono hB2.size)
    clear hD hc0 hal2 hf2
    go_wp2
    generalize w2.alloc (.cells #[.int .i64 c, .int .i64 (-1)] 64) = w3 at hg3 hf3 hB3 ⊢
    generalize w2.heap.size = F2 at hg3 ⊢
    have j0 := hf3.c0
    have j1 := hf3.c1
    have jz := hf3.fz
    have k0 := hg3.c0
    have k1 := hg3.c1
    have hBd := hB3.drew
    have hf3d : FC w3.drew w.heap.size 0 0 := hf3.below (Below.refl w3.heap.size w3).drew
    have hg3d : FC w3.drew F2 c (-1) := hg3.below (Below.refl w3.heap.size w3).drew
    have m0 := hf3d.c0
    have m1 := hf3d.c1
    have mz := hf3d.fz
    have n0 := hg3d.c0
    have n1 := hg3d.c1
    clear hf3d hg3d
    go_region
    all_goals go_wp2
    all_goals refine bodyPost_ret (v := .tuple #[.slice none 0 0, .agg #[.int .i64 c, .int .i64 (-1)]]) (by simp [results, Tryz.results84, go_sem, j0, j1]) rfl ⟨?_, Or.inr ⟨by rw [HD.out]; exact HC0.out, -1, by rw [HD.out], fun _ => rfl, by rw [HD.out]; intro k h; cases h⟩⟩
    all_goals first
      | exact (hB3.setCell (by simp) _).setCell (by simp) _
      | exact (hBd.setCell (by simp) _).setCell (by simp) _
      | exact ((hB3.setCell (by simp) _).setCell (by simp) _).drew
  obtain ⟨R, hR⟩ : ∃ R, rowsO (pieces 10 b) 0 [] = R := ⟨_, rfl⟩
  have HD : Hid (D = endO nn nlo nhi R) := by show _ = _; rw [← HD0.out]; exact hD.trans (congrArg (endG dataK nn nlo nhi) hR)
  have HTM : Hid (ts.map (·.data.toList) = pieces 10 b) := htm
  have hpl := pieces_count 10 b
  have hcl := List.count_le_length (a := (10 : UInt8)) (l := b)
  have htl : ts.length = (pieces 10 b).length := by have := congrArg List.length htm; simpa using this
  have hTL1 : 1 ≤ ts.length := by omega
  have HTL : Hid (ts.length ≤ 20001) := by show _ ≤ _; omega
  have HSZ : Hid (∀ t ∈ ts, t.size ≤ 20000) := fun t ht => by
    have h1 : t.data.toList ∈ pieces 10 b := by rw [← htm]; exact List.mem_map_of_mem ht
    have h2 := pieces_len 10 b _ h1
    rw [size_list] at h2
    omega
  have HR : Hid (rowsO (ts.map (·.data.toList)) 0 [] = R) := by show _ = _; rw [htm]; exact hR
  clear hR hD htm hpl hcl htl hbl HD0
  have hal2 : Below w2.heap.size w2 (w2.alloc (.cells #[.int .i64 0, .int .i64 (-1)] 64)) := (Below.refl _ _).alloc (Nat.le_refl _) _
  have hg3 : FC (w2.alloc (.cells #[.int .i64 0, .int .i64 (-1)] 64)) w2.heap.size 0 (-1) := heap_alloc_new _ _
  have hf3 := hf2.below hal2
  have hB3 : Below w.heap.size w (w2.alloc (.cells #[.int .i64 0, .int .i64 (-1)] 64)) := hB2.trans (hal2.mono hB2.size)
  have hka3 := hka.below hal2
  obtain ⟨tb, tcap, rfl, htcap, htc⟩ := hts.below hal2
  have hF12 := hf2.lt
  clear hal2 hf2 hka hts hB2
  obtain ⟨TL, hTLe⟩ : ∃ TL, ts.length = TL := ⟨_, rfl⟩
  have HX : Hid (ts.length = TL) := hTLe
  rw [hTLe] at hTL1 HTL ⊢
  obtain ⟨M, rfl⟩ : ∃ M, TL = M + 1 := ⟨TL - 1, by omega⟩
  have hMb : M ≤ 20000 := by have := HTL.out; omega
  have HTC : Hid (∀ j (h : j < ts.length), (w2.alloc (.cells #[.int .i64 0, .int .i64 (-1)] 64)).cell? ⟨tb, j, none⟩ = some (.string ts[j])) := htc
  clear hTLe htc htcap
  go_wp2
  generalize w2.alloc (.cells #[.int .i64 0, .int .i64 (-1)] 64) = w3 at hg3 hf3 hB3 hka3 HTC ⊢
  generalize w2.heap.size = F2 at hg3 hF12 ⊢
  have hF1 := hf3.lt
  have hF2 := hg3.lt
  go_loopw [7, 8] (fun out k wr => ∃ (n : Nat) (acc : List Rw), n < M + 1 ∧ k = .int .i64 n ∧ acc.length = n ∧ Below w3.heap.size w3 wr ∧ wr.ownsRow w3.heap.size 41 3 out n (flatR acc) ∧ rowsO ((ts.map (·.data.toList)).drop n) n acc = R) (fun _ k _ => M + 1 - (intOf k).toNat)
  case atStart => exact ⟨0, [], by omega, rfl, rfl, Below.refl _ _, by simp [flatR]; exact World.ownsRow_nil _ _ _ _, HR.out⟩
  case round =>
    obtain ⟨n, acc, hn, rfl, hacc, hb, hown, hrec⟩ := hrel
    have OW : Hid (wr.ownsRow w3.heap.size 41 3 u7 n (flatR acc)) := hown
    have HAL : Hid (acc.length = n) := hacc
    have hntx : n < ts.length := by rw [HX.out]; exact hn
    have hdr : (ts.map (·.data.toList)).drop n = ts[n].data.toList :: (ts.map (·.data.toList)).drop (n + 1) := by
      rw [List.drop_eq_getElem_cons (by rw [List.length_map]; exact hntx)]
      simp
    rw [hdr] at hrec
    have cl := below_keep hb (HTC.out n hntx)
    have hszl := HSZ.out ts[n] (List.getElem_mem _)
    have hi : (n : Int) < (M : Int) + 1 := by omega
    have hM5 : IntKind.i64.wrap (M : Int) = (M : Int) := IntWalk.i64_in _ (by have := HTL.out; omega)
    have hi0' : (0 : Int) ≤ (n : Int) := by omega
    have hBr : Below w.heap.size w wr := hB3.trans (hb.mono hB3.size)
    have hfr := hf3.below hb
    clear hown hacc hdr
    by_cases hlast : n = M
    · subst hlast
      have hnil : (ts.map (·.data.toList)).drop (n + 1) = [] := List.drop_eq_nil_of_le (by rw [List.length_map, HX.out]; exact Nat.le_refl _)
      rw [hnil, rowsO_one] at hrec
      clear hnil
      generalize ts[n] = t at cl hszl hrec
      by_cases hte : t.data.toList = []
      · have hbe : (t.toList == []) = true := eqB_of hte
        rw [if_pos hte] at hrec
        have HRE : Hid (D = if headF nn nlo nhi (keysR acc) = 0 then (acc, 0, none) else ([], headF nn nlo nhi (keysR acc), none)) := by
          show _ = _
          rw [HD.out, ← hrec, headF_end]
        clear hrec hte hszl
        have hra := (rowsAt_of_own OW.out).1
        obtain ⟨q7, c7, rfl⟩ := own_slice OW.out
        have hko := keysOf_any (.slice q7 n c7) acc wr hra (by have := HAL.out; have := HTL.out; omega)
        clear hra
        go_wp2_with fail
        refine hko.mono ?_
        rintro e w4 ⟨kv, rfl, hkv, hb4⟩
        clear hko
        have hb34 : Below w3.heap.size w3 w4 := hb.trans (hb4.mono hb.size)
        have hhf := headFault_any v kv nn nlo nhi sum (keysR acc) w4 (hka3.below hb34) hkv (by have := HAL.out; have := HTL.out; simp [keysG]; omega)
        generalize headF nn nlo nhi (keysR acc) = H at HRE hhf
        go_wp2_with fail
        refine hhf.mono ?_
        rintro e w5 ⟨rfl, hb5⟩
        clear hhf hkv
        have hb35 : Below w3.heap.size w3 w5 := hb34.trans (hb5.mono hb34.size)
        have hBw5 : Below w.heap.size w w5 := hB3.trans (hb35.mono hB3.size)
        have hg5 := hg3.below hb35
        have hf5 := hf3.below hb35
        have OW5 : w5.ownsRow w3.heap.size 41 3 (.slice q7 n c7) n (flatR acc) := own_below OW.out (hb4.trans (hb5.mono hb4.size))
        have hne12 : w.heap.size ≠ F2 := by omega
        have hg6 := hg5.set H (-1)
        have hf6 : FC ((w5.setCell ⟨F2, 0, none⟩ (.int .i64 H)).setCell ⟨F2, 1, none⟩ (.int .i64 (-1))) w.heap.size 0 0 := blk_other (blk_other hf5 hne12) hne12
        have hB6 : Below w.heap.size w ((w5.setCell ⟨F2, 0, none⟩ (.int .i64 H)).setCell ⟨F2, 1, none⟩ (.int .i64 (-1))) := (hBw5.setCell (by simp; omega) _).setCell (by simp; omega) _
        have OW6 : ((w5.setCell ⟨F2, 0, none⟩ (.int .i64 H)).setCell ⟨F2, 1, none⟩ (.int .i64 (-1))).ownsRow w3.heap.size 41 3 (.slice q7 n c7) n (flatR acc) := ownsRow_setCell_below (ownsRow_setCell_below OW5 (a := ⟨F2, 0, none⟩) hF2 _) (a := ⟨F2, 1, none⟩) hF2 _
        have k0 := hg5.c0
        have k1 := hg5.c1
        have kz := hg5.fz
        clear hfr hBr OW OW5 hb4 hb5 hb34 hb35 hf5 hg5 cl hBw5
        by_cases hH : H = 0
        · subst hH
          rw [if_pos rfl] at HRE
          have OW7 : Hid (((w5.setCell ⟨F2, 0, none⟩ (.int .i64 ((0 : Nat) : Int))).setCell ⟨F2, 1, none⟩ (.int .i64 (-1))).ownsRow w3.heap.size 41 3 (.slice q7 n c7) n (flatR acc)) := OW6
          clear OW6 hg6
          have hz0' : ((0 : Nat) : Int) = 0 := rfl
          rw [hz0'] at hf6 hB6 OW7 ⊢
          clear hz0'
          have hfin := fun W => fine_of W
          go_wp2_with fail
          generalize (w5.setCell ⟨F2, 0, none⟩ (.int .i64 0)).setCell ⟨F2, 1, none⟩ (.int .i64 (-1)) = W6 at hf6 hB6 OW7 ⊢
          refine (hfin _).mono ?_
          rintro e w7 ⟨rfl, hb7⟩
          clear hfin k0 k1 kz
          have hf7 := hf6.below hb7
          have hB7 : Below w.heap.size w w7 := hB6.trans (hb7.mono hB6.size)
          have j0 := hf7.c0
          have j1 := hf7.c1
          have jz := hf7.fz
          have OW8 := own_below OW7.out hb7
          have OW9 := ownsRow_setCell_below (ownsRow_setCell_below OW8 (a := ⟨w.heap.size, 0, none⟩) hF1 (.int .i64 0)) (a := ⟨w.heap.size, 1, none⟩) hF1 (.int .i64 (-1))
          have HRO : Hid (RowsAt ((w7.setCell ⟨w.heap.size, 0, none⟩ (.int .i64 0)).setCell ⟨w.heap.size, 1, none⟩ (.int .i64 (-1))) (.slice q7 n c7) acc) := (rowsAt_of_own OW9).1
          clear OW8 OW9 hf7
          go_wp2
          exact bodyPost_ret (v := .tuple #[.slice q7 n c7, .agg #[.int .i64 0, .int .i64 (-1)]]) (by simp [results, Tryz.results84, go_sem, j0, j1]) rfl ⟨(hB7.setCell (by simp) _).setCell (by simp) _, Or.inl ⟨by rw [HRE.out], _, rfl, by rw [HRE.out]; exact HRO.out⟩⟩
        · rw [if_neg hH] at HRE
          have hHp : (0 : Int) < (H : Int) := by omega
          have HH0 : Hid (H ≠ 0) := hH
          clear OW6 hH
          go_wp2
          generalize (w5.setCell ⟨F2, 0, none⟩ (.int .i64 H)).setCell ⟨F2, 1, none⟩ (.int .i64 (-1)) = W6 at hf6 hg6 hB6 ⊢
          have j0 := hf6.c0
          have j1 := hf6.c1
          have jz := hf6.fz
          have l0 := hg6.c0
          have l1 := hg6.c1
          have hBd := hB6.drew
          have hf3d : FC W6.drew w.heap.size 0 0 := hf6.below (Below.refl W6.heap.size W6).drew
          have hg3d : FC W6.drew F2 H (-1) := hg6.below (Below.refl W6.heap.size W6).drew
          have m0 := hf3d.c0
          have m1 := hf3d.c1
          have mz := hf3d.fz
          have n0 := hg3d.c0
          have n1 := hg3d.c1
          clear hf3d hg3d k0 k1 kz
          go_region
          all_goals go_wp2
          all_goals refine bodyPost_ret (v := .tuple #[.slice none 0 0, .agg #[.int .i64 H, .int .i64 (-1)]]) (by simp [results, Tryz.results84, go_sem, j0, j1]) rfl ⟨?_, Or.inr ⟨by rw [HRE.out]; exact HH0.out, -1, by rw [HRE.out], fun _ => rfl, by rw [HRE.out]; intro k h; cases h⟩⟩
          all_goals first
            | exact (hB6.setCell (by simp) _).setCell (by simp) _
            | exact (hBd.setCell (by simp) _).setCell (by simp) _
            | exact ((hB6.setCell (by simp) _).setCell (by simp) _).drew
      · have hbe : (t.toList == []) = false := neB_of hte
        rw [if_neg hte] at hrec
        have HRE : Hid (R = ([], 1, n)) := hrec.symm
        clear hrec hte hszl
        have hfz := hfr
        have hBz := hBr
        have j0 := hfz.c0
        have j1 := hfz.c1
        have jz := hfz.fz
        go_wp2
        refine bodyPost_ret (v := .tuple #[.slice none 0 0, .agg #[.int .i64 1, .int .i64 n]]) (by simp [results, Tryz.results84, go_sem, j0, j1]) rfl ⟨(hBz.setCell (by simp) _).setCell (by simp) _, Or.inr ⟨?_, n, ?_, ?_, ?_⟩⟩
        · rw [HD.out, HRE.out, endO, endG, if_pos (by simp)]; simp
        · rw [HD.out, HRE.out, endO, endG, if_pos (by simp)]; rfl
        · rw [HD.out, HRE.out, endO, endG, if_pos (by simp)]; intro h; cases h
        · rw [HD.out, HRE.out, endO, endG, if_pos (by simp)]; intro k h; injection h with h; rw [← h]
    · have hn1 : n < M := by omega
      obtain ⟨l2, r, hpb⟩ : ∃ l2 r, (ts.map (·.data.toList)).drop (n + 1) = l2 :: r := List.exists_cons_of_ne_nil (fun e => by
        have := congrArg List.length e
        rw [List.length_drop, List.length_map, HX.out, List.length_nil] at this
        omega)
      rw [hpb, rowsO_cons, ← hpb] at hrec
      have hnl : ¬ (n : Int) = (M : Int) := by omega
      have hrr := readRow_any ts[n] wr (by omega)
      clear hpb
      generalize ts[n].data.toList = tl at hrec hrr
      generalize ts[n] = t at cl hszl hrr
      by_cases hro : (readO tl).2 ≠ 0
      · rw [if_pos hro] at hrec
        obtain ⟨E, hEE⟩ : ∃ E, (readO tl).2 = E := ⟨_, rfl⟩
        rw [hEE] at hrr hrec hro
        have hEp : (0 : Int) < (E : Int) := by omega
        have HE0 : Hid (E ≠ 0) := hro
        have HRE : Hid (R = ([], E, n)) := hrec.symm
        generalize (readO tl).1 = x at hrr
        obtain ⟨xp, xk, xv⟩ := x
        simp only [rowV] at hrr
        clear hrec hEE hro
        go_wp2_with fail
        refine hrr.mono ?_
        rintro e w4 ⟨rfl, hb4⟩
        clear hrr
        have hal4 : Below w4.heap.size w4 (w4.alloc (.cells #[.string xp, .int .i64 xk, .int .i64 xv] 41)) := (Below.refl _ _).alloc (Nat.le_refl _) _
        have hb45 := hb4.trans (hal4.mono hb4.size)
        have hfz := hfr.below hb45
        have hBz : Below w.heap.size w (w4.alloc (.cells #[.string xp, .int .i64 xk, .int .i64 xv] 41)) := hBr.trans (hb45.mono hBr.size)
        have hF14 : w.heap.size < w4.heap.size := (hfr.below hb4).lt
        have hne4 : ¬ w.heap.size = w4.heap.size := by omega
        have hne4' : ¬ w4.heap.size = w.heap.size := by omega
        have hf4 := hfr.below hb4
        have a0 := hf4.c0
        have a1 := hf4.c1
        have az := hf4.fz
        have hf5 := (hf4.set E n).below ((Below.refl _ _).alloc (Nat.le_refl _) (.cells #[.string xp, .int .i64 xk, .int .i64 xv] 41))
        have j0 := hf5.c0
        have j1 := hf5.c1
        have hB4 : Below w.heap.size w w4 := hBr.trans (hb4.mono hBr.size)
        have hBE := (hB4.setCell (p := ⟨w.heap.size, 0, none⟩) (Nat.le_refl _) (.int .i64 E)).setCell (p := ⟨w.heap.size, 1, none⟩) (Nat.le_refl _) (.int .i64 n)
        have hBE2 := hBE.alloc hBE.size (.cells #[.string xp, .int .i64 xk, .int .i64 xv] 41)
        clear hf4 hf5 hb45 hal4 hb4 cl hszl hBE hfz hBz
        go_wp2
        refine bodyPost_ret (v := .tuple #[.slice none 0 0, .agg #[.int .i64 E, .int .i64 n]]) (by simp [results, Tryz.results84, go_sem, j0, j1]) rfl ⟨hBE2, Or.inr ⟨?_, n, ?_, ?_, ?_⟩⟩
        · rw [HD.out, HRE.out, endO, endG, if_pos (by simp [HE0.out])]; exact HE0.out
        · rw [HD.out, HRE.out, endO, endG, if_pos (by simp [HE0.out])]
        · rw [HD.out, HRE.out, endO, endG, if_pos (by simp [HE0.out])]; intro h; cases h
        · rw [HD.out, HRE.out, endO, endG, if_pos (by simp [HE0.out])]; intro k h; injection h with h; rw [← h]
      have hro0 : (readO tl).2 = 0 := by omega
      rw [if_neg hro] at hrec
      rw [hro0] at hrr
      obtain ⟨x, hxe⟩ : ∃ x, (readO tl).1 = x := ⟨_, rfl⟩
      rw [hxe] at hrr hrec
      clear hro hro0 hxe
      cases n with
      | zero =>
        have hae : acc = [] := List.length_eq_zero_iff.1 HAL.out
        rw [if_neg (by rw [hae]; simp)] at hrec
        obtain ⟨xp, xk, xv⟩ := x
        have HRN : Hid (rowsO ((ts.map (·.data.toList)).drop (0 + 1)) (0 + 1) (acc ++ [(xp, xk, xv)]) = R) := hrec
        simp only [rowV] at hrr
        clear hrec hae
        have e0 : ((0 : Nat) : Int) = 0 := rfl
        rw [e0] at hnl hi hi0' ⊢
        clear e0
        go_wp2_with fail
        refine hrr.mono ?_
        rintro e w4 ⟨rfl, hb4⟩
        clear hrr
        have hal4 : Below w4.heap.size w4 (w4.alloc (.cells #[.string xp, .int .i64 xk, .int .i64 xv] 41)) := (Below.refl _ _).alloc (Nat.le_refl _) _
        have hb45 := hb4.trans (hal4.mono hb4.size)
        have hbW : Below w3.heap.size w3 (w4.alloc (.cells #[.string xp, .int .i64 xk, .int .i64 xv] 41)) := hb.trans (hb45.mono hb.size)
        have OW' : Hid ((w4.alloc (.cells #[.string xp, .int .i64 xk, .int .i64 xv] 41)).ownsRow w3.heap.size 41 3 u7 0 (flatR acc)) := own_below OW.out hb45
        clear OW
        have OW := OW'
        have y0 : (w4.alloc (.cells #[.string xp, .int .i64 xk, .int .i64 xv] 41)).cell? ⟨w4.heap.size, 0, none⟩ = some (.string xp) := by simp
        have y1 : (w4.alloc (.cells #[.string xp, .int .i64 xk, .int .i64 xv] 41)).cell? ⟨w4.heap.size, 1, none⟩ = some (.int .i64 xk) := by simp
        have y2 : (w4.alloc (.cells #[.string xp, .int .i64 xk, .int .i64 xv] 41)).cell? ⟨w4.heap.size, 2, none⟩ = some (.int .i64 xv) := by simp
        clear OW' hb4 hal4 hb45 cl hszl y0 y1 y2
        have hal5 : Below (w4.alloc (.cells #[.string xp, .int .i64 xk, .int .i64 xv] 41)).heap.size (w4.alloc (.cells #[.string xp, .int .i64 xk, .int .i64 xv] 41)) ((w4.alloc (.cells #[.string xp, .int .i64 xk, .int .i64 xv] 41)).alloc (.cells #[.string xp, .int .i64 xk, .int .i64 xv] 41)) := (Below.refl _ _).alloc (Nat.le_refl _) _
        have hb5 : Below w3.heap.size w3 ((w4.alloc (.cells #[.string xp, .int .i64 xk, .int .i64 xv] 41)).alloc (.cells #[.string xp, .int .i64 xk, .int .i64 xv] 41)) := hbW.alloc hbW.size _
        go_wp2_with (at_builtin; refine wpList_append_own _ rfl _ _ 24 rfl w3.heap.size 41 i0 (.agg #[.string ⟨#[]⟩, .int .i64 0, .int .i64 0]) 3 32 Tryz.underlying24 hi0 hz0 hs0 hby0 rfl (by decide) _ 0 (flatR acc) rfl ?qd0 ⟨w4.heap.size + 1, 0, none⟩ 1 1 (encR (xp, xk, xv)) rfl ?qd1 ?qd2 ?qd3 ?qd4 ?qd5 ?qd6 ?_)
        case qd0 => exact own_below OW.out hal5
        case qd1 => rfl
        case qd2 =>
          intro j u hj
          rw [Addr.add_lit, Nat.zero_add]
          have := cells_three (w4.alloc (.cells #[.string xp, .int .i64 xk, .int .i64 xv] 41)) xp xk xv j u hj; simpa using this
        case qd3 => exact encR_one _
        case qd4 => have := HTL.out; unfold maxLen; omega
        case qd5 => have := HTL.out; omega
        case qd6 => first | exact hb5.size | (have := hbW.size; omega)
        intro v6 w6 hown6 hgrow6 hnil6
        have hb6 : Below w3.heap.size w3 w6 := hb5.grown hgrow6 hb5.size (fun k hk => by
          rcases OW.out.2 with ⟨e, _⟩ | ⟨g', cap', cur, e, hg', _⟩
          · rw [e] at hk; simp [Value.ownBlock] at hk
          · rw [e] at hk; simp [Value.ownBlock] at hk; omega)
        have OW6 : Hid (w6.ownsRow w3.heap.size 41 3 v6 (0 + 1) (flatR acc ++ encR (xp, xk, xv))) := hown6
        clear hown6 hnil6 hgrow6
        go_wp2
        go_roundw
        case rel => exact ⟨0 + 1, acc ++ [(xp, xk, xv)], by omega, by go_num, by rw [List.length_append, HAL.out]; rfl, hb6, by rw [flat_append, flat_single]; exact OW6.out, HRN.out⟩
        case measure => simp [intOf] <;> omega
      | succ k =>
        have hkk : k < acc.length := by rw [HAL.out]; omega
        have hacn : acc ≠ [] := fun e => by rw [e] at hkk; simp at hkk
        have hlastE := last_is acc k (bytesOf [], 0, 0) HAL.out hkk
        rw [hlastE] at hrec
        obtain ⟨g, cp, rfl⟩ := own_next OW.out
        obtain ⟨p0, p1, p2⟩ : wr.cell? ⟨g, k * 3, none⟩ = some (.string acc[k].1) ∧ wr.cell? ⟨g, k * 3 + 1, none⟩ = some (.int .i64 acc[k].2.1) ∧ wr.cell? ⟨g, k * 3 + 2, none⟩ = some (.int .i64 acc[k].2.2) := by
          rcases (own_cases OW.out).2 with ⟨e, _⟩ | ⟨g', cap', e, hc⟩
          · cases e
          · injection e with e1
            injection e1 with e1
            injection e1 with e1
            subst e1
            have := hc k hkk
            simpa only [Nat.zero_add] using this
        have hless := fun W => isLess_any x acc[k] W
        generalize acc[k] = y at p0 p1 p2 hless hrec
        obtain ⟨yp, yk, yv⟩ := y
        obtain ⟨xp, xk, xv⟩ := x
        dsimp only at p0 p1 p2 hless
        simp only [rowV] at hrr
        have hk1 : (0 : Int) < (k : Int) + 1 := by omega
        have hk3 : (k : Int) < (k : Int) + 1 := by omega
        have hk4 : (0 : Int) ≤ (k : Int) := by omega
        have hk5 : IntKind.i64.wrap (k : Int) = (k : Int) := IntWalk.i64_in _ (by have := HTL.out; omega)
        have hmxo : Tryz.prog.follows .mixedOrders = true := by kernel_rfl
        clear hlastE hkk
        go_wp2_with fail
        refine hrr.mono ?_
        rintro e w4 ⟨rfl, hb4⟩
        clear hrr
        have hal4 : Below w4.heap.size w4 (w4.alloc (.cells #[.string xp, .int .i64 xk, .int .i64 xv] 41)) := (Below.refl _ _).alloc (Nat.le_refl _) _
        have hb45 := hb4.trans (hal4.mono hb4.size)
        have hb3 : Below w3.heap.size w3 (w4.alloc (.cells #[.string xp, .int .i64 xk, .int .i64 xv] 41)) := hb.trans (hb45.mono hb.size)
        have OW4 : Hid ((w4.alloc (.cells #[.string xp, .int .i64 xk, .int .i64 xv] 41)).ownsRow w3.heap.size 41 3 (.slice (some ⟨g, 0, none⟩) (k + 1) cp) (k + 1) (flatR acc)) := own_below OW.out hb45
        have x0 : (w4.alloc (.cells #[.string xp, .int .i64 xk, .int .i64 xv] 41)).cell? ⟨w4.heap.size, 0, none⟩ = some (.string xp) := by simp
        have x1 : (w4.alloc (.cells #[.string xp, .int .i64 xk, .int .i64 xv] 41)).cell? ⟨w4.heap.size, 1, none⟩ = some (.int .i64 xk) := by simp
        have x2 : (w4.alloc (.cells #[.string xp, .int .i64 xk, .int .i64 xv] 41)).cell? ⟨w4.heap.size, 2, none⟩ = some (.int .i64 xv) := by simp
        have z0 := below_keep hb45 p0
        have z1 := below_keep hb45 p1
        have z2 := below_keep hb45 p2
        have hfr4 := hfr.below hb45
        have hF14 : w.heap.size < w4.heap.size := (hfr.below hb4).lt
        clear OW p0 p1 p2 hal4 hb4 cl hszl hfr
        go_wp2_with fail
        generalize w4.alloc (.cells #[.string xp, .int .i64 xk, .int .i64 xv] 41) = W2 at hb3 OW4 x0 x1 x2 z0 z1 z2 hfr4 hb45 ⊢
        generalize w4.heap.size = bx at x0 x1 x2 hF14 ⊢
        have hless2 := fun d os => Calls.regrown_of (w := W2) (d := d) (os := os) (hless _)
        have f0 := cell_regrown x0
        have f1 := cell_regrown x1
        have f2 := cell_regrown x2
        have f4 := cell_regrown z0
        have f5 := cell_regrown z1
        have f6 := cell_regrown z2
        obtain ⟨lb, hlb⟩ : ∃ lb, ltOf cfR (xp, xk, xv) (yp, yk, yv) = lb := ⟨_, rfl⟩
        rw [hlb] at hrec
        rw [hlb] at hless2
        clear hlb hless
        refine wp_region_quiet_below hmxo (by kernel_rfl) ?_
        repeat (go_big_quiet_step (exact hless2 _ _))
        refine wpQuiet_nil ?_
        intro _ hw'
        obtain ⟨⟨dq, osq⟩, hw''⟩ := hw'
        subst hw''
        clear hless2 f0 f1 f2 f4 f5 f6
        have hbq := below_regrown W2 dq osq
        have hbW : Below w3.heap.size w3 (grow (redrawn W2 dq) osq) := hb3.trans (hbq.mono hb3.size)
        have OW : Hid ((grow (redrawn W2 dq) osq).ownsRow w3.heap.size 41 3 (.slice (some ⟨g, 0, none⟩) (k + 1) cp) (k + 1) (flatR acc)) := own_below OW4.out hbq
        have y0 := below_keep hbq x0
        have y1 := below_keep hbq x1
        have y2 := below_keep hbq x2
        have hfz := hfr4.below hbq
        have hBz : Below w.heap.size w (grow (redrawn W2 dq) osq) := hB3.trans (hbW.mono hB3.size)
        clear hbq x0 x1 x2 z0 z1 z2 OW4 hfr4 hb45
        generalize grow (redrawn W2 dq) osq = W4 at hbW OW y0 y1 y2 hfz hBz ⊢
        cases lb with
        | true =>
          rw [if_pos ⟨hacn, rfl⟩] at hrec
          have HRE : Hid (R = ([], 9, k + 1)) := hrec.symm
          clear hrec
          have j0 := hfz.c0
          have j1 := hfz.c1
          have jz := hfz.fz
          go_wp2
          refine bodyPost_ret (v := .tuple #[.slice none 0 0, .agg #[.int .i64 9, .int .i64 ((k + 1 : Nat) : Int)]]) (by simp [results, Tryz.results84, go_sem, j0, j1]) rfl ⟨(hBz.setCell (by simp) _).setCell (by simp) _, Or.inr ⟨?_, ((k + 1 : Nat) : Int), ?_, ?_, ?_⟩⟩
          · rw [HD.out, HRE.out, endO, endG, if_pos (by simp)]; simp
          · rw [HD.out, HRE.out, endO, endG, if_pos (by simp)]; rfl
          · rw [HD.out, HRE.out, endO, endG, if_pos (by simp)]; intro h; cases h
          · rw [HD.out, HRE.out, endO, endG, if_pos (by simp)]; intro k h; injection h with h; rw [← h]
        | false =>
          rw [if_neg (fun e => by cases e.2)] at hrec
          have HRN : Hid (rowsO ((ts.map (·.data.toList)).drop (k + 1 + 1)) (k + 1 + 1) (acc ++ [(xp, xk, xv)]) = R) := hrec
          clear hrec
          have hal5 : Below W4.heap.size W4 (W4.alloc (.cells #[.string xp, .int .i64 xk, .int .i64 xv] 41)) := (Below.refl _ _).alloc (Nat.le_refl _) _
          have hb5 : Below w3.heap.size w3 (W4.alloc (.cells #[.string xp, .int .i64 xk, .int .i64 xv] 41)) := hbW.alloc hbW.size _
          go_wp2_with (at_builtin; refine wpList_append_own _ rfl _ _ 24 rfl w3.heap.size 41 i0 (.agg #[.string ⟨#[]⟩, .int .i64 0, .int .i64 0]) 3 32 Tryz.underlying24 hi0 hz0 hs0 hby0 rfl (by decide) _ (k + 1) (flatR acc) rfl ?qd0 ⟨W4.heap.size, 0, none⟩ 1 1 (encR (xp, xk, xv)) rfl ?qd1 ?qd2 ?qd3 ?qd4 ?qd5 ?qd6 ?_)
          case qd0 => exact own_below OW.out hal5
          case qd1 => rfl
          case qd2 =>
            intro j u hj
            rw [Addr.add_lit, Nat.zero_add]
            exact cells_three W4 xp xk xv j u hj
          case qd3 => exact encR_one _
          case qd4 => have := HTL.out; unfold maxLen; omega
          case qd5 => have := HTL.out; omega
          case qd6 => first | exact hb5.size | (have := hbW.size; omega)
          intro v6 w6 hown6 hgrow6 hnil6
          have hb6 : Below w3.heap.size w3 w6 := hb5.grown hgrow6 hb5.size (fun k hk => by
            rcases OW.out.2 with ⟨e, _⟩ | ⟨g', cap', cur, e, hg', _⟩
            · rw [e] at hk; simp [Value.ownBlock] at hk
            · rw [e] at hk; simp [Value.ownBlock] at hk; omega)
          have OW6 : Hid (w6.ownsRow w3.heap.size 41 3 v6 ((k + 1) + 1) (flatR acc ++ encR (xp, xk, xv))) := hown6
          clear hown6 hnil6 hgrow6
          go_wp2
          go_roundw
          case rel => exact ⟨(k + 1) + 1, acc ++ [(xp, xk, xv)], by omega, by go_num, by rw [List.length_append, HAL.out]; rfl, hb6, by rw [flat_append, flat_single]; exact OW6.out, HRN.out⟩
          case measure => simp [intOf] <;> omega
end Go.Proofs.YtpkoefpdpoikkaaGreatDoor
namespace Go.Proofs.YtpkoefpdpoikkaaGreatDoor
open Go.RowKit Go.Extern.Stop Go.Stop Go.Extern Go.Sort Go.Shelf Go.Lib

theorem ints_one (zs : List Int) : ∀ u ∈ zs.map (Value.int .i64), u.oneCell' = true := by
  intro u hu
  obtain ⟨y, _, rfl⟩ := List.mem_map.1 hu
  rfl

end Go.Proofs.YtpkoefpdpoikkaaGreatDoor
