/-
  The contracts of file.keysOf, file.bare and file.Of.
-/
import Derived.Test.YtdhkdjlgmbejnaaGreatDoorRefReadData
import Derived.Test.YtdhkdjlgmbejnaaGreatDoorRefRise
namespace Go.Proofs.YtdhkdjlgmbejnaaGreatDoor
open Go.RowKit Go.Extern.Stop Go.Stop Go.Extern Go.Sort Go.Shelf Go.Lib

def ReadPostK (w : World) (D : List Int × Nat × Option Nat) (e : Ending) (w' : World) : Prop :=
  Below w.heap.size w w' ∧ ((D.2.1 = 0 ∧ ∃ v, e = .returned (.tuple #[v, .agg #[.int .i64 0, .int .i64 (-1)]]) ∧ KeysAt w' v D.1 ∧ NewAt w v) ∨
    (D.2.1 ≠ 0 ∧ ∃ j : Int, e = .returned (.tuple #[.slice none 0 0, .agg #[.int .i64 D.2.1, .int .i64 j]]) ∧ (D.2.2 = none → j = -1) ∧ ∀ k : Nat, D.2.2 = some k → j = k))

theorem headK_end (n lo hi : Int) (acc : List Int) : endG goneK n lo hi (acc, 0, 0) = if headF n lo hi acc = 0 then (acc, 0, none) else ([], headF n lo hi acc, none) := by
  unfold endG headF
  rw [keysG_gone]
  simp only [ne_eq, not_true_eq_false, if_false]
  split
  · simp
  · split <;> simp

theorem rowsK_cons (l l2 : List UInt8) (r : List (List UInt8)) (at_ : Nat) (acc : List Int) : rowsG goneK (l :: l2 :: r) at_ acc = if (keyO l).2 ≠ 0 then ([], (keyO l).2, at_) else
    if acc ≠ [] ∧ decide ((keyO l).1 ≤ acc.getLastD 0) = true then ([], 9, at_) else rowsG goneK (l2 :: r) (at_ + 1) (acc ++ [(keyO l).1]) := rfl

set_option maxRecDepth 100000 in
set_option maxHeartbeats 8000000 in
theorem readGone_any (s : ByteArray) (w : World) (hs : s.size ≤ maxLen) :
    Calls Tryz.prog 54 #[.string s] w fun e w' => ReadPostK w (goneO s.data.toList) e w' := by
  obtain ⟨i0, hi0, hz0, hs0, hby0⟩ := Tryz.numInfo
  have hf1 := FC.new w
  have hal : Below w.heap.size w (w.alloc (.cells #[.int .i64 0, .int .i64 0] 46)) := (Below.refl _ _).alloc (Nat.le_refl _) _
  have hst := splitText_any goneK ⟨#[103, 111, 110, 101]⟩ s rfl (w.alloc (.cells #[.int .i64 0, .int .i64 0] 46)) hs
  obtain ⟨D, hDD⟩ : ∃ D, goneO s.data.toList = D := ⟨_, rfl⟩
  have HD0 : Hid (goneO s.data.toList = D) := hDD
  rw [hDD]
  clear hDD hs
  go_enter Tryz.func54, Tryz.ntmps54
  go_wp2_with fail
  generalize w.alloc (.cells #[.int .i64 0, .int .i64 0] 46) = w1 at hf1 hal hst ⊢
  refine hst.mono ?_
  rintro e w2 ⟨hb2, hp⟩
  clear hst
  have hB2 : Below w.heap.size w w2 := hal.trans (hb2.mono hal.size)
  have hf2 := hf1.below hb2
  clear hf1 hal hb2
  rcases hp with ⟨c, hc0, rfl, hD⟩ | ⟨nn, nlo, nhi, sum, b, v, tv, ts, rfl, hka, hts, htm, hbl, hD⟩
  · have HD : Hid (D = ([], c, none)) := by show _ = _; rw [← HD0.out]; exact hD
    have hcp : (0 : Int) < (c : Int) := by omega
    have HC0 : Hid (c ≠ 0) := hc0
    have hal2 : Below w2.heap.size w2 (w2.alloc (.cells #[.int .i64 c, .int .i64 (-1)] 46)) := (Below.refl _ _).alloc (Nat.le_refl _) _
    have hg3 : FC (w2.alloc (.cells #[.int .i64 c, .int .i64 (-1)] 46)) w2.heap.size c (-1) := heap_alloc_new _ _
    have hf3 := hf2.below hal2
    have hB3 : Below w.heap.size w (w2.alloc (.cells #[.int .i64 c, .int .i64 (-1)] 46)) := hB2.trans (hal2.mono hB2.size)
    clear hD hc0 hal2 hf2
    go_wp2
    generalize w2.alloc (.cells #[.int .i64 c, .int .i64 (-1)] 46) = w3 at hg3 hf3 hB3 ⊢
    generalize w2.heap.size = F2 at hg3 ⊢
    have j0 := hf3.c0
    have j1 := hf3.c1
    have jz := hf3.fz
    have k0 := hg3.c0
    have k1 := hg3.c1
    have hBd := hB3.drew
    have hf3d : FC w3.drew w.heap.size 0 0 := hf3.below (Below.refl w3.heap.size w3).drew
    have hg3d : FC w3.drew F2 c (-1) := hg3.below (Below.refl w3.heap.size w3).drew
    have m0 := hf3d.c0
    have m1 := hf3d.c1
    have mz := hf3d.fz
    have n0 := hg3d.c0
    have n1 := hg3d.c1
    clear hf3d hg3d
    go_region
    all_goals go_wp2
    all_goals refine bodyPost_ret (v := .tuple #[.slice none 0 0, .agg #[.int .i64 c, .int .i64 (-1)]]) (by simp [results, Tryz.results54, go_sem, j0, j1]) rfl ⟨?_, Or.inr ⟨by rw [HD.out]; exact HC0.out, -1, by rw [HD.out], fun _ => rfl, by rw [HD.out]; intro k h; cases h⟩⟩
    all_goals first
      | exact (hB3.setCell (by simp) _).setCell (by simp) _
      | exact (hBd.setCell (by simp) _).setCell (by simp) _
      | exact ((hB3.setCell (by simp) _).setCell (by simp) _).drew
  obtain ⟨R, hR⟩ : ∃ R, rowsG goneK (pieces 10 b) 0 [] = R := ⟨_, rfl⟩
  have HD : Hid (D = endG goneK nn nlo nhi R) := by show _ = _; rw [← HD0.out]; exact hD.trans (congrArg (endG goneK nn nlo nhi) hR)
  have HTM : Hid (ts.map (·.data.toList) = pieces 10 b) := htm
  have hpl := pieces_count 10 b
  have hcl := List.count_le_length (a := (10 : UInt8)) (l := b)
  have htl : ts.length = (pieces 10 b).length := by have := congrArg List.length htm; simpa using this
  have hTL1 : 1 ≤ ts.length := by omega
  have HTL : Hid (ts.length ≤ 20001) := by show _ ≤ _; omega
  have HSZ : Hid (∀ t ∈ ts, t.size ≤ 20000) := fun t ht => by
    have h1 : t.data.toList ∈ pieces 10 b := by rw [← htm]; exact List.mem_map_of_mem ht
    have h2 := pieces_len 10 b _ h1
    rw [size_list] at h2
    omega
  have HR : Hid (rowsG goneK (ts.map (·.data.toList)) 0 [] = R) := by show _ = _; rw [htm]; exact hR
  clear hR hD htm hpl hcl htl hbl HD0
  have hal2 : Below w2.heap.size w2 (w2.alloc (.cells #[.int .i64 0, .int .i64 (-1)] 46)) := (Below.refl _ _).alloc (Nat.le_refl _) _
  have hg3 : FC (w2.alloc (.cells #[.int .i64 0, .int .i64 (-1)] 46)) w2.heap.size 0 (-1) := heap_alloc_new _ _
  have hf3 := hf2.below hal2
  have hB3 : Below w.heap.size w (w2.alloc (.cells #[.int .i64 0, .int .i64 (-1)] 46)) := hB2.trans (hal2.mono hB2.size)
  have hka3 := hka.below hal2
  obtain ⟨tb, tcap, rfl, htcap, htc⟩ := hts.below hal2
  have hF12 := hf2.lt
  clear hal2 hf2 hka hts hB2
  obtain ⟨TL, hTLe⟩ : ∃ TL, ts.length = TL := ⟨_, rfl⟩
  have HX : Hid (ts.length = TL) := hTLe
  rw [hTLe] at hTL1 HTL ⊢
  obtain ⟨M, rfl⟩ : ∃ M, TL = M + 1 := ⟨TL - 1, by omega⟩
  have hMb : M ≤ 20000 := by have := HTL.out; omega
  have HTC : Hid (∀ j (h : j < ts.length), (w2.alloc (.cells #[.int .i64 0, .int .i64 (-1)] 46)).cell? ⟨tb, j, none⟩ = some (.string ts[j])) := htc
  clear hTLe htc htcap
  go_wp2
  generalize w2.alloc (.cells #[.int .i64 0, .int .i64 (-1)] 46) = w3 at hg3 hf3 hB3 hka3 HTC ⊢
  generalize w2.heap.size = F2 at hg3 hF12 ⊢
  have hF1 := hf3.lt
  have hF2 := hg3.lt
  go_loopw [7, 8] (fun out k wr => ∃ (n : Nat) (acc : List Int), n < M + 1 ∧ k = .int .i64 n ∧ acc.length = n ∧ Below w3.heap.size w3 wr ∧ wr.ownsRow w3.heap.size 3 1 out n (acc.map (Value.int .i64)) ∧ rowsG goneK ((ts.map (·.data.toList)).drop n) n acc = R) (fun _ k _ => M + 1 - (intOf k).toNat)
  case atStart => exact ⟨0, [], by omega, rfl, rfl, Below.refl _ _, World.ownsRow_nil _ _ _ _, HR.out⟩
  case round =>
    obtain ⟨n, acc, hn, rfl, hacc, hb, hown, hrec⟩ := hrel
    have OW : Hid (wr.ownsRow w3.heap.size 3 1 u7 n (acc.map (Value.int .i64))) := hown
    have HAL : Hid (acc.length = n) := hacc
    have hntx : n < ts.length := by rw [HX.out]; exact hn
    have hdr : (ts.map (·.data.toList)).drop n = ts[n].data.toList :: (ts.map (·.data.toList)).drop (n + 1) := by
      rw [List.drop_eq_getElem_cons (by rw [List.length_map]; exact hntx)]
      simp
    rw [hdr] at hrec
    have cl := below_keep hb (HTC.out n hntx)
    have hszl := HSZ.out ts[n] (List.getElem_mem _)
    have hi : (n : Int) < (M : Int) + 1 := by omega
    have hM5 : IntKind.i64.wrap (M : Int) = (M : Int) := IntWalk.i64_in _ (by have := HTL.out; omega)
    have hi0' : (0 : Int) ≤ (n : Int) := by omega
    have hBr : Below w.heap.size w wr := hB3.trans (hb.mono hB3.size)
    have hfr := hf3.below hb
    clear hown hacc hdr
    by_cases hlast : n = M
    · subst hlast
      have hnil : (ts.map (·.data.toList)).drop (n + 1) = [] := List.drop_eq_nil_of_le (by rw [List.length_map, HX.out]; exact Nat.le_refl _)
      rw [hnil, rowsG_one] at hrec
      clear hnil
      generalize ts[n] = t at cl hszl hrec
      by_cases hte : t.data.toList = []
      · have hbe : (t.toList == []) = true := eqB_of hte
        rw [if_pos hte] at hrec
        have HRE : Hid (D = if headF nn nlo nhi acc = 0 then (acc, 0, none) else ([], headF nn nlo nhi acc, none)) := by
          show _ = _
          rw [HD.out, ← hrec, headK_end]
        clear hrec hte hszl
        have hra : KeysAt wr u7 acc := keysAt_own (by rw [HAL.out]; exact OW.out)
        obtain ⟨q7, c7, rfl⟩ := own_slice OW.out
        have hhf := headFault_any v (.slice q7 n c7) nn nlo nhi sum acc wr (hka3.below hb) hra (by have := HAL.out; have := HTL.out; omega)
        clear hra
        generalize headF nn nlo nhi acc = H at HRE hhf
        go_wp2_with fail
        refine hhf.mono ?_
        rintro e w5 ⟨rfl, hb5⟩
        clear hhf
        have hb35 : Below w3.heap.size w3 w5 := hb.trans (hb5.mono hb.size)
        have hBw5 : Below w.heap.size w w5 := hB3.trans (hb35.mono hB3.size)
        have hg5 := hg3.below hb35
        have hf5 := hf3.below hb35
        have OW5 : w5.ownsRow w3.heap.size 3 1 (.slice q7 n c7) n (acc.map (Value.int .i64)) := own_below OW.out hb5
        have hne12 : w.heap.size ≠ F2 := by omega
        have hg6 := hg5.set H (-1)
        have hf6 : FC ((w5.setCell ⟨F2, 0, none⟩ (.int .i64 H)).setCell ⟨F2, 1, none⟩ (.int .i64 (-1))) w.heap.size 0 0 := blk_other (blk_other hf5 hne12) hne12
        have hB6 : Below w.heap.size w ((w5.setCell ⟨F2, 0, none⟩ (.int .i64 H)).setCell ⟨F2, 1, none⟩ (.int .i64 (-1))) := (hBw5.setCell (by simp; omega) _).setCell (by simp; omega) _
        have OW6 : ((w5.setCell ⟨F2, 0, none⟩ (.int .i64 H)).setCell ⟨F2, 1, none⟩ (.int .i64 (-1))).ownsRow w3.heap.size 3 1 (.slice q7 n c7) n (acc.map (Value.int .i64)) := ownsRow_setCell_below (ownsRow_setCell_below OW5 (a := ⟨F2, 0, none⟩) hF2 _) (a := ⟨F2, 1, none⟩) hF2 _
        have k0 := hg5.c0
        have k1 := hg5.c1
        have kz := hg5.fz
        clear hfr hBr OW OW5 hb5 hb35 hf5 hg5 cl hBw5
        by_cases hH : H = 0
        · subst hH
          rw [if_pos rfl] at HRE
          have OW7 : Hid (((w5.setCell ⟨F2, 0, none⟩ (.int .i64 ((0 : Nat) : Int))).setCell ⟨F2, 1, none⟩ (.int .i64 (-1))).ownsRow w3.heap.size 3 1 (.slice q7 n c7) n (acc.map (Value.int .i64))) := OW6
          have HNEW : Hid (NewAt w (.slice q7 n c7)) := fun k hk => Nat.le_trans hB3.size (OW6.lt k hk).1
          clear OW6 hg6
          have hz0' : ((0 : Nat) : Int) = 0 := rfl
          rw [hz0'] at hf6 hB6 OW7 ⊢
          clear hz0'
          have hfin := fun W => fine_of W
          go_wp2_with fail
          generalize (w5.setCell ⟨F2, 0, none⟩ (.int .i64 0)).setCell ⟨F2, 1, none⟩ (.int .i64 (-1)) = W6 at hf6 hB6 OW7 ⊢
          refine (hfin _).mono ?_
          rintro e w7 ⟨rfl, hb7⟩
          clear hfin k0 k1 kz
          have hf7 := hf6.below hb7
          have hB7 : Below w.heap.size w w7 := hB6.trans (hb7.mono hB6.size)
          have j0 := hf7.c0
          have j1 := hf7.c1
          have jz := hf7.fz
          have OW8 := own_below OW7.out hb7
          have OW9 := ownsRow_setCell_below (ownsRow_setCell_below OW8 (a := ⟨w.heap.size, 0, none⟩) hF1 (.int .i64 0)) (a := ⟨w.heap.size, 1, none⟩) hF1 (.int .i64 (-1))
          have HRO : Hid (KeysAt ((w7.setCell ⟨w.heap.size, 0, none⟩ (.int .i64 0)).setCell ⟨w.heap.size, 1, none⟩ (.int .i64 (-1))) (.slice q7 n c7) acc) := keysAt_own (by rw [HAL.out]; exact OW9)
          clear OW8 OW9 hf7
          go_wp2
          exact bodyPost_ret (v := .tuple #[.slice q7 n c7, .agg #[.int .i64 0, .int .i64 (-1)]]) (by simp [results, Tryz.results54, go_sem, j0, j1]) rfl ⟨(hB7.setCell (by simp) _).setCell (by simp) _, Or.inl ⟨by rw [HRE.out], _, rfl, by rw [HRE.out]; exact HRO.out, HNEW.out⟩⟩
        · rw [if_neg hH] at HRE
          have hHp : (0 : Int) < (H : Int) := by omega
          have HH0 : Hid (H ≠ 0) := hH
          clear OW6 hH
          go_wp2
          generalize (w5.setCell ⟨F2, 0, none⟩ (.int .i64 H)).setCell ⟨F2, 1, none⟩ (.int .i64 (-1)) = W6 at hf6 hg6 hB6 ⊢
          have j0 := hf6.c0
          have j1 := hf6.c1
          have jz := hf6.fz
          have l0 := hg6.c0
          have l1 := hg6.c1
          have hBd := hB6.drew
          have hf3d : FC W6.drew w.heap.size 0 0 := hf6.below (Below.refl W6.heap.size W6).drew
          have hg3d : FC W6.drew F2 H (-1) := hg6.below (Below.refl W6.heap.size W6).drew
          have m0 := hf3d.c0
          have m1 := hf3d.c1
          have mz := hf3d.fz
          have n0 := hg3d.c0
          have n1 := hg3d.c1
          clear hf3d hg3d k0 k1 kz
          go_region
          all_goals go_wp2
          all_goals refine bodyPost_ret (v := .tuple #[.slice none 0 0, .agg #[.int .i64 H, .int .i64 (-1)]]) (by simp [results, Tryz.results54, go_sem, j0, j1]) rfl ⟨?_, Or.inr ⟨by rw [HRE.out]; exact HH0.out, -1, by rw [HRE.out], fun _ => rfl, by rw [HRE.out]; intro k h; cases h⟩⟩
          all_goals first
            | exact (hB6.setCell (by simp) _).setCell (by simp) _
            | exact (hBd.setCell (by simp) _).setCell (by simp) _
            | exact ((hB6.setCell (by simp) _).setCell (by simp) _).drew
      · have hbe : (t.toList == []) = false := neB_of hte
        rw [if_neg hte] at hrec
        have HRE : Hid (R = ([], 1, n)) := hrec.symm
        clear hrec hte hszl
        have hfz := hfr
        have hBz := hBr
        have j0 := hfz.c0
        have j1 := hfz.c1
        have jz := hfz.fz
        go_wp2
        refine bodyPost_ret (v := .tuple #[.slice none 0 0, .agg #[.int .i64 1, .int .i64 n]]) (by simp [results, Tryz.results54, go_sem, j0, j1]) rfl ⟨(hBz.setCell (by simp) _).setCell (by simp) _, Or.inr ⟨?_, n, ?_, ?_, ?_⟩⟩
        · rw [HD.out, HRE.out, endG, if_pos (by simp)]; simp
        · rw [HD.out, HRE.out, endG, if_pos (by simp)]; rfl
        · rw [HD.out, HRE.out, endG, if_pos (by simp)]; intro h; cases h
        · rw [HD.out, HRE.out, endG, if_pos (by simp)]; intro k h; injection h with h; rw [← h]
    · have hn1 : n < M := by omega
      obtain ⟨l2, r, hpb⟩ : ∃ l2 r, (ts.map (·.data.toList)).drop (n + 1) = l2 :: r := List.exists_cons_of_ne_nil (fun e => by
        have := congrArg List.length e
        rw [List.length_drop, List.length_map, HX.out, List.length_nil] at this
        omega)
      rw [hpb, rowsK_cons, ← hpb] at hrec
      have hnl : ¬ (n : Int) = (M : Int) := by omega
      have hrr := numberOf_any ts[n] wr (by unfold maxLen; omega)
      clear hpb
      generalize ts[n].data.toList = tl at hrec hrr
      generalize ts[n] = t at cl hszl hrr
      unfold numR at hrr
      cases hno : numO tl with
      | none =>
        have hko : keyO tl = (0, 1) := by rw [keyO_eq, hno]
        rw [hko] at hrec
        rw [hno] at hrr
        dsimp only at hrr
        rw [if_pos (by simp)] at hrec
        have HRE : Hid (R = ([], 1, n)) := hrec.symm
        clear hrec hko hno
        go_wp2_with fail
        refine hrr.mono ?_
        rintro e w4 ⟨rfl, hw4⟩
        have hb4 : Below wr.heap.size wr w4 := by rw [hw4]; exact Below.refl _ _
        clear hrr hw4
        have hfz := hfr.below hb4
        have hBz : Below w.heap.size w w4 := hBr.trans (hb4.mono hBr.size)
        have j0 := hfz.c0
        have j1 := hfz.c1
        have jz := hfz.fz
        go_wp2
        refine bodyPost_ret (v := .tuple #[.slice none 0 0, .agg #[.int .i64 1, .int .i64 n]]) (by simp [results, Tryz.results54, go_sem, j0, j1]) rfl ⟨(hBz.setCell (by simp) _).setCell (by simp) _, Or.inr ⟨?_, n, ?_, ?_, ?_⟩⟩
        · rw [HD.out, HRE.out, endG, if_pos (by simp)]; simp
        · rw [HD.out, HRE.out, endG, if_pos (by simp)]; rfl
        · rw [HD.out, HRE.out, endG, if_pos (by simp)]; intro h; cases h
        · rw [HD.out, HRE.out, endG, if_pos (by simp)]; intro k h; injection h with h; rw [← h]
      | some x =>
        rw [hno] at hrr
        dsimp only at hrr
        have hfar := fun W => isFar_any x W
        cases hin : inNum x with
        | false =>
          have hko : keyO tl = (0, 2) := by rw [keyO_eq, hno]; simp [hin]
          rw [hko] at hrec
          rw [hin] at hfar
          rw [if_pos (by simp)] at hrec
          have HRE : Hid (R = ([], 2, n)) := hrec.symm
          clear hrec hko hno hin
          go_wp2_with fail
          refine hrr.mono ?_
          rintro e w4 ⟨rfl, hw4⟩
          have hb4 : Below wr.heap.size wr w4 := by rw [hw4]; exact Below.refl _ _
          clear hrr hw4
          have hfz := hfr.below hb4
          have hBz : Below w.heap.size w w4 := hBr.trans (hb4.mono hBr.size)
          go_wp2_with fail
          refine (hfar _).mono ?_
          rintro e w5 ⟨rfl, rfl⟩
          clear hfar
          have j0 := hfz.c0
          have j1 := hfz.c1
          have jz := hfz.fz
          go_wp2
          refine bodyPost_ret (v := .tuple #[.slice none 0 0, .agg #[.int .i64 2, .int .i64 n]]) (by simp [results, Tryz.results54, go_sem, j0, j1]) rfl ⟨(hBz.setCell (by simp) _).setCell (by simp) _, Or.inr ⟨?_, n, ?_, ?_, ?_⟩⟩
          · rw [HD.out, HRE.out, endG, if_pos (by simp)]; simp
          · rw [HD.out, HRE.out, endG, if_pos (by simp)]; rfl
          · rw [HD.out, HRE.out, endG, if_pos (by simp)]; intro h; cases h
          · rw [HD.out, HRE.out, endG, if_pos (by simp)]; intro k h; injection h with h; rw [← h]
        | true =>
          have hko : keyO tl = (x, 0) := by rw [keyO_eq, hno]; simp [hin]
          rw [hko] at hrec
          rw [hin] at hfar
          rw [if_neg (by simp)] at hrec
          clear hko hno hin
          dsimp only at hrec
          go_wp2_with fail
          refine hrr.mono ?_
          rintro e w4 ⟨rfl, hw4⟩
          have hb4 : Below wr.heap.size wr w4 := by rw [hw4]; exact Below.refl _ _
          clear hrr hw4
          have hfz := hfr.below hb4
          have hBz : Below w.heap.size w w4 := hBr.trans (hb4.mono hBr.size)
          have hbW : Below w3.heap.size w3 w4 := hb.trans (hb4.mono hb.size)
          have OW' : Hid (w4.ownsRow w3.heap.size 3 1 u7 n (acc.map (Value.int .i64))) := own_below OW.out hb4
          clear OW
          have OW := OW'
          clear OW' cl hszl hfr hBr hb4
          go_wp2_with fail
          refine (hfar _).mono ?_
          rintro e w5 ⟨rfl, rfl⟩
          clear hfar
          cases n with
          | zero =>
            have hae : acc = [] := List.length_eq_zero_iff.1 HAL.out
            rw [if_neg (by rw [hae]; simp)] at hrec
            have HRN : Hid (rowsG goneK ((ts.map (·.data.toList)).drop (0 + 1)) (0 + 1) (acc ++ [x]) = R) := hrec
            clear hrec hae
            have e0 : ((0 : Nat) : Int) = 0 := rfl
            rw [e0] at hnl hi hi0' ⊢
            clear e0
            have hal5 : Below w5.heap.size w5 (w5.alloc (.cells #[.int .i64 x] 3)) := (Below.refl _ _).alloc (Nat.le_refl _) _
            have hb5 : Below w3.heap.size w3 (w5.alloc (.cells #[.int .i64 x] 3)) := hbW.alloc hbW.size _
            go_wp2_with (at_builtin; refine wpList_append_own _ rfl _ _ 50 rfl w3.heap.size 3 i0 (.int .i64 0) 1 8 Tryz.underlying50 hi0 hz0 hs0 hby0 rfl (by decide) _ 0 (acc.map (Value.int .i64)) rfl ?qd0 ⟨w5.heap.size, 0, none⟩ 1 1 [.int .i64 x] rfl ?qd1 ?qd2 ?qd3 ?qd4 ?qd5 ?qd6 ?_)
            case qd0 => exact own_below OW.out hal5
            case qd1 => rfl
            case qd2 => exact cell_one _ _ _
            case qd3 => exact ints_one [x]
            case qd4 => have := HTL.out; unfold maxLen; omega
            case qd5 => have := HTL.out; omega
            case qd6 => first | exact hb5.size | (have := hbW.size; omega)
            intro v6 w6 hown6 hgrow6 hnil6
            have hb6 : Below w3.heap.size w3 w6 := hb5.grown hgrow6 hb5.size (fun k hk => by
              rcases OW.out.2 with ⟨e, _⟩ | ⟨g', cap', cur, e, hg', _⟩
              · rw [e] at hk; simp [Value.ownBlock] at hk
              · rw [e] at hk; simp [Value.ownBlock] at hk; omega)
            have OW6 : Hid (w6.ownsRow w3.heap.size 3 1 v6 (0 + 1) (acc.map (Value.int .i64) ++ [.int .i64 x])) := hown6
            clear hown6 hnil6 hgrow6
            go_wp2
            go_roundw
            case rel => exact ⟨0 + 1, acc ++ [x], by omega, by go_num, by rw [List.length_append, HAL.out]; rfl, hb6, by rw [List.map_append]; exact OW6.out, HRN.out⟩
            case measure => simp [intOf] <;> omega
          | succ k =>
            have hkk : k < acc.length := by rw [HAL.out]; omega
            have hacn : acc ≠ [] := fun e => by rw [e] at hkk; simp at hkk
            have hlastE := last_is acc k 0 HAL.out hkk
            rw [hlastE] at hrec
            have hka := (keysAt_own (by rw [HAL.out]; exact OW.out) : KeysAt w5 u7 acc)
            obtain ⟨g, cp, rfl⟩ := own_next OW.out
            have p0 : w5.cell? ⟨g, k, none⟩ = some (.int .i64 acc[k]) := by
              rcases hka with ⟨_, _, e, e'⟩ | ⟨b', o', cap2, e, hcells⟩
              · exact absurd e' hacn
              · injection e with e1
                injection e1 with e1
                injection e1 with e1 e2
                subst e1 e2
                have := hcells k hkk
                simpa using this
            clear hka
            generalize acc[k] = y at p0 hrec
            have hk1 : (0 : Int) < (k : Int) + 1 := by omega
            have hk3 : (k : Int) < (k : Int) + 1 := by omega
            have hk4 : (0 : Int) ≤ (k : Int) := by omega
            have hk5 : IntKind.i64.wrap (k : Int) = (k : Int) := IntWalk.i64_in _ (by have := HTL.out; omega)
            clear hlastE hkk
            by_cases hxy : x ≤ y
            · rw [if_pos ⟨hacn, by simpa using hxy⟩] at hrec
              have HRE : Hid (R = ([], 9, k + 1)) := hrec.symm
              clear hrec
              have j0 := hfz.c0
              have j1 := hfz.c1
              have jz := hfz.fz
              go_wp2
              refine bodyPost_ret (v := .tuple #[.slice none 0 0, .agg #[.int .i64 9, .int .i64 ((k + 1 : Nat) : Int)]]) (by simp [results, Tryz.results54, go_sem, j0, j1]) rfl ⟨(hBz.setCell (by simp) _).setCell (by simp) _, Or.inr ⟨?_, ((k + 1 : Nat) : Int), ?_, ?_, ?_⟩⟩
              · rw [HD.out, HRE.out, endG, if_pos (by simp)]; simp
              · rw [HD.out, HRE.out, endG, if_pos (by simp)]; rfl
              · rw [HD.out, HRE.out, endG, if_pos (by simp)]; intro h; cases h
              · rw [HD.out, HRE.out, endG, if_pos (by simp)]; intro k h; injection h with h; rw [← h]
            · rw [if_neg (fun e => hxy (by simpa using e.2))] at hrec
              have HRN : Hid (rowsG goneK ((ts.map (·.data.toList)).drop (k + 1 + 1)) (k + 1 + 1) (acc ++ [x]) = R) := hrec
              clear hrec
              have hal5 : Below w5.heap.size w5 (w5.alloc (.cells #[.int .i64 x] 3)) := (Below.refl _ _).alloc (Nat.le_refl _) _
              have hb5 : Below w3.heap.size w3 (w5.alloc (.cells #[.int .i64 x] 3)) := hbW.alloc hbW.size _
              go_wp2_with (at_builtin; refine wpList_append_own _ rfl _ _ 50 rfl w3.heap.size 3 i0 (.int .i64 0) 1 8 Tryz.underlying50 hi0 hz0 hs0 hby0 rfl (by decide) _ (k + 1) (acc.map (Value.int .i64)) rfl ?qd0 ⟨w5.heap.size, 0, none⟩ 1 1 [.int .i64 x] rfl ?qd1 ?qd2 ?qd3 ?qd4 ?qd5 ?qd6 ?_)
              case qd0 => exact own_below OW.out hal5
              case qd1 => rfl
              case qd2 => exact cell_one _ _ _
              case qd3 => exact ints_one [x]
              case qd4 => have := HTL.out; unfold maxLen; omega
              case qd5 => have := HTL.out; omega
              case qd6 => first | exact hb5.size | (have := hbW.size; omega)
              intro v6 w6 hown6 hgrow6 hnil6
              have hb6 : Below w3.heap.size w3 w6 := hb5.grown hgrow6 hb5.size (fun k hk => by
                rcases OW.out.2 with ⟨e, _⟩ | ⟨g', cap', cur, e, hg', _⟩
                · rw [e] at hk; simp [Value.ownBlock] at hk
                · rw [e] at hk; simp [Value.ownBlock] at hk; omega)
              have OW6 : Hid (w6.ownsRow w3.heap.size 3 1 v6 ((k + 1) + 1) (acc.map (Value.int .i64) ++ [.int .i64 x])) := hown6
              clear hown6 hnil6 hgrow6
              go_wp2
              go_roundw
              case rel => exact ⟨(k + 1) + 1, acc ++ [x], by omega, by go_num, by rw [List.length_append, HAL.out]; rfl, hb6, by rw [List.map_append]; exact OW6.out, HRN.out⟩
              case measure => simp [intOf] <;> omega
end Go.Proofs.YtdhkdjlgmbejnaaGreatDoor
namespace Go.Proofs.YtdhkdjlgmbejnaaGreatDoor
open Go.RowKit Go.Extern.Stop Go.Stop Go.Extern Go.Sort Go.Shelf Go.Lib

def FKPost (w : World) (a : Nat → Addr) (D : List Int × Nat) (e : Ending) (w' : World) : Prop :=
  Below w.heap.size w w' ∧ ((D.2 = 0 ∧ ∃ v, e = .returned (.tuple #[v, .nilIface]) ∧ KeysAt w' v D.1) ∨
    (D.2 ≠ 0 ∧ ∃ ev, e = .returned (.tuple #[.slice none 0 0, ev]) ∧ (ev = errV a D.2 ∨ ∃ fb, ev = .iface 92 (.pointer (some ⟨fb, 0, none⟩)) ∧ w'.cell? ⟨fb, 1, none⟩ = some (errV a D.2))))

set_option maxRecDepth 100000 in
set_option maxHeartbeats 4000000 in
theorem fkeys_gone (s : ByteArray) (w : World) (a : Nat → Addr) (h : EnvD0 w a) (hs : s.size ≤ maxLen) :
    Calls Tryz.prog 120 #[.string (bytesOf (kindL true)), .string s] w fun e w' => FKPost w a (keysF true s.data.toList) e w' := by
  have hrd := gone_any s w a h hs
  have eK : keysF true s.data.toList = ((goneO s.data.toList).1, (goneO s.data.toList).2.1) := rfl
  rw [eK]
  generalize goneO s.data.toList = D at hrd ⊢
  have d1 := eqB_of (s := bytesOf (kindL true)) (l := [103, 111, 110, 101]) (by rw [bytes_data]; rfl)
  generalize bytesOf (kindL true) = kB at d1 ⊢
  clear eK
  go_enter Tryz.func120, Tryz.ntmps120
  go_wp2_with fail
  refine hrd.mono ?_
  rintro e w1 ⟨hb1, hres⟩
  clear hrd
  rcases hres with ⟨h0, v, rfl, hv, _⟩ | ⟨h0, h1, h2, rfl⟩ | ⟨h0, h1, at_, h2, fb, rfl, c0, c1⟩
  · have HV : Hid (KeysAt w1 v D.1) := hv
    clear hv
    go_wp2
    go_ret2
    exact ⟨hb1, Or.inl ⟨h0, v, rfl, HV.out⟩⟩
  · obtain ⟨E, hE⟩ : ∃ E, D.2.1 = E + 1 := ⟨D.2.1 - 1, by omega⟩
    have HE : Hid (D.2.1 = E + 1) := hE
    rw [hE]
    simp only [errV]
    clear hE
    go_wp2
    go_ret2
    exact ⟨hb1, Or.inr ⟨h0, _, rfl, Or.inl (by dsimp only; rw [HE.out]; rfl)⟩⟩
  · have C1 : Hid (w1.cell? ⟨fb, 1, none⟩ = some (errV a D.2.1)) := c1
    clear c0 c1
    go_wp2
    go_ret2
    exact ⟨hb1, Or.inr ⟨h0, _, rfl, Or.inr ⟨fb, rfl, C1.out⟩⟩⟩

theorem rd_le (l : List UInt8) : (readO l).2 ≤ 12 := by
  unfold readO
  split
  · split
    · split
      · exact Nat.zero_le _
      · dsimp only
        unfold rowE
        split
        · split <;> omega
        · omega
    · exact (by decide : (1 : Nat) ≤ 12)
  · exact (by decide : (1 : Nat) ≤ 12)

theorem keysR_len (xs : List Rw) : (keysR xs).length = xs.length := by simp [keysG]
theorem keysR_get (xs : List Rw) (j : Nat) (h : j < xs.length) (h' : j < (keysR xs).length) : (keysR xs)[j] = xs[j].2.1 := by simp [keysG, dataK]

set_option maxRecDepth 100000 in
set_option maxHeartbeats 8000000 in
theorem fkeys_data (s : ByteArray) (w : World) (a : Nat → Addr) (h : EnvD w a) (hs : s.size ≤ maxLen) :
    Calls Tryz.prog 120 #[.string (bytesOf (kindL false)), .string s] w fun e w' => FKPost w a (keysF false s.data.toList) e w' := by
  have hrd := data_any s w a h hs
  have hle := (readG_le dataK rd_le s.data.toList).2
  have eK : keysF false s.data.toList = (keysR (dataO s.data.toList).1, (dataO s.data.toList).2.1) := rfl
  have e0 : dataO s.data.toList = readG dataK s.data.toList := rfl
  rw [eK]
  rw [← e0] at hle
  generalize dataO s.data.toList = D at hrd hle ⊢
  have d1 := neB_of (s := bytesOf (kindL false)) (l := [103, 111, 110, 101]) (by rw [bytes_data]; decide)
  generalize bytesOf (kindL false) = kB at d1 ⊢
  clear eK e0
  go_enter Tryz.func120, Tryz.ntmps120
  go_wp2_with fail
  refine hrd.mono ?_
  rintro e w1 ⟨hb1, hres⟩
  clear hrd
  rcases hres with ⟨h0, v, rfl, hv⟩ | ⟨h0, h1, h2, rfl⟩ | ⟨h0, h1, at_, h2, fb, rfl, c0, c1⟩
  · obtain ⟨q, cap, rfl⟩ := hv.form
    obtain ⟨xs, d2⟩ := D
    dsimp only at h0 hv hle ⊢
    obtain ⟨L, hL⟩ : ∃ L, xs.length = L := ⟨_, rfl⟩
    have HV : Hid (RowsAt w1 (.slice q xs.length cap) xs) := hv
    have HX : Hid (xs.length = L) := hL
    have H0 : Hid (d2.1 = 0) := h0
    rw [hL] at hle ⊢
    clear hv hL h0
    have hmk := fun W => run_make_row' (P := Tryz.prog) 50 3 (.int .i64 0) 8 Tryz.underlying50 Tryz.numsInfo rfl .i64 .i64 L (by omega) (by omega) W
    have hal : Below w1.heap.size w1 (w1.alloc (.cells (madeCells #[.int .i64 0] L) 3)) := (Below.refl _ _).alloc (Nat.le_refl _) _
    have hblk := heap_alloc_new w1 (.cells (madeCells #[.int .i64 0] L) 3)
    have MD : Hid (∀ j, j < L → (madeCells #[.int .i64 0] L)[j]? = some (.int .i64 0)) := fun j hj => made_get _ _ _ hj
    go_wp2
    go_loopw [30] (fun k wr => ∃ (n : Nat) (arr : Array Value), n ≤ L ∧ k = .int .i64 n ∧ Below w1.heap.size w1 wr ∧ wr.heap[w1.heap.size]? = some (.cells arr 3 (0, 0)) ∧ (∀ j, j < L → ∃ u, arr[j]? = some u) ∧ ∀ j (h : j < xs.length), j < n → arr[j]? = some (.int .i64 xs[j].2.1)) (fun k _ => L - (intOf k).toNat)
    case atStart => exact ⟨0, _, by omega, rfl, hal, hblk, fun j hj => ⟨_, MD.out j hj⟩, fun j h h' => absurd h' (Nat.not_lt_zero _)⟩
    case round =>
      clear hal hblk hmk
      obtain ⟨n, arr, hn, rfl, hb, hbk, har, hgo⟩ := hrel
      have HB : Hid (wr.heap[w1.heap.size]? = some (.cells arr 3 (0, 0))) := hbk
      have HAR : Hid (∀ j, j < L → ∃ u, arr[j]? = some u) := har
      have HGO : Hid (∀ j (h : j < xs.length), j < n → arr[j]? = some (.int .i64 xs[j].2.1)) := hgo
      clear hbk har hgo
      by_cases hlt : n < L
      · have hltx : n < xs.length := by rw [HX.out]; exact hlt
        have hi : (n : Int) < (L : Int) := by omega
        have hi0 : (0 : Int) ≤ (n : Int) := by omega
        have hvv := HV.out
        rcases hvv with ⟨p, c, e, rfl⟩ | ⟨b, o, cp, e, hc⟩
        · simp at hltx
        · simp only [Value.slice.injEq] at e
          obtain ⟨rfl, _, rfl⟩ := e
          obtain ⟨c0, c1, c2⟩ := hc n hltx
          have c0' := below_keep hb c0
          have c1' := below_keep hb c1
          have c2' := below_keep hb c2
          have HXN : Hid (∃ x, xs[n] = x) := ⟨_, rfl⟩
          generalize hxn : xs[n] = x at c0' c1' c2'
          have HXE : Hid (xs[n] = x) := hxn
          clear hxn c0 c1 c2 hc HXN
          obtain ⟨xp, xk, xv⟩ := x
          dsimp only at c0' c1' c2'
          have hba : Below wr.heap.size wr (wr.alloc (.cells #[.string xp, .int .i64 xk, .int .i64 xv] 54)) := (Below.refl _ _).alloc (Nat.le_refl _) _
          have hbA : Below w1.heap.size w1 (wr.alloc (.cells #[.string xp, .int .i64 xk, .int .i64 xv] 54)) := hb.trans (hba.mono hb.size)
          have hbk3 : (wr.alloc (.cells #[.string xp, .int .i64 xk, .int .i64 xv] 54)).heap[w1.heap.size]? = some (.cells arr 3 (0, 0)) := (hba.block _ (lt_of_block HB.out)).trans HB.out
          obtain ⟨u, hu⟩ := HAR.out n hlt
          have hcu : (wr.alloc (.cells #[.string xp, .int .i64 xk, .int .i64 xv] 54)).cell? ⟨w1.heap.size, n, none⟩ = some u := by rw [cell_of_row _ _ _ _ _ _ hbk3]; exact hu
          have hfz : (wr.alloc (.cells #[.string xp, .int .i64 xk, .int .i64 xv] 54)).frozen? ⟨w1.heap.size, n, none⟩ = false := frozen_of_row _ _ _ _ _ hbk3
          have HSET : Hid (((wr.alloc (.cells #[.string xp, .int .i64 xk, .int .i64 xv] 54)).setCell ⟨w1.heap.size, n, none⟩ (.int .i64 xk)).heap[w1.heap.size]? = some (.cells (arr.setIfInBounds n (.int .i64 xk)) 3 (0, 0))) := heap_setCell_same _ w1.heap.size n arr 3 (.int .i64 xk) hbk3
          have HN : Hid (n < arr.size) := by
            show n < arr.size
            rcases Nat.lt_or_ge n arr.size with h' | h'
            · exact h'
            · rw [Array.getElem?_eq_none h'] at hu; cases hu
          have hB4 : Below w1.heap.size w1 ((wr.alloc (.cells #[.string xp, .int .i64 xk, .int .i64 xv] 54)).setCell ⟨w1.heap.size, n, none⟩ (.int .i64 xk)) := hbA.setCell (Nat.le_refl _) _
          have hm3 : ((n : Int) * 3).toNat = n * 3 := by omega
          clear hbk3 hu hba
          go_wp2
          go_roundw
          case rel =>
            refine ⟨n + 1, _, by omega, by go_num, hB4, HSET.out, fun j hj => ?_, fun j hj hjn => ?_⟩
            · rw [Array.getElem?_setIfInBounds]
              split
              · rw [if_pos HN.out]; exact ⟨_, rfl⟩
              · exact HAR.out j hj
            · rw [Array.getElem?_setIfInBounds]
              split
              · rename_i e
                subst e
                rw [if_pos HN.out, HXE.out]
              · rename_i e
                exact HGO.out j hj (by omega)
          case measure => simp [intOf]; omega
      · obtain rfl : n = L := by omega
        go_wp2
        go_ret2
        refine ⟨hb1.trans (hb.mono hb1.size), Or.inl ⟨H0.out, _, rfl, Or.inr ⟨w1.heap.size, 0, n, by rw [keysR_len, HX.out]; rfl, fun j hj => ?_⟩⟩⟩
        have hj' : j < xs.length := by rw [keysR_len] at hj; exact hj
        rw [Nat.zero_add, cell_of_row _ _ _ _ _ _ HB.out, HGO.out j hj' (by rw [← HX.out]; exact hj'), keysR_get _ _ hj' hj]
  · obtain ⟨E, hE⟩ : ∃ E, D.2.1 = E + 1 := ⟨D.2.1 - 1, by omega⟩
    have HE : Hid (D.2.1 = E + 1) := hE
    rw [hE]
    simp only [errV]
    clear hE
    go_wp2
    go_ret2
    exact ⟨hb1, Or.inr ⟨h0, _, rfl, Or.inl (by dsimp only; rw [HE.out]; rfl)⟩⟩
  · have C1 : Hid (w1.cell? ⟨fb, 1, none⟩ = some (errV a D.2.1)) := c1
    clear c0 c1
    go_wp2
    go_ret2
    exact ⟨hb1, Or.inr ⟨h0, _, rfl, Or.inr ⟨fb, rfl, C1.out⟩⟩⟩

theorem bare_err (n : Nat) (w : World) (a : Nat → Addr) (h : Hand w) :
    Calls Tryz.prog 121 #[errV a (n + 1)] w fun e w' => e = .returned (errV a (n + 1)) ∧ Below w.heap.size w w' := by
  have hb0 : Below w.heap.size w (w.alloc (.cells #[.pointer none] 92)) := (Below.refl _ _).alloc (Nat.le_refl _) _
  have hm := as_miss_below (a n) ⟨w.heap.size, 0, none⟩ _ (h.below hb0)
  simp only [errV]
  go_enter Tryz.func121, Tryz.ntmps121
  go_wp2_with fail
  refine hm.mono ?_
  rintro e w1 ⟨rfl, hb1⟩
  clear hm
  have hB1 : Below w.heap.size w w1 := hb0.trans (hb1.mono hb0.size)
  go_wp2
  go_ret
  exact ⟨rfl, hB1⟩

theorem bare_fault (fb : Nat) (n : Nat) (w : World) (a : Nat → Addr) (h : Hand w) (hc : w.cell? ⟨fb, 1, none⟩ = some (errV a (n + 1))) :
    Calls Tryz.prog 121 #[.iface 92 (.pointer (some ⟨fb, 0, none⟩))] w fun e w' => e = .returned (errV a (n + 1)) ∧ Below w.heap.size w w' := by
  have hm := as_hit_below ⟨fb, 0, none⟩ w h
  simp only [errV] at hc ⊢
  go_enter Tryz.func121, Tryz.ntmps121
  go_wp2_with fail
  refine hm.mono ?_
  rintro e w1 ⟨rfl, hb1, ht⟩
  clear hm
  have hc1 := below_keep hb1 hc
  go_wp2
  go_ret
  exact ⟨rfl, hb1⟩
end Go.Proofs.YtdhkdjlgmbejnaaGreatDoor
