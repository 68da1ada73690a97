/-
  The contracts of the document's own IDsFault, IDsText and ReadIDs.
-/
import Derived.Test.YtniipgaacdpncaaGreatDoorMetaPure
import Derived.Test.YtniipgaacdpncaaGreatDoorRefLines
import Derived.Test.YtniipgaacdpncaaGreatDoorRefData
import Derived.Test.YtniipgaacdpncaaGreatDoorRefNums
import Derived.Test.YtniipgaacdpncaaGreatDoorRefList3
namespace Go.Proofs.YtniipgaacdpncaaGreatDoor
open Go.RowKit Go.Extern.Stop Go.Stop Go.Extern Go.Sort Go.Shelf Go.Lib

theorem KeysAt.shape {w : World} {v : Value} {zs : List Int} (h : KeysAt w v zs) : ∃ q c, v = .slice q zs.length c := by
  rcases h with ⟨p, c, rfl, rfl⟩ | ⟨b, o, cap, rfl, _⟩
  · exact ⟨p, c, rfl⟩
  · exact ⟨_, cap, rfl⟩
theorem KeysAt.at {w : World} {q : Option Addr} {n c : Nat} {zs : List Int} (h : KeysAt w (.slice q n c) zs) (hne : zs ≠ []) : ∃ b o, q = some ⟨b, o, none⟩ ∧ ∀ j (h : j < zs.length), w.cell? ⟨b, o + j, none⟩ = some (.int .i64 zs[j]) := by
  rcases h with ⟨p, c', _, e⟩ | ⟨b, o, cap, e, hc⟩
  · exact absurd e hne
  · injection e with e1
    exact ⟨b, o, e1, hc⟩

theorem ahead_at {zs : List Int} {n : Nat} (hn : n + 1 < zs.length) : aheadZ zs (n + 1) = zs[n]'(by omega) := by
  simp [aheadZ, List.getD, Nat.lt_of_succ_lt hn]

set_option maxRecDepth 100000 in
set_option maxHeartbeats 8000000 in
theorem idsFault_any (v : Value) (zs : List Int) (w : World) (hz : KeysAt w v zs) (hl : zs.length ≤ 100000) :
    Calls Tryz.prog 5 #[v] w fun e w' => e = .returned (.agg #[.int .i64 (idsE zs).1, .int .i64 (atZ (idsE zs).2)]) ∧ Below w.heap.size w w' := by
  obtain ⟨q, cap, rfl⟩ := hz.shape
  have HZ : Hid (KeysAt w (.slice q zs.length cap) zs) := hz
  obtain ⟨L, hL⟩ : ∃ L, zs.length = L := ⟨_, rfl⟩
  have HX : Hid (zs.length = L) := hL
  rw [hL] at hl ⊢
  generalize hR : idsE zs = R
  have HR : Hid (idsE zs = R) := hR
  clear hL hz hR
  have hal : Below w.heap.size w (w.alloc (.cells #[.int .i64 0, .int .i64 0] 25)) := (Below.refl _ _).alloc (Nat.le_refl _) _
  have hfc : FC (w.alloc (.cells #[.int .i64 0, .int .i64 0] 25)) w.heap.size 0 0 := heap_alloc_new _ _
  have hle : w.heap.size ≤ w.heap.size := Nat.le_refl _
  by_cases h0 : L = 0
  · have hRR : R = (6, none) := by rw [← HR.out]; unfold idsE; rw [if_pos (List.length_eq_zero_iff.1 (by rw [HX.out]; exact h0))]
    subst hRR
    subst h0
    go_enter Tryz.func5, Tryz.ntmps5
    go_upto_region 1 with fail
    generalize w.alloc (.cells #[.int .i64 0, .int .i64 0] 25) = WA at hal hfc ⊢
    have hbr := bare_of 6 WA
    go_wp2_with fail
    refine hbr.mono ?_
    rintro e w1 ⟨rfl, hb1⟩
    clear hbr
    have hf1 := hfc.below hb1
    have hB1 : Below w.heap.size w w1 := hal.trans (hb1.mono hal.size)
    have j0 := hf1.c0
    have j1 := hf1.c1
    have jz := hf1.fz
    clear hfc hal hb1
    go_wp2
    refine bodyPost_ret (v := .agg #[.int .i64 6, .int .i64 (-1)]) (by simp [results, Tryz.results5, go_sem, j0, j1]) rfl ⟨rfl, ?_⟩
    exact (hB1.setCell hle _).setCell hle _
  have hne : zs ≠ [] := fun e => h0 (by rw [← HX.out, e]; rfl)
  have hb0 : ¬ (L : Int) = 0 := by omega
  by_cases h40 : 40 < L
  · have hRR : R = (8, none) := by rw [← HR.out]; unfold idsE; rw [if_neg hne, if_pos (by rw [HX.out]; exact h40)]
    subst hRR
    have hi : (40 : Int) < (L : Int) := by omega
    clear hne
    go_enter Tryz.func5, Tryz.ntmps5
    go_upto_region 1 with fail
    generalize w.alloc (.cells #[.int .i64 0, .int .i64 0] 25) = WA at hal hfc ⊢
    have hbr := bare_of 8 WA
    go_wp2_with fail
    refine hbr.mono ?_
    rintro e w1 ⟨rfl, hb1⟩
    clear hbr
    have hf1 := hfc.below hb1
    have hB1 : Below w.heap.size w w1 := hal.trans (hb1.mono hal.size)
    have j0 := hf1.c0
    have j1 := hf1.c1
    have jz := hf1.fz
    clear hfc hal hb1
    go_wp2
    refine bodyPost_ret (v := .agg #[.int .i64 8, .int .i64 (-1)]) (by simp [results, Tryz.results5, go_sem, j0, j1]) rfl ⟨rfl, ?_⟩
    exact (hB1.setCell hle _).setCell hle _
  have HRR : Hid (R = idsG 0 zs 0) := by
    show _ = _
    rw [← HR.out]; unfold idsE; rw [if_neg hne, if_neg (by rw [HX.out]; exact h40)]
  have hi : ¬ (40 : Int) < (L : Int) := by omega
  obtain ⟨b, o, hq, hcell⟩ := HZ.out.at hne
  subst hq
  have HC : Hid (∀ j (h : j < zs.length), w.cell? ⟨b, o + j, none⟩ = some (.int .i64 zs[j])) := hcell
  clear HR hcell hne
  go_enter Tryz.func5, Tryz.ntmps5
  go_upto_region 1 with fail
  generalize w.alloc (.cells #[.int .i64 0, .int .i64 0] 25) = WA at hal hfc ⊢
  go_wp2
  go_loopw [3] (fun k wr => ∃ n : Nat, n ≤ L ∧ k = .int .i64 n ∧ IdLeft zs n ∧ Below w.heap.size w wr ∧ FC wr w.heap.size 0 0) (fun k _ => L - (intOf k).toNat)
  case atStart => exact ⟨0, by omega, rfl, idL_zero zs, hal, hfc⟩
  case round =>
    clear hal hfc
    obtain ⟨n, hn, rfl, hil, hb, hfc⟩ := hrel
    have HIL : Hid (IdLeft zs n) := hil
    have HFC : Hid (FC wr w.heap.size 0 0) := hfc
    clear hil
    by_cases hlt : n < L
    · have hltx : n < zs.length := by rw [HX.out]; exact hlt
      have c1 := below_keep hb (HC.out n hltx)
      have hbo := fun e => idL_bound HIL.out hltx e
      have hor := fun e o => idL_order HIL.out hltx e o
      have hnx := fun e o => idL_succ HIL.out hltx e o
      have hib := @idB_iff zs[n]
      have hah : n ≠ 0 → ∃ y, aheadZ zs n = y ∧ wr.cell? ⟨b, o + (n - 1), none⟩ = some (.int .i64 y) := fun h => by
        obtain ⟨m, rfl⟩ : ∃ m, n = m + 1 := ⟨n - 1, by omega⟩
        exact ⟨_, ahead_at hltx, by simpa using below_keep hb (HC.out m (by omega))⟩
      have ha0 : n = 0 → aheadZ zs n = 0 := fun h => by subst h; rfl
      generalize zs[n] = z at c1 hbo hor hnx hib
      generalize aheadZ zs n = y at hor hnx hah ha0
      have hiL : (n : Int) < (L : Int) := by omega
      have hi0' : (0 : Int) ≤ (n : Int) := by omega
      have j0 := hfc.c0
      have j1 := hfc.c1
      have jz := hfc.fz
      clear hltx hfc
      cases hzb : idB z
      case false =>
        have HRE : Hid (R = (2, some n)) := by show _ = _; rw [HRR.out]; exact hbo hzb
        have hnb : z < 1 ∨ (¬ z < 1 ∧ 1073741824 < z) := by
          rcases Int.lt_or_le z 1 with h | h
          · exact Or.inl h
          · rcases Int.lt_or_le 1073741824 z with h' | h'
            · exact Or.inr ⟨by omega, h'⟩
            · rw [hib.2 ⟨h, h'⟩] at hzb; cases hzb
        clear hbo hor hnx hib hah ha0 hzb
        rcases hnb with h1 | ⟨h1, h2⟩
        · go_wp2
          refine bodyPost_ret (v := .agg #[.int .i64 2, .int .i64 n]) (by simp [results, Tryz.results5, go_sem, j0, j1]) rfl ⟨?_, ?_⟩
          · rw [HRE.out]; rfl
          · exact (hb.setCell hle _).setCell hle _
        · go_wp2
          refine bodyPost_ret (v := .agg #[.int .i64 2, .int .i64 n]) (by simp [results, Tryz.results5, go_sem, j0, j1]) rfl ⟨?_, ?_⟩
          · rw [HRE.out]; rfl
          · exact (hb.setCell hle _).setCell hle _
      case true =>
      obtain ⟨h1, h2⟩ := hib.1 hzb
      replace hor := hor hzb
      replace hnx := hnx hzb
      have h1' : ¬ z < 1 := by omega
      have h2' : ¬ (1073741824 : Int) < z := by omega
      clear hbo hib hzb
      by_cases hn0 : n = 0
      · have HNX : Hid (IdLeft zs (n + 1)) := hnx (by rw [ha0 hn0]; omega)
        clear hor hnx hah ha0
        subst hn0
        rw [Nat.add_zero] at c1
        go_wp2
        go_roundw
        case rel => exact ⟨1, by omega, by first | rfl | go_num, HNX.out, hb, HFC.out⟩
        case measure => simp [intOf]; omega
      · obtain ⟨y', hy, c2⟩ := hah hn0
        subst hy
        have hp : (0 : Int) < (n : Int) := by omega
        have hw : IntKind.i64.wrap ((n : Int) - 1) = ((n - 1 : Nat) : Int) := by rw [IntWalk.i64_in _ (by omega)]; omega
        have hi1 : ((n - 1 : Nat) : Int) < (L : Int) := by omega
        have hi2 : (0 : Int) ≤ ((n - 1 : Nat) : Int) := by omega
        generalize n - 1 = m at c2 hw hi1 hi2
        clear hah ha0
        go_wp2_with fail
        go_quiet (fail)
        have hbq : Below wr.heap.size wr (wr.drewN nq) := below_drewN (Below.refl _ _) nq
        have hBd : Below w.heap.size w (wr.drewN nq) := below_drewN hb nq
        have hfd := HFC.out.below hbq
        have HFD : Hid (FC (wr.drewN nq) w.heap.size 0 0) := hfd
        clear hbq c1 c2 j0 j1 jz hb
        generalize wr.drewN nq = W5 at hBd hfd HFD ⊢
        have j0 := hfd.c0
        have j1 := hfd.c1
        have jz := hfd.fz
        clear hfd
        by_cases ho : z ≤ y
        · have HRE : Hid (R = (9, some n)) := by show _ = _; rw [HRR.out]; exact hor ho
          clear hor hnx
          go_wp2
          refine bodyPost_ret (v := .agg #[.int .i64 9, .int .i64 n]) (by simp [results, Tryz.results5, go_sem, j0, j1]) rfl ⟨?_, ?_⟩
          · rw [HRE.out]; rfl
          · exact (hBd.setCell hle _).setCell hle _
        · have HNX : Hid (IdLeft zs (n + 1)) := hnx (by omega)
          clear hor hnx
          go_wp2
          go_roundw
          case rel => exact ⟨n + 1, by omega, by go_num, HNX.out, hBd, HFD.out⟩
          case measure => simp [intOf]; omega
    · obtain rfl : n = L := by omega
      have HRE : Hid (R = (0, none)) := by
        show _ = _
        rw [HRR.out]
        have h' := HIL.out
        rw [← HX.out] at h'
        exact idL_all h'
      have hfi := fine_of wr
      go_wp2_with fail
      refine hfi.mono ?_
      rintro e w1 ⟨rfl, hb1⟩
      clear hfi
      have hf1 := HFC.out.below hb1
      have hB1 : Below w.heap.size w w1 := hb.trans (hb1.mono hb.size)
      have j0 := hf1.c0
      have j1 := hf1.c1
      have jz := hf1.fz
      clear hfc hb1 hf1
      go_wp2
      refine bodyPost_ret (v := .agg #[.int .i64 0, .int .i64 (-1)]) (by simp [results, Tryz.results5, go_sem, j0, j1]) rfl ⟨?_, ?_⟩
      · rw [HRE.out]; rfl
      · exact (hB1.setCell hle _).setCell hle _

set_option maxRecDepth 100000 in
set_option maxHeartbeats 4000000 in
theorem idsText_any (v : Value) (zs : List Int) (w : World) (hz : KeysAt w v zs) (hok : (idsE zs).1 = 0) :
    Calls Tryz.prog 10 #[v] w fun e w' => e = .returned (.string (bytesOf (idsL zs))) ∧ Below w.heap.size w w' := by
  obtain ⟨hne, h40, hid, _⟩ := ids_good.1 hok
  have HID : Hid (∀ z ∈ zs, idB z = true) := hid
  obtain ⟨q, cap, rfl⟩ := hz.shape
  obtain ⟨b, o, hq, hcell⟩ := hz.at hne
  subst hq
  have HC : Hid (∀ j (h : j < zs.length), w.cell? ⟨b, o + j, none⟩ = some (.int .i64 zs[j])) := hcell
  have hT : bytesOf (idsL zs) = bytesOf (kMeta ++ idsT zs) ++ ⟨#[10]⟩ := by
    rw [← bytesOf_data (bytesOf (kMeta ++ idsT zs) ++ ⟨#[10]⟩)]
    congr 1 <;> simp [idsL, bytesOf, ByteArray.data_append]
  rw [hT]
  have HLN : Hid (∀ n, (bytesOf (kMeta ++ idsT (zs.take n))).size ≤ 500) := fun n => by
    rw [bytes_len]
    have h1 := idsT_len (zs.take n) (fun z hz => hid z (List.mem_of_mem_take hz))
    have h2 : (zs.take n).length ≤ 40 := by rw [List.length_take]; omega
    rw [List.length_append]
    have : kMeta.length = 4 := rfl
    omega
  have HST : Hid (∀ n (h : n < zs.length), bytesOf (kMeta ++ idsT (zs.take n)) ++ ⟨#[32]⟩ ++ bytesOf (itoa zs[n]) = bytesOf (kMeta ++ idsT (zs.take (n + 1)))) := fun n h => by
    rw [← bytesOf_data (bytesOf (kMeta ++ idsT (zs.take n)) ++ ⟨#[32]⟩ ++ bytesOf (itoa zs[n]))]
    congr 1
    rw [idsT_take h]
    simp [bytesOf, ByteArray.data_append]
  obtain ⟨L, hL⟩ : ∃ L, zs.length = L := ⟨_, rfl⟩
  have HX : Hid (zs.length = L) := hL
  rw [hL] at h40 ⊢
  clear hL hz hcell hid hok hne hT
  go_enter Tryz.func10, Tryz.ntmps10
  go_wp2
  go_loopw [3, 4] (fun s k wr => ∃ n : Nat, n ≤ L ∧ k = .int .i64 n ∧ s = .string (bytesOf (kMeta ++ idsT (zs.take n))) ∧ Below w.heap.size w wr) (fun _ k _ => L - (intOf k).toNat)
  case atStart => exact ⟨0, by omega, rfl, by simp [idsT, kMeta, bytesOf], Below.refl _ _⟩
  case round =>
    obtain ⟨n, hn, rfl, rfl, hb⟩ := hrel
    by_cases hlt : n < L
    · have hltx : n < zs.length := by rw [HX.out]; exact hlt
      have c1 := below_keep hb (HC.out n hltx)
      have hst := HST.out n hltx
      have h1 := HLN.out n
      have h2 := HLN.out (n + 1)
      obtain ⟨k1, k2⟩ := idB_iff.1 (HID.out zs[n] (List.getElem_mem _))
      have hde := decimal_any zs[n] wr (by omega) (by omega)
      rw [← hst] at h2
      have HS2 : Hid (bytesOf (kMeta ++ idsT (zs.take n)) ++ ⟨#[32]⟩ ++ bytesOf (itoa zs[n]) = bytesOf (kMeta ++ idsT (zs.take (n + 1)))) := hst
      generalize bytesOf (kMeta ++ idsT (zs.take n)) = sb at h1 h2 HS2 ⊢
      generalize bytesOf (itoa zs[n]) = ib at h2 hde HS2
      generalize zs[n] = z at c1 hde k1 k2
      rw [ByteArray.size_append, ByteArray.size_append] at h2
      have e1 : (⟨#[32]⟩ : ByteArray).size = 1 := rfl
      rw [e1] at h2
      have n0 : ¬ 9223372036854775807 < sb.size + 1 := by omega
      have n1 : ¬ 9223372036854775806 < sb.size := by omega
      have n2 : ¬ 9223372036854775807 < sb.size + 1 + ib.size := by omega
      have hiL : (n : Int) < (L : Int) := by omega
      have hi0' : (0 : Int) ≤ (n : Int) := by omega
      clear hltx hst e1 h1 h2
      go_wp2_with fail
      refine hde.mono ?_
      rintro e w1 ⟨rfl, hg1⟩
      clear hde
      have hb1 : Below wr.heap.size wr w1 := by
        obtain ⟨k, os, rfl⟩ := hg1
        exact grow_below k os
      have hB1 : Below w.heap.size w w1 := hb.trans (hb1.mono hb.size)
      clear hg1 hb1
      go_wp2
      go_roundw
      case rel => exact ⟨n + 1, by omega, by go_num, by rw [HS2.out], hB1⟩
      case measure => simp [intOf]; omega
    · obtain rfl : n = L := by omega
      have hta : zs.take n = zs := List.take_of_length_le (by rw [HX.out]; exact Nat.le_refl _)
      have h1 := HLN.out n
      rw [hta] at h1 ⊢
      generalize hsb : bytesOf (kMeta ++ idsT zs) = sb at h1 ⊢
      have HSB : Hid (bytesOf (kMeta ++ idsT zs) = sb) := hsb
      clear hsb
      have n0 : ¬ 9223372036854775807 < sb.size + 1 := by omega
      have n1 : ¬ 9223372036854775806 < sb.size := by omega
      clear hta
      go_wp2
      go_ret
      refine ⟨?_, hb⟩
      rw [HSB.out]
      rfl
end Go.Proofs.YtniipgaacdpncaaGreatDoor
