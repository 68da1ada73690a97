/-
  The contract of the document's own ReadList.
-/
import Derived.Test.YtpkoefpdpoikkaaGreatDoorRefReadData
import Derived.Test.YtpkoefpdpoikkaaGreatDoorRefFileRd
namespace Go.Proofs.YtpkoefpdpoikkaaGreatDoor
open Go.RowKit Go.Extern.Stop Go.Stop Go.Extern Go.Sort Go.Shelf Go.Lib

def manyL (ps : List (List UInt8)) : Nat := if ps.getLastD [] = [] then ps.length - 1 else ps.length

theorem readL_def (s : List UInt8) : readL s = if 60 < manyL (pieces 10 s) then ([], 8, none) else
  if (rowsG fileK (pieces 10 s) 0 []).2.1 ≠ 0 then ([], (rowsG fileK (pieces 10 s) 0 []).2.1, some (rowsG fileK (pieces 10 s) 0 []).2.2) else ((rowsG fileK (pieces 10 s) 0 []).1, 0, none) := rfl

theorem rowsF_one (l : List UInt8) (n : Nat) (acc : List Fl) : rowsG fileK [l] n acc = if l = [] then (acc, 0, 0) else ([], 1, n) := rfl
theorem rowsF_cons (l l2 : List UInt8) (r : List (List UInt8)) (n : Nat) (acc : List Fl) : rowsG fileK (l :: l2 :: r) n acc = if (readF l).2 ≠ 0 then ([], (readF l).2, n) else
    if acc ≠ [] ∧ decide (fk (readF l).1 ≤ fk (acc.getLastD zeroF)) = true then ([], 9, n) else rowsG fileK (l2 :: r) (n + 1) (acc ++ [(readF l).1]) := rfl

theorem readF_ok (l : List UInt8) (h : (readF l).2 = 0) : fileE (readF l).1 = 0 := by
  unfold readF at h ⊢
  split at h
  · split at h
    · rename_i n lo hi seq _ _ _ _
      unfold chkF at h ⊢
      split at h
      · rename_i he
        simp only [he, if_true]
      · rename_i he
        exact absurd h he
    · cases h
  · cases h

theorem ok_size {f : Fl} (h : fileE f = 0) : f.1.size ≤ 16 := by
  obtain ⟨g, n, hp, _⟩ := file_good h
  obtain ⟨e, _, hc⟩ := path_some hp
  simp only [cntB, Bool.and_eq_true, decide_eq_true_eq] at hc
  have h1 := itoa_len11 n (by omega) (by omega)
  have h2 : (kindL g).length = 4 := by cases g <;> rfl
  have h3 := congrArg List.length e
  rw [List.length_append, List.length_cons, h2, size_list] at h3
  omega

set_option maxRecDepth 100000 in
set_option maxHeartbeats 16000000 in
theorem readList_any (s : ByteArray) (w : World) (hs : s.size ≤ 100000) :
    Calls Tryz.prog 39 #[.string s] w fun e w' => ∃ v', e = .returned (.tuple #[v', .agg #[.int .i64 (readL s.data.toList).2.1, .int .i64 (atZ (readL s.data.toList).2.2)]]) ∧ FlsAt w' v' (readL s.data.toList).1 ∧ Below w.heap.size w w' := by
  obtain ⟨i0, hi0, hz0, hs0, hby0⟩ := Tryz.fileInfo
  obtain ⟨R, hR⟩ : ∃ R, rowsG fileK (pieces 10 s.data.toList) 0 [] = R := ⟨_, rfl⟩
  have hrl := readL_def s.data.toList
  rw [hR] at hrl
  obtain ⟨D, hD⟩ : ∃ D, readL s.data.toList = D := ⟨_, rfl⟩
  rw [hD] at hrl ⊢
  have HD0 : Hid (D = if 60 < manyL (pieces 10 s.data.toList) then ([], 8, none) else if R.2.1 ≠ 0 then ([], R.2.1, some R.2.2) else (R.1, 0, none)) := hrl
  have HR0 : Hid (rowsG fileK (pieces 10 s.data.toList) 0 [] = R) := hR
  clear hrl hD hR
  have hf0 := FC.new w
  have hal : Below w.heap.size w (w.alloc (.cells #[.int .i64 0, .int .i64 0] 64)) := (Below.refl _ _).alloc (Nat.le_refl _) _
  have hcu := cutBy_any 10 s (w.alloc (.cells #[.int .i64 0, .int .i64 0] 64)) (by omega)
  go_enter Tryz.func39, Tryz.ntmps39
  go_wp2_with fail
  generalize w.alloc (.cells #[.int .i64 0, .int .i64 0] 64) = WA at hf0 hal hcu ⊢
  refine hcu.mono ?_
  rintro e w2 ⟨v2, ts, rfl, hts, htm, hb2⟩
  clear hcu
  have hf2 := hf0.below hb2
  have hB2 : Below w.heap.size w w2 := hal.trans (hb2.mono hal.size)
  clear hf0 hal hb2
  have hF1 := hf2.lt
  have HTM : Hid (ts.map (·.data.toList) = pieces 10 s.data.toList) := htm
  have hpl := pieces_count 10 s.data.toList
  have hcl := List.count_le_length (a := (10 : UInt8)) (l := s.data.toList)
  have hsl : s.data.toList.length = s.size := by rw [size_list]
  have htl : ts.length = (pieces 10 s.data.toList).length := by have := congrArg List.length htm; simpa using this
  obtain ⟨M, hM⟩ : ∃ M, ts.length = M + 1 := ⟨ts.length - 1, by omega⟩
  have hMb : M ≤ 100000 := by omega
  have HSZ : Hid (∀ t ∈ ts, t.size ≤ 100000) := fun t ht => by
    have h1 : t.data.toList ∈ pieces 10 s.data.toList := by rw [← htm]; exact List.mem_map_of_mem ht
    have h2 := pieces_len 10 s.data.toList _ h1
    rw [size_list] at h2
    omega
  have HR : Hid (rowsG fileK (ts.map (·.data.toList)) 0 [] = R) := by show _ = _; rw [htm]; exact HR0.out
  have hMx : M < ts.length := by omega
  obtain ⟨MM, hMM⟩ : ∃ k, manyL (pieces 10 s.data.toList) = k := ⟨_, rfl⟩
  have hlastD : (pieces 10 s.data.toList).getLastD [] = ts[M].data.toList := by
    rw [← htm, last_is _ M [] (by rw [List.length_map]; exact hM) (by rw [List.length_map]; exact hMx)]
    simp
  have hMMv : MM = if ts[M].data.toList = [] then M else M + 1 := by
    rw [← hMM]; unfold manyL; rw [hlastD, ← htl, hM]; rfl
  have HD : Hid (D = if 60 < MM then ([], 8, none) else if R.2.1 ≠ 0 then ([], R.2.1, some R.2.2) else (R.1, 0, none)) := by
    show _ = _
    rw [HD0.out, hMM]
  clear HD0 HR0 htm HTM hpl hcl hsl htl hlastD hMM
  obtain ⟨tb, tcap, rfl, htcap, htc⟩ := hts
  have HTC : Hid (∀ j (h : j < ts.length), w2.cell? ⟨tb, j, none⟩ = some (.string ts[j])) := htc
  have HX : Hid (ts.length = M + 1) := hM
  rw [hM] at htcap ⊢
  have cM := htc M hMx
  have HLT : Hid (MM = if ts[M].data.toList = [] then M else M + 1) := hMMv
  clear htc hM hMMv
  have hMM1 : M ≤ MM ∧ MM ≤ M + 1 := by rw [HLT.out]; split <;> omega
  have hM5 : IntKind.i64.wrap (M : Int) = (M : Int) := IntWalk.i64_in _ (by omega)
  have hM6 : (M : Int) < (M : Int) + 1 := by omega
  have hM7 : (0 : Int) ≤ (M : Int) := by omega
  have HTE : Hid (ts[M].data.toList = [] ∧ MM = M ∨ ts[M].data.toList ≠ [] ∧ MM = M + 1) := by
    show _ ∨ _
    by_cases h : ts[M].data.toList = []
    · exact Or.inl ⟨h, by rw [HLT.out, if_pos h]⟩
    · exact Or.inr ⟨h, by rw [HLT.out, if_neg h]⟩
  have HTE2 : Hid (∀ t, t = ts[M] → t.data.toList = [] ∧ MM = M ∨ t.data.toList ≠ [] ∧ MM = M + 1) := fun t e => by rw [e]; exact HTE.out
  have hte := HTE.out
  generalize ts[M] = tM at cM hte
  go_upto_if 20 with fail
  go_cut [5] from 20 to 22 (fun k wx => k = .int .i64 MM ∧ wx = w2)
  case first =>
    rcases hte with ⟨h1, rfl⟩ | ⟨h1, rfl⟩
    · have hbe : tM.toList.isEmpty = true := by rw [ByteArray.toList_eq, h1]; rfl
      rw [hbe]
      go_wp2
      go_meet
      case rel => exact ⟨by go_num, rfl⟩
    · have hbe : tM.toList.isEmpty = false := by rw [ByteArray.toList_eq]; cases h : tM.data.toList with | nil => exact absurd h h1 | cons _ _ => rfl
      rw [hbe]
      go_wp2
      go_meet
      case rel => exact ⟨by go_num, rfl⟩
  case rest =>
    obtain ⟨rfl, rfl⟩ := hcut
    clear hte cM
    by_cases hbig : 60 < MM
    · have HDE : Hid (D = ([], 8, none)) := by
        show _ = _
        rw [HD.out, if_pos hbig]
      have hi : (60 : Int) < (MM : Int) := by omega
      have hbr := bare_of 8 wc
      go_wp2_with fail
      refine hbr.mono ?_
      rintro e w3 ⟨rfl, hb3⟩
      clear hbr
      have hfW := hf2.below hb3
      have hBW : Below w.heap.size w w3 := hB2.trans (hb3.mono hB2.size)
      have j0 := hfW.c0
      have j1 := hfW.c1
      have jz := hfW.fz
      go_wp2
      refine bodyPost_ret (v := .tuple #[.slice none 0 0, .agg #[.int .i64 (8), .int .i64 (-1)]]) (by simp [results, Tryz.results39, go_sem, j0, j1]) rfl ⟨_, by rw [HDE.out] <;> rfl, by rw [HDE.out]; exact Or.inl ⟨none, 0, rfl, fun _ => rfl, rfl⟩, ?_⟩
      exact (hBW.setCell (Nat.le_refl _) _).setCell (Nat.le_refl _) _
    · have HDD : Hid (D = if R.2.1 ≠ 0 then ([], R.2.1, some R.2.2) else (R.1, 0, none)) := by
        show _ = _
        rw [HD.out, if_neg hbig]
      have hi : ¬ (60 : Int) < (MM : Int) := by omega
      have hM60 : M ≤ 60 := by omega
      clear HD
      go_wp2
      go_loopw [6, 7, 8, 9, 10] (fun out k _ _ _ wr => ∃ (n : Nat) (acc : List Fl), n < M + 1 ∧ k = .int .i64 n ∧ acc.length = n ∧ (∀ f ∈ acc, f.1.size ≤ 100000) ∧ Below wc.heap.size wc wr ∧ wr.ownsRow wc.heap.size 23 6 out n (flatF acc) ∧ rowsG fileK ((ts.map (·.data.toList)).drop n) n acc = R) (fun _ k _ _ _ _ => M + 1 - (intOf k).toNat)
      case atStart => exact ⟨0, [], by omega, rfl, rfl, by simp, Below.refl _ _, by simp [flatF]; exact World.ownsRow_nil _ _ _ _, HR.out⟩
      case round =>
        obtain ⟨n, acc, hn, rfl, hacc, hok, hb, hown, hrec⟩ := hrel
        have OW : Hid (wr.ownsRow wc.heap.size 23 6 u6 n (flatF acc)) := hown
        have HAL : Hid (acc.length = n) := hacc
        have HOK : Hid (∀ f ∈ acc, f.1.size ≤ 100000) := hok
        have hntx : n < ts.length := by rw [HX.out]; exact hn
        have hdr : (ts.map (·.data.toList)).drop n = ts[n].data.toList :: (ts.map (·.data.toList)).drop (n + 1) := by
          rw [List.drop_eq_getElem_cons (by rw [List.length_map]; exact hntx)]
          simp
        rw [hdr] at hrec
        have cl := below_keep hb (HTC.out n hntx)
        have hszl := HSZ.out ts[n] (List.getElem_mem _)
        have hi1 : (n : Int) < (M : Int) + 1 := by omega
        have hi0' : (0 : Int) ≤ (n : Int) := by omega
        have hBr : Below w.heap.size w wr := hB2.trans (hb.mono hB2.size)
        have hfr := hf2.below hb
        clear hown hacc hdr hok
        by_cases hlast : n = M
        · subst hlast
          have hnil : (ts.map (·.data.toList)).drop (n + 1) = [] := List.drop_eq_nil_of_le (by rw [List.length_map, HX.out]; exact Nat.le_refl _)
          rw [hnil, rowsF_one] at hrec
          clear hnil
          rcases HTE.out with ⟨h1, h2⟩ | ⟨h1, h2⟩
          · rw [if_pos h1] at hrec
            have HDE : Hid (D = (acc, 0, none)) := by
              show _ = _
              rw [HDD.out, ← hrec]; rfl
            have hm1 : ¬ (n : Int) < (MM : Int) := by omega
            have hm2 : MM = n := h2
            have hv6 := (flsAt_of_own OW.out).1
            clear hrec h1 cl hszl OW
            have hfi := fine_of wr
            subst hm2
            go_wp2_with fail
            refine hfi.mono ?_
            rintro e w3 ⟨rfl, hb3⟩
            clear hfi
            have hfW := hfr.below hb3
            have hBW : Below w.heap.size w w3 := hBr.trans (hb3.mono hBr.size)
            have HV : Hid (FlsAt w3 u6 acc) := hv6.below hb3
            clear hv6
            have j0 := hfW.c0
            have j1 := hfW.c1
            have jz := hfW.fz
            go_wp2
            refine bodyPost_ret (v := .tuple #[u6, .agg #[.int .i64 0, .int .i64 (-1)]]) (by simp [results, Tryz.results39, go_sem, j0, j1]) rfl ⟨_, by rw [HDE.out]; rfl, ?_, (hBW.setCell (Nat.le_refl _) _).setCell (Nat.le_refl _) _⟩
            rw [HDE.out]
            exact hfW.ne_fls HV.out _ _ _ _
          · rw [if_neg h1] at hrec
            have HDE : Hid (D = ([], 1, some n)) := by
              show _ = _
              rw [HDD.out, ← hrec]; rfl
            have hm1 : (n : Int) < (MM : Int) := by omega
            have hm2 : MM = n + 1 := h2
            clear hrec h1 cl hszl OW
            subst hm2
            have hfW := hfr
            have hBW := hBr
            have j0 := hfW.c0
            have j1 := hfW.c1
            have jz := hfW.fz
            go_wp2
            refine bodyPost_ret (v := .tuple #[.slice none 0 0, .agg #[.int .i64 (1), .int .i64 (n)]]) (by simp [results, Tryz.results39, go_sem, j0, j1]) rfl ⟨_, by rw [HDE.out] <;> rfl, by rw [HDE.out]; exact Or.inl ⟨none, 0, rfl, fun _ => rfl, rfl⟩, ?_⟩
            exact (hBW.setCell (Nat.le_refl _) _).setCell (Nat.le_refl _) _
        · have hn1 : n < M := by omega
          obtain ⟨l2, r, hpb⟩ : ∃ l2 r, (ts.map (·.data.toList)).drop (n + 1) = l2 :: r := List.exists_cons_of_ne_nil (fun e => by
            have := congrArg List.length e
            rw [List.length_drop, List.length_map, HX.out, List.length_nil] at this
            omega)
          rw [hpb, rowsF_cons, ← hpb] at hrec
          have hnl : ¬ (n : Int) = (M : Int) := by omega
          have hm1 : (n : Int) < (MM : Int) := by omega
          have hrr := readFile_any ts[n] wr (by omega)
          have hsz4 := fun (h : (readF ts[n].data.toList).2 = 0) => ok_size (readF_ok ts[n].data.toList h)
          clear hpb
          generalize ts[n].data.toList = tl at hrec hrr hsz4
          generalize ts[n] = t at cl hszl hrr
          obtain ⟨E, hEE⟩ : ∃ E, (readF tl).2 = E := ⟨_, rfl⟩
          obtain ⟨x, hxe⟩ : ∃ x, (readF tl).1 = x := ⟨_, rfl⟩
          rw [hEE, hxe] at hrr hrec hsz4
          clear hEE hxe
          obtain ⟨fp, fq, fn, flo, fhi, fseq⟩ := x
          unfold flV at hrr
          dsimp only at hrr hsz4
          have HREC : Hid ((if E ≠ 0 then ([], E, n) else if acc ≠ [] ∧ decide (fk (fp, fq, fn, flo, fhi, fseq) ≤ fk (acc.getLastD zeroF)) = true then ([], 9, n) else rowsG fileK ((ts.map (·.data.toList)).drop (n + 1)) (n + 1) (acc ++ [(fp, fq, fn, flo, fhi, fseq)])) = R) := hrec
          clear hrec
          go_wp2_with fail
          refine hrr.mono ?_
          rintro e w4 ⟨rfl, hb4⟩
          clear hrr
          have hal4 : Below w4.heap.size w4 (w4.alloc (.cells #[.string fp, .string fq, .int .i64 fn, .int .i64 flo, .int .i64 fhi, .int .i64 fseq] 23)) := (Below.refl _ _).alloc (Nat.le_refl _) _
          have hb45 := hb4.trans (hal4.mono hb4.size)
          have hbW : Below wc.heap.size wc (w4.alloc (.cells #[.string fp, .string fq, .int .i64 fn, .int .i64 flo, .int .i64 fhi, .int .i64 fseq] 23)) := hb.trans (hb45.mono hb.size)
          have hfW := hfr.below hb45
          have hBW : Below w.heap.size w (w4.alloc (.cells #[.string fp, .string fq, .int .i64 fn, .int .i64 flo, .int .i64 fhi, .int .i64 fseq] 23)) := hBr.trans (hb45.mono hBr.size)
          have OW4 : Hid ((w4.alloc (.cells #[.string fp, .string fq, .int .i64 fn, .int .i64 flo, .int .i64 fhi, .int .i64 fseq] 23)).ownsRow wc.heap.size 23 6 u6 n (flatF acc)) := own_below OW.out hb45
          have hF4 : FlAt (w4.alloc (.cells #[.string fp, .string fq, .int .i64 fn, .int .i64 flo, .int .i64 fhi, .int .i64 fseq] 23)) w4.heap.size (fp, fq, fn, flo, fhi, fseq) := FlAt.new w4 (fp, fq, fn, flo, fhi, fseq)
          go_upto_region 14 with fail
          clear OW hfr hBr hal4 hb45 hb4 cl hszl
          generalize w4.alloc (.cells #[.string fp, .string fq, .int .i64 fn, .int .i64 flo, .int .i64 fhi, .int .i64 fseq] 23) = W4 at hbW hfW hBW OW4 hF4 ⊢
          generalize w4.heap.size = bx at hF4 ⊢
          by_cases hE : E = 0
          · subst hE
            have hsz5 := hsz4 rfl
            have HRE2 : Hid ((if acc ≠ [] ∧ decide (fk (fp, fq, fn, flo, fhi, fseq) ≤ fk (acc.getLastD zeroF)) = true then ([], 9, n) else rowsG fileK ((ts.map (·.data.toList)).drop (n + 1)) (n + 1) (acc ++ [(fp, fq, fn, flo, fhi, fseq)])) = R) := by
              have h := HREC.out
              rw [if_neg (by simp)] at h
              exact h
            have HOKN : Hid (∀ f ∈ acc ++ [(fp, fq, fn, flo, fhi, fseq)], f.1.size ≤ 100000) := fun f hf => by
              rw [List.mem_append, List.mem_singleton] at hf
              rcases hf with hf | rfl
              · exact HOK.out f hf
              · show fp.size ≤ _
                omega
            obtain ⟨z0, z1, z2, z3, z4, z5, -⟩ := hF4.cells
            dsimp only at z0 z1 z2 z3 z4 z5
            clear HREC hsz4
            cases n with
            | zero =>
              have hae : acc = [] := List.length_eq_zero_iff.1 HAL.out
              have HRN : Hid (rowsG fileK ((ts.map (·.data.toList)).drop (0 + 1)) (0 + 1) (acc ++ [(fp, fq, fn, flo, fhi, fseq)]) = R) := by
                have h := HRE2.out
                rw [if_neg (by rw [hae]; simp)] at h
                exact h
              clear hae HRE2
              have e0 : ((0 : Nat) : Int) = 0 := rfl
              rw [e0] at hnl hi1 hi0' hm1 ⊢
              clear e0
              have hal5 : Below W4.heap.size W4 (W4.alloc (.cells #[.string fp, .string fq, .int .i64 fn, .int .i64 flo, .int .i64 fhi, .int .i64 fseq] 23)) := (Below.refl _ _).alloc (Nat.le_refl _) _
              have hb5 : Below wc.heap.size wc (W4.alloc (.cells #[.string fp, .string fq, .int .i64 fn, .int .i64 flo, .int .i64 fhi, .int .i64 fseq] 23)) := hbW.alloc hbW.size _
              go_wp2_with (at_builtin; refine wpList_append_own _ rfl _ _ 50 rfl wc.heap.size 23 i0 (.agg #[.string ⟨#[]⟩, .string ⟨#[]⟩, .int .i64 0, .int .i64 0, .int .i64 0, .int .i64 0]) 6 64 Tryz.underlying50 hi0 hz0 hs0 hby0 rfl (by decide) _ (0) (flatF acc) rfl ?qd0 ⟨W4.heap.size, 0, none⟩ 1 1 (encF (fp, fq, fn, flo, fhi, fseq)) rfl ?qd1 ?qd2 ?qd3 ?qd4 ?qd5 ?qd6 ?_)
              case qd0 => exact own_below OW4.out hal5
              case qd1 => rfl
              case qd2 => first | exact cells6 _ _ | exact fun j u hu => hu
              case qd3 => exact encF_one _
              case qd4 => unfold maxLen; omega
              case qd5 => omega
              case qd6 => first | exact hb5.size | (have := hbW.size; omega)
              intro v6 w6 hown6 hgrow6 hnil6
              have hb6 : Below wc.heap.size wc w6 := hb5.grown hgrow6 hb5.size (fun k hk => by
                rcases OW4.out.2 with ⟨e, _⟩ | ⟨g', cap', cur, e, hg', _⟩
                · rw [e] at hk; simp [Value.ownBlock] at hk
                · rw [e] at hk; simp [Value.ownBlock] at hk; omega)
              have OW6 : Hid (w6.ownsRow wc.heap.size 23 6 v6 (0 + 1) (flatF acc ++ encF (fp, fq, fn, flo, fhi, fseq))) := hown6
              clear hown6 hnil6 hgrow6
              go_wp2
              go_roundw
              case rel => exact ⟨0 + 1, acc ++ [(fp, fq, fn, flo, fhi, fseq)], by omega, by go_num, by rw [List.length_append, HAL.out]; rfl, HOKN.out, hb6, by rw [flatF_append]; simpa [flatF] using OW6.out, HRN.out⟩
              case measure => simp [intOf] <;> omega
            | succ k =>
              have hkk : k < acc.length := by rw [HAL.out]; omega
              have hacn : acc ≠ [] := fun e => by rw [e] at hkk; simp at hkk
              have hlastE := last_is acc k zeroF HAL.out hkk
              obtain ⟨g, cp, rfl⟩ := own_next OW4.out
              obtain ⟨b', o', hq, hc⟩ := (flsAt_of_own OW4.out).1.cells hacn
              injection hq with hq
              injection hq with hq1 hq2
              subst hq1
              subst hq2
              have g0 := (hc k hkk).1
              rw [Nat.zero_add] at g0
              have hks := HOK.out acc[k] (List.getElem_mem _)
              have hib := fun W => isBehind_any fp acc[k].1 W (by omega) hks
              have HAK : Hid (pk acc[k].1.data.toList = fk (acc.getLastD zeroF)) := by
                show _ = _
                rw [hlastE]; rfl
              rw [HAK.out] at hib
              have HNB : Hid (¬ fk (fp, fq, fn, flo, fhi, fseq) ≤ fk (acc.getLastD zeroF) → rowsG fileK ((ts.map (·.data.toList)).drop (k + 1 + 1)) (k + 1 + 1) (acc ++ [(fp, fq, fn, flo, fhi, fseq)]) = R) := fun h => by
                have h' := HRE2.out
                rw [if_neg (by rintro ⟨_, h2⟩; exact h (of_decide_eq_true h2))] at h'
                exact h'
              have HBD : Hid (fk (fp, fq, fn, flo, fhi, fseq) ≤ fk (acc.getLastD zeroF) → R = ([], 9, k + 1)) := fun h => by
                have h' := HRE2.out
                rw [if_pos ⟨hacn, decide_eq_true h⟩] at h'
                exact h'.symm
              have hib' : ∀ W, Calls Tryz.prog 100 #[.string fp, .string acc[k].1] W fun e w' => e = .returned (.bool (decide (fk (acc.getLastD zeroF) < fk (fp, fq, fn, flo, fhi, fseq)))) ∧ w' = W := hib
              generalize acc[k].1 = gp at g0 hib'
              generalize fk (fp, fq, fn, flo, fhi, fseq) = ZF at hib' HNB HBD
              generalize fk (acc.getLastD zeroF) = ZL at hib' HNB HBD
              have r1 : (0 : Int) < (k : Int) + 1 := by omega
              have r2 : (k : Int) < (k : Int) + 1 := by omega
              have r4 : (0 : Int) ≤ (k : Int) := by omega
              have r5 : (0 : Int) ≤ (k : Int) + 1 := by omega
              have r6 : IntKind.i64.wrap (k : Int) = (k : Int) := IntWalk.i64_in _ (by omega)
              have hbs : Below W4.heap.size W4 W4 := Below.refl _ _
              have hbd : Below W4.heap.size W4 W4.drew := hbs.drew
              have hfD := hfW.below hbd
              have hBD : Below w.heap.size w W4.drew := hBW.drew
              have hbWD : Below wc.heap.size wc W4.drew := hbW.drew
              have OWD : Hid (W4.drew.ownsRow wc.heap.size 23 6 (.slice (some ⟨g, 0, none⟩) (k + 1) cp) (k + 1) (flatF acc)) := own_below OW4.out hbd
              have HFD : Hid (FlAt W4.drew bx (fp, fq, fn, flo, fhi, fseq)) := hF4.below hbd
              clear hlastE hkk hc hks hib HRE2 HAK z1 z2 z3 z4 z5
              go_wp2_with fail
              go_region_held3 (fun w' => w'.cell? ⟨bx, 0, none⟩ = some (.string fp) ∧ w'.cell? ⟨g, k * 6, none⟩ = some (.string gp) ∧ Below W4.heap.size W4 w')
                (first
                  | (go_split_ands; with_reducible exact ⟨below_keep hbd z0, below_keep hbd g0, hbd⟩)
                  | (go_split_ands; exact ⟨by assumption, by assumption, by assumption⟩))
                (first
                  | (go_at_call 100; with_reducible refine (hib' _).mono ?_; rintro e wX ⟨rfl, rfl⟩))
              go_split_ands
              clear hfW hBW hbW OW4 hF4 hbs
              generalize W4.drew = WD at *
              by_cases ho : ZF ≤ ZL
              · have hd : decide (ZL < ZF) = false := decide_eq_false (by omega)
                rw [hd]
                have HDE : Hid (D = ([], 9, some (k + 1))) := by
                  show _ = _
                  rw [HDD.out, HBD.out ho]; rfl
                have hfW := hfD
                have hBW := hBD
                clear hib' ho hd OWD HFD
                have j0 := hfW.c0
                have j1 := hfW.c1
                have jz := hfW.fz
                go_wp2
                refine bodyPost_ret (v := .tuple #[.slice none 0 0, .agg #[.int .i64 (9), .int .i64 (((k + 1 : Nat) : Int))]]) (by simp [results, Tryz.results39, go_sem, j0, j1]) rfl ⟨_, by rw [HDE.out] <;> rfl, by rw [HDE.out]; exact Or.inl ⟨none, 0, rfl, fun _ => rfl, rfl⟩, ?_⟩
                exact (hBW.setCell (Nat.le_refl _) _).setCell (Nat.le_refl _) _
              · have hd : decide (ZL < ZF) = true := decide_eq_true (by omega)
                rw [hd]
                have HRN : Hid (rowsG fileK ((ts.map (·.data.toList)).drop (k + 1 + 1)) (k + 1 + 1) (acc ++ [(fp, fq, fn, flo, fhi, fseq)]) = R) := HNB.out (by omega)
                obtain ⟨z0, z1, z2, z3, z4, z5, -⟩ := HFD.out.cells
                dsimp only at z0 z1 z2 z3 z4 z5
                have hbW := hbWD
                have OW4 := OWD
                clear hib' ho hd hbWD OWD HFD
                have hal5 : Below WD.heap.size WD (WD.alloc (.cells #[.string fp, .string fq, .int .i64 fn, .int .i64 flo, .int .i64 fhi, .int .i64 fseq] 23)) := (Below.refl _ _).alloc (Nat.le_refl _) _
                have hb5 : Below wc.heap.size wc (WD.alloc (.cells #[.string fp, .string fq, .int .i64 fn, .int .i64 flo, .int .i64 fhi, .int .i64 fseq] 23)) := hbW.alloc hbW.size _
                go_wp2_with (at_builtin; refine wpList_append_own _ rfl _ _ 50 rfl wc.heap.size 23 i0 (.agg #[.string ⟨#[]⟩, .string ⟨#[]⟩, .int .i64 0, .int .i64 0, .int .i64 0, .int .i64 0]) 6 64 Tryz.underlying50 hi0 hz0 hs0 hby0 rfl (by decide) _ (k + 1) (flatF acc) rfl ?qd0 ⟨WD.heap.size, 0, none⟩ 1 1 (encF (fp, fq, fn, flo, fhi, fseq)) rfl ?qd1 ?qd2 ?qd3 ?qd4 ?qd5 ?qd6 ?_)
                case qd0 => exact own_below OW4.out hal5
                case qd1 => rfl
                case qd2 => first | exact cells6 _ _ | exact fun j u hu => hu
                case qd3 => exact encF_one _
                case qd4 => unfold maxLen; omega
                case qd5 => omega
                case qd6 => first | exact hb5.size | (have := hbW.size; omega)
                intro v6 w6 hown6 hgrow6 hnil6
                have hb6 : Below wc.heap.size wc w6 := hb5.grown hgrow6 hb5.size (fun k hk => by
                  rcases OW4.out.2 with ⟨e, _⟩ | ⟨g', cap', cur, e, hg', _⟩
                  · rw [e] at hk; simp [Value.ownBlock] at hk
                  · rw [e] at hk; simp [Value.ownBlock] at hk; omega)
                have OW6 : Hid (w6.ownsRow wc.heap.size 23 6 v6 (k + 1 + 1) (flatF acc ++ encF (fp, fq, fn, flo, fhi, fseq))) := hown6
                clear hown6 hnil6 hgrow6
                go_wp2
                go_roundw
                case rel => exact ⟨k + 1 + 1, acc ++ [(fp, fq, fn, flo, fhi, fseq)], by omega, by go_num, by rw [List.length_append, HAL.out]; rfl, HOKN.out, hb6, by rw [flatF_append]; simpa [flatF] using OW6.out, HRN.out⟩
                case measure => simp [intOf] <;> omega
          · have HDE : Hid (D = ([], E, some n)) := by
              show _ = _
              have h := HREC.out
              rw [if_pos hE] at h
              rw [HDD.out, ← h, if_pos hE]
            have q1 : ¬ (E : Int) = 0 := by omega
            have q2 : ((E : Int) == 0) = false := beq_eq_false_iff_ne.2 q1
            have q3 : (0 : Int) < (E : Int) := by omega
            clear HREC hF4 OW4 hsz4
            have j0 := hfW.c0
            have j1 := hfW.c1
            have jz := hfW.fz
            go_wp2
            refine bodyPost_ret (v := .tuple #[.slice none 0 0, .agg #[.int .i64 ((E : Nat)), .int .i64 (n)]]) (by simp [results, Tryz.results39, go_sem, j0, j1]) rfl ⟨_, by rw [HDE.out] <;> rfl, by rw [HDE.out]; exact Or.inl ⟨none, 0, rfl, fun _ => rfl, rfl⟩, ?_⟩
            exact (hBW.setCell (Nat.le_refl _) _).setCell (Nat.le_refl _) _
end Go.Proofs.YtpkoefpdpoikkaaGreatDoor
