/-
  The contract of the document's own ReadList.
  The contracts of list.lines, of the function that list.Read hands over, of data.EachLine with it, and of list.Read.
-/
import Derived.Test.YtpiagofhgalklacGreatDoorRefList1
import Derived.Test.YtpiagofhgalklacGreatDoorRefReadData
import Derived.Test.YtpiagofhgalklacGreatDoorRefFileRd
import Derived.Test.YtpiagofhgalklacGreatDoorListOrd
import Derived.Test.YtpiagofhgalklacGreatDoorDataRows
import Derived.Test.YtpiagofhgalklacGreatDoorFileRd
namespace Go.Proofs.YtpiagofhgalklacGreatDoor
open Go.RowKit Go.Extern.Stop Go.Stop Go.Extern Go.Sort Go.Shelf Go.Lib

/-- How many lines a list's text has, by what its pieces are. -/
def manyL (ps : List (List UInt8)) : Nat := if ps.getLastD [] = [] then ps.length - 1 else ps.length

theorem readL_def (s : List UInt8) : readL s = if 60 < manyL (pieces 10 s) then ([], 8, none) else
  if (rowsG fileK (pieces 10 s) 0 []).2.1 ≠ 0 then ([], (rowsG fileK (pieces 10 s) 0 []).2.1, some (rowsG fileK (pieces 10 s) 0 []).2.2) else ((rowsG fileK (pieces 10 s) 0 []).1, 0, none) := rfl

theorem rowsF_one (l : List UInt8) (n : Nat) (acc : List Fl) : rowsG fileK [l] n acc = if l = [] then (acc, 0, 0) else ([], 1, n) := rfl
theorem rowsF_cons (l l2 : List UInt8) (r : List (List UInt8)) (n : Nat) (acc : List Fl) : rowsG fileK (l :: l2 :: r) n acc = if (readF l).2 ≠ 0 then ([], (readF l).2, n) else
    if acc ≠ [] ∧ decide (fk (readF l).1 ≤ fk (acc.getLastD zeroF)) = true then ([], 9, n) else rowsG fileK (l2 :: r) (n + 1) (acc ++ [(readF l).1]) := rfl

theorem readF_ok (l : List UInt8) (h : (readF l).2 = 0) : fileE (readF l).1 = 0 := by
  unfold readF at h ⊢
  split at h
  · split at h
    · rename_i n lo hi seq _ _ _ _
      unfold chkF at h ⊢
      split at h
      · rename_i he
        simp only [he, if_true]
      · rename_i he
        exact absurd h he
    · cases h
  · cases h

theorem ok_size {f : Fl} (h : fileE f = 0) : f.1.size ≤ 16 := by
  obtain ⟨g, n, hp, _⟩ := file_good h
  obtain ⟨e, _, hc⟩ := path_some hp
  simp only [cntB, Bool.and_eq_true, decide_eq_true_eq] at hc
  have h1 := itoa_len11 n (by omega) (by omega)
  have h2 : (kindL g).length = 4 := by cases g <;> rfl
  have h3 := congrArg List.length e
  rw [List.length_append, List.length_cons, h2, size_list] at h3
  omega

set_option maxRecDepth 100000 in
set_option maxHeartbeats 16000000 in
theorem readList_any (s : ByteArray) (w : World) (hs : s.size ≤ 100000) :
    Calls Tryz.prog 16 #[.string s] w fun e w' => ∃ v', e = .returned (.tuple #[v', .agg #[.int .i64 (readL s.data.toList).2.1, .int .i64 (atZ (readL s.data.toList).2.2)]]) ∧ FlsAt w' v' (readL s.data.toList).1 ∧ Below w.heap.size w w' := by
  obtain ⟨i0, hi0, hz0, hs0, hby0⟩ := Tryz.fileInfo
  obtain ⟨R, hR⟩ : ∃ R, rowsG fileK (pieces 10 s.data.toList) 0 [] = R := ⟨_, rfl⟩
  have hrl := readL_def s.data.toList
  rw [hR] at hrl
  obtain ⟨D, hD⟩ : ∃ D, readL s.data.toList = D := ⟨_, rfl⟩
  rw [hD] at hrl ⊢
  have HD0 : Hid (D = if 60 < manyL (pieces 10 s.data.toList) then ([], 8, none) else if R.2.1 ≠ 0 then ([], R.2.1, some R.2.2) else (R.1, 0, none)) := hrl
  have HR0 : Hid (rowsG fileK (pieces 10 s.data.toList) 0 [] = R) := hR
  clear hrl hD hR
  have hf0 := FC.new w
  have hal : Below w.heap.size w (w.alloc (.cells #[.int .i64 0, .int .i64 0] 30)) := (Below.refl _ _).alloc (Nat.le_refl _) _
  have hcu := cutBy_any 10 s (w.alloc (.cells #[.int .i64 0, .int .i64 0] 30)) (by omega)
  go_enter Tryz.func16, Tryz.ntmps16
  go_wp2_with fail
  generalize w.alloc (.cells #[.int .i64 0, .int .i64 0] 30) = WA at hf0 hal hcu ⊢
  refine hcu.mono ?_
  rintro e w2 ⟨v2, ts, rfl, hts, htm, hb2⟩
  clear hcu
  have hf2 := hf0.below hb2
  have hB2 : Below w.heap.size w w2 := hal.trans (hb2.mono hal.size)
  clear hf0 hal hb2
  have hF1 := hf2.lt
  have HTM : Hid (ts.map (·.data.toList) = pieces 10 s.data.toList) := htm
  have hpl := pieces_count 10 s.data.toList
  have hcl := List.count_le_length (a := (10 : UInt8)) (l := s.data.toList)
  have hsl : s.data.toList.length = s.size := by rw [size_list]
  have htl : ts.length = (pieces 10 s.data.toList).length := by have := congrArg List.length htm; simpa using this
  obtain ⟨M, hM⟩ : ∃ M, ts.length = M + 1 := ⟨ts.length - 1, by omega⟩
  have hMb : M ≤ 100000 := by omega
  have HSZ : Hid (∀ t ∈ ts, t.size ≤ 100000) := fun t ht => by
    have h1 : t.data.toList ∈ pieces 10 s.data.toList := by rw [← htm]; exact List.mem_map_of_mem ht
    have h2 := pieces_len 10 s.data.toList _ h1
    rw [size_list] at h2
    omega
  have HR : Hid (rowsG fileK (ts.map (·.data.toList)) 0 [] = R) := by show _ = _; rw [htm]; exact HR0.out
  have hMx : M < ts.length := by omega
  obtain ⟨MM, hMM⟩ : ∃ k, manyL (pieces 10 s.data.toList) = k := ⟨_, rfl⟩
  have hlastD : (pieces 10 s.data.toList).getLastD [] = ts[M].data.toList := by
    rw [← htm, last_is _ M [] (by rw [List.length_map]; exact hM) (by rw [List.length_map]; exact hMx)]
    simp
  have hMMv : MM = if ts[M].data.toList = [] then M else M + 1 := by
    rw [← hMM]; unfold manyL; rw [hlastD, ← htl, hM]; rfl
  have HD : Hid (D = if 60 < MM then ([], 8, none) else if R.2.1 ≠ 0 then ([], R.2.1, some R.2.2) else (R.1, 0, none)) := by
    show _ = _
    rw [HD0.out, hMM]
  clear HD0 HR0 htm HTM hpl hcl hsl htl hlastD hMM
  obtain ⟨tb, tcap, rfl, htcap, htc⟩ := hts
  have HTC : Hid (∀ j (h : j < ts.length), w2.cell? ⟨tb, j, none⟩ = some (.string ts[j])) := htc
  have HX : Hid (ts.length = M + 1) := hM
  rw [hM] at htcap ⊢
  have cM := htc M hMx
  have HLT : Hid (MM = if ts[M].data.toList = [] then M else M + 1) := hMMv
  clear htc hM hMMv
  have hMM1 : M ≤ MM ∧ MM ≤ M + 1 := by rw [HLT.out]; split <;> omega
  have hM5 : IntKind.i64.wrap (M : Int) = (M : Int) := IntWalk.i64_in _ (by omega)
  have hM6 : (M : Int) < (M : Int) + 1 := by omega
  have hM7 : (0 : Int) ≤ (M : Int) := by omega
  have HTE : Hid (ts[M].data.toList = [] ∧ MM = M ∨ ts[M].data.toList ≠ [] ∧ MM = M + 1) := by
    show _ ∨ _
    by_cases h : ts[M].data.toList = []
    · exact Or.inl ⟨h, by rw [HLT.out, if_pos h]⟩
    · exact Or.inr ⟨h, by rw [HLT.out, if_neg h]⟩
  have HTE2 : Hid (∀ t, t = ts[M] → t.data.toList = [] ∧ MM = M ∨ t.data.toList ≠ [] ∧ MM = M + 1) := fun t e => by rw [e]; exact HTE.out
  have hte := HTE.out
  generalize ts[M] = tM at cM hte
  go_upto_if 20 with fail
  go_cut [5] from 20 to 22 (fun k wx => k = .int .i64 MM ∧ wx = w2)
  case first =>
    rcases hte with ⟨h1, rfl⟩ | ⟨h1, rfl⟩
    · have hbe : tM.toList.isEmpty = true := by rw [ByteArray.toList_eq, h1]; rfl
      rw [hbe]
      go_wp2
      go_meet
      case rel => exact ⟨by go_num, rfl⟩
    · have hbe : tM.toList.isEmpty = false := by rw [ByteArray.toList_eq]; cases h : tM.data.toList with | nil => exact absurd h h1 | cons _ _ => rfl
      rw [hbe]
      go_wp2
      go_meet
      case rel => exact ⟨by go_num, rfl⟩
  case rest =>
    obtain ⟨rfl, rfl⟩ := hcut
    clear hte cM
    by_cases hbig : 60 < MM
    · have HDE : Hid (D = ([], 8, none)) := by
        show _ = _
        rw [HD.out, if_pos hbig]
      have hi : (60 : Int) < (MM : Int) := by omega
      have hbr := bare_of 8 wc
      go_wp2_with fail
      refine hbr.mono ?_
      rintro e w3 ⟨rfl, hb3⟩
      clear hbr
      have hfW := hf2.below hb3
      have hBW : Below w.heap.size w w3 := hB2.trans (hb3.mono hB2.size)
      have j0 := hfW.c0
      have j1 := hfW.c1
      have jz := hfW.fz
      go_wp2
      refine bodyPost_ret (v := .tuple #[.slice none 0 0, .agg #[.int .i64 (8), .int .i64 (-1)]]) (by simp [results, Tryz.results16, go_sem, j0, j1]) rfl ⟨_, by rw [HDE.out] <;> rfl, by rw [HDE.out]; exact Or.inl ⟨none, 0, rfl, fun _ => rfl, rfl⟩, ?_⟩
      exact (hBW.setCell (Nat.le_refl _) _).setCell (Nat.le_refl _) _
    · have HDD : Hid (D = if R.2.1 ≠ 0 then ([], R.2.1, some R.2.2) else (R.1, 0, none)) := by
        show _ = _
        rw [HD.out, if_neg hbig]
      have hi : ¬ (60 : Int) < (MM : Int) := by omega
      have hM60 : M ≤ 60 := by omega
      clear HD
      go_wp2
      go_loopw [6, 7, 8, 9, 10] (fun out k _ _ _ wr => ∃ (n : Nat) (acc : List Fl), n < M + 1 ∧ k = .int .i64 n ∧ acc.length = n ∧ (∀ f ∈ acc, f.1.size ≤ 100000) ∧ Below wc.heap.size wc wr ∧ wr.ownsRow wc.heap.size 24 6 out n (flatF acc) ∧ rowsG fileK ((ts.map (·.data.toList)).drop n) n acc = R) (fun _ k _ _ _ _ => M + 1 - (intOf k).toNat)
      case atStart => exact ⟨0, [], by omega, rfl, rfl, by simp, Below.refl _ _, by simp [flatF]; exact World.ownsRow_nil _ _ _ _, HR.out⟩
      case round =>
        obtain ⟨n, acc, hn, rfl, hacc, hok, hb, hown, hrec⟩ := hrel
        have OW : Hid (wr.ownsRow wc.heap.size 24 6 u6 n (flatF acc)) := hown
        have HAL : Hid (acc.length = n) := hacc
        have HOK : Hid (∀ f ∈ acc, f.1.size ≤ 100000) := hok
        have hntx : n < ts.length := by rw [HX.out]; exact hn
        have hdr : (ts.map (·.data.toList)).drop n = ts[n].data.toList :: (ts.map (·.data.toList)).drop (n + 1) := by
          rw [List.drop_eq_getElem_cons (by rw [List.length_map]; exact hntx)]
          simp
        rw [hdr] at hrec
        have cl := below_keep hb (HTC.out n hntx)
        have hszl := HSZ.out ts[n] (List.getElem_mem _)
        have hi1 : (n : Int) < (M : Int) + 1 := by omega
        have hi0' : (0 : Int) ≤ (n : Int) := by omega
        have hBr : Below w.heap.size w wr := hB2.trans (hb.mono hB2.size)
        have hfr := hf2.below hb
        clear hown hacc hdr hok
        by_cases hlast : n = M
        · subst hlast
          have hnil : (ts.map (·.data.toList)).drop (n + 1) = [] := List.drop_eq_nil_of_le (by rw [List.length_map, HX.out]; exact Nat.le_refl _)
          rw [hnil, rowsF_one] at hrec
          clear hnil
          rcases HTE.out with ⟨h1, h2⟩ | ⟨h1, h2⟩
          · rw [if_pos h1] at hrec
            have HDE : Hid (D = (acc, 0, none)) := by
              show _ = _
              rw [HDD.out, ← hrec]; rfl
            have hm1 : ¬ (n : Int) < (MM : Int) := by omega
            have hm2 : MM = n := h2
            have hv6 := (flsAt_of_own OW.out).1
            clear hrec h1 cl hszl OW
            have hfi := fine_of wr
            subst hm2
            go_wp2_with fail
            refine hfi.mono ?_
            rintro e w3 ⟨rfl, hb3⟩
            clear hfi
            have hfW := hfr.below hb3
            have hBW : Below w.heap.size w w3 := hBr.trans (hb3.mono hBr.size)
            have HV : Hid (FlsAt w3 u6 acc) := hv6.below hb3
            clear hv6
            have j0 := hfW.c0
            have j1 := hfW.c1
            have jz := hfW.fz
            go_wp2
            refine bodyPost_ret (v := .tuple #[u6, .agg #[.int .i64 0, .int .i64 (-1)]]) (by simp [results, Tryz.results16, go_sem, j0, j1]) rfl ⟨_, by rw [HDE.out]; rfl, ?_, (hBW.setCell (Nat.le_refl _) _).setCell (Nat.le_refl _) _⟩
            rw [HDE.out]
            exact hfW.ne_fls HV.out _ _ _ _
          · rw [if_neg h1] at hrec
            have HDE : Hid (D = ([], 1, some n)) := by
              show _ = _
              rw [HDD.out, ← hrec]; rfl
            have hm1 : (n : Int) < (MM : Int) := by omega
            have hm2 : MM = n + 1 := h2
            clear hrec h1 cl hszl OW
            subst hm2
            have hfW := hfr
            have hBW := hBr
            have j0 := hfW.c0
            have j1 := hfW.c1
            have jz := hfW.fz
            go_wp2
            refine bodyPost_ret (v := .tuple #[.slice none 0 0, .agg #[.int .i64 (1), .int .i64 (n)]]) (by simp [results, Tryz.results16, go_sem, j0, j1]) rfl ⟨_, by rw [HDE.out] <;> rfl, by rw [HDE.out]; exact Or.inl ⟨none, 0, rfl, fun _ => rfl, rfl⟩, ?_⟩
            exact (hBW.setCell (Nat.le_refl _) _).setCell (Nat.le_refl _) _
        · have hn1 : n < M := by omega
          obtain ⟨l2, r, hpb⟩ : ∃ l2 r, (ts.map (·.data.toList)).drop (n + 1) = l2 :: r := List.exists_cons_of_ne_nil (fun e => by
            have := congrArg List.length e
            rw [List.length_drop, List.length_map, HX.out, List.length_nil] at this
            omega)
          rw [hpb, rowsF_cons, ← hpb] at hrec
          have hnl : ¬ (n : Int) = (M : Int) := by omega
          have hm1 : (n : Int) < (MM : Int) := by omega
          have hrr := readFile_any ts[n] wr (by omega)
          have hsz4 := fun (h : (readF ts[n].data.toList).2 = 0) => ok_size (readF_ok ts[n].data.toList h)
          clear hpb
          generalize ts[n].data.toList = tl at hrec hrr hsz4
          generalize ts[n] = t at cl hszl hrr
          obtain ⟨E, hEE⟩ : ∃ E, (readF tl).2 = E := ⟨_, rfl⟩
          obtain ⟨x, hxe⟩ : ∃ x, (readF tl).1 = x := ⟨_, rfl⟩
          rw [hEE, hxe] at hrr hrec hsz4
          clear hEE hxe
          obtain ⟨fp, fq, fn, flo, fhi, fseq⟩ := x
          unfold flV at hrr
          dsimp only at hrr hsz4
          have HREC : Hid ((if E ≠ 0 then ([], E, n) else if acc ≠ [] ∧ decide (fk (fp, fq, fn, flo, fhi, fseq) ≤ fk (acc.getLastD zeroF)) = true then ([], 9, n) else rowsG fileK ((ts.map (·.data.toList)).drop (n + 1)) (n + 1) (acc ++ [(fp, fq, fn, flo, fhi, fseq)])) = R) := hrec
          clear hrec
          go_wp2_with fail
          refine hrr.mono ?_
          rintro e w4 ⟨rfl, hb4⟩
          clear hrr
          have hal4 : Below w4.heap.size w4 (w4.alloc (.cells #[.string fp, .string fq, .int .i64 fn, .int .i64 flo, .int .i64 fhi, .int .i64 fseq] 24)) := (Below.refl _ _).alloc (Nat.le_refl _) _
          have hb45 := hb4.trans (hal4.mono hb4.size)
          have hbW : Below wc.heap.size wc (w4.alloc (.cells #[.string fp, .string fq, .int .i64 fn, .int .i64 flo, .int .i64 fhi, .int .i64 fseq] 24)) := hb.trans (hb45.mono hb.size)
          have hfW := hfr.below hb45
          have hBW : Below w.heap.size w (w4.alloc (.cells #[.string fp, .string fq, .int .i64 fn, .int .i64 flo, .int .i64 fhi, .int .i64 fseq] 24)) := hBr.trans (hb45.mono hBr.size)
          have OW4 : Hid ((w4.alloc (.cells #[.string fp, .string fq, .int .i64 fn, .int .i64 flo, .int .i64 fhi, .int .i64 fseq] 24)).ownsRow wc.heap.size 24 6 u6 n (flatF acc)) := own_below OW.out hb45
          have hF4 : FlAt (w4.alloc (.cells #[.string fp, .string fq, .int .i64 fn, .int .i64 flo, .int .i64 fhi, .int .i64 fseq] 24)) w4.heap.size (fp, fq, fn, flo, fhi, fseq) := FlAt.new w4 (fp, fq, fn, flo, fhi, fseq)
          go_upto_region 14 with fail
          clear OW hfr hBr hal4 hb45 hb4 cl hszl
          generalize w4.alloc (.cells #[.string fp, .string fq, .int .i64 fn, .int .i64 flo, .int .i64 fhi, .int .i64 fseq] 24) = W4 at hbW hfW hBW OW4 hF4 ⊢
          generalize w4.heap.size = bx at hF4 ⊢
          by_cases hE : E = 0
          · subst hE
            have hsz5 := hsz4 rfl
            have HRE2 : Hid ((if acc ≠ [] ∧ decide (fk (fp, fq, fn, flo, fhi, fseq) ≤ fk (acc.getLastD zeroF)) = true then ([], 9, n) else rowsG fileK ((ts.map (·.data.toList)).drop (n + 1)) (n + 1) (acc ++ [(fp, fq, fn, flo, fhi, fseq)])) = R) := by
              have h := HREC.out
              rw [if_neg (by simp)] at h
              exact h
            have HOKN : Hid (∀ f ∈ acc ++ [(fp, fq, fn, flo, fhi, fseq)], f.1.size ≤ 100000) := fun f hf => by
              rw [List.mem_append, List.mem_singleton] at hf
              rcases hf with hf | rfl
              · exact HOK.out f hf
              · show fp.size ≤ _
                omega
            obtain ⟨z0, z1, z2, z3, z4, z5, -⟩ := hF4.cells
            dsimp only at z0 z1 z2 z3 z4 z5
            clear HREC hsz4
            cases n with
            | zero =>
              have hae : acc = [] := List.length_eq_zero_iff.1 HAL.out
              have HRN : Hid (rowsG fileK ((ts.map (·.data.toList)).drop (0 + 1)) (0 + 1) (acc ++ [(fp, fq, fn, flo, fhi, fseq)]) = R) := by
                have h := HRE2.out
                rw [if_neg (by rw [hae]; simp)] at h
                exact h
              clear hae HRE2
              have e0 : ((0 : Nat) : Int) = 0 := rfl
              rw [e0] at hnl hi1 hi0' hm1 ⊢
              clear e0
              have hal5 : Below W4.heap.size W4 (W4.alloc (.cells #[.string fp, .string fq, .int .i64 fn, .int .i64 flo, .int .i64 fhi, .int .i64 fseq] 24)) := (Below.refl _ _).alloc (Nat.le_refl _) _
              have hb5 : Below wc.heap.size wc (W4.alloc (.cells #[.string fp, .string fq, .int .i64 fn, .int .i64 flo, .int .i64 fhi, .int .i64 fseq] 24)) := hbW.alloc hbW.size _
              go_wp2_with (at_builtin; refine wpList_append_own _ rfl _ _ 22 rfl wc.heap.size 24 i0 (.agg #[.string ⟨#[]⟩, .string ⟨#[]⟩, .int .i64 0, .int .i64 0, .int .i64 0, .int .i64 0]) 6 64 Tryz.underlying22 hi0 hz0 hs0 hby0 rfl (by decide) _ (0) (flatF acc) rfl ?qd0 ⟨W4.heap.size, 0, none⟩ 1 1 (encF (fp, fq, fn, flo, fhi, fseq)) rfl ?qd1 ?qd2 ?qd3 ?qd4 ?qd5 ?qd6 ?_)
              case qd0 => exact own_below OW4.out hal5
              case qd1 => rfl
              case qd2 => first | exact cells6 _ _ | exact fun j u hu => hu
              case qd3 => exact encF_one _
              case qd4 => unfold maxLen; omega
              case qd5 => omega
              case qd6 => first | exact hb5.size | (have := hbW.size; omega)
              intro v6 w6 hown6 hgrow6 hnil6
              have hb6 : Below wc.heap.size wc w6 := hb5.grown hgrow6 hb5.size (fun k hk => by
                rcases OW4.out.2 with ⟨e, _⟩ | ⟨g', cap', cur, e, hg', _⟩
                · rw [e] at hk; simp [Value.ownBlock] at hk
                · rw [e] at hk; simp [Value.ownBlock] at hk; omega)
              have OW6 : Hid (w6.ownsRow wc.heap.size 24 6 v6 (0 + 1) (flatF acc ++ encF (fp, fq, fn, flo, fhi, fseq))) := hown6
              clear hown6 hnil6 hgrow6
              go_wp2
              go_roundw
              case rel => exact ⟨0 + 1, acc ++ [(fp, fq, fn, flo, fhi, fseq)], by omega, by go_num, by rw [List.length_append, HAL.out]; rfl, HOKN.out, hb6, by rw [flatF_append]; simpa [flatF] using OW6.out, HRN.out⟩
              case measure => simp [intOf] <;> omega
            | succ k =>
              have hkk : k < acc.length := by rw [HAL.out]; omega
              have hacn : acc ≠ [] := fun e => by rw [e] at hkk; simp at hkk
              have hlastE := last_is acc k zeroF HAL.out hkk
              obtain ⟨g, cp, rfl⟩ := own_next OW4.out
              obtain ⟨b', o', hq, hc⟩ := (flsAt_of_own OW4.out).1.cells hacn
              injection hq with hq
              injection hq with hq1 hq2
              subst hq1
              subst hq2
              have g0 := (hc k hkk).1
              rw [Nat.zero_add] at g0
              have hks := HOK.out acc[k] (List.getElem_mem _)
              have hib := fun W => isBehind_any fp acc[k].1 W (by omega) hks
              have HAK : Hid (pk acc[k].1.data.toList = fk (acc.getLastD zeroF)) := by
                show _ = _
                rw [hlastE]; rfl
              rw [HAK.out] at hib
              have HNB : Hid (¬ fk (fp, fq, fn, flo, fhi, fseq) ≤ fk (acc.getLastD zeroF) → rowsG fileK ((ts.map (·.data.toList)).drop (k + 1 + 1)) (k + 1 + 1) (acc ++ [(fp, fq, fn, flo, fhi, fseq)]) = R) := fun h => by
                have h' := HRE2.out
                rw [if_neg (by rintro ⟨_, h2⟩; exact h (of_decide_eq_true h2))] at h'
                exact h'
              have HBD : Hid (fk (fp, fq, fn, flo, fhi, fseq) ≤ fk (acc.getLastD zeroF) → R = ([], 9, k + 1)) := fun h => by
                have h' := HRE2.out
                rw [if_pos ⟨hacn, decide_eq_true h⟩] at h'
                exact h'.symm
              have hib' : ∀ W, Calls Tryz.prog 42 #[.string fp, .string acc[k].1] W fun e w' => e = .returned (.bool (decide (fk (acc.getLastD zeroF) < fk (fp, fq, fn, flo, fhi, fseq)))) ∧ w' = W := hib
              generalize acc[k].1 = gp at g0 hib'
              generalize fk (fp, fq, fn, flo, fhi, fseq) = ZF at hib' HNB HBD
              generalize fk (acc.getLastD zeroF) = ZL at hib' HNB HBD
              have r1 : (0 : Int) < (k : Int) + 1 := by omega
              have r2 : (k : Int) < (k : Int) + 1 := by omega
              have r4 : (0 : Int) ≤ (k : Int) := by omega
              have r5 : (0 : Int) ≤ (k : Int) + 1 := by omega
              have r6 : IntKind.i64.wrap (k : Int) = (k : Int) := IntWalk.i64_in _ (by omega)
              have hbs : Below W4.heap.size W4 W4 := Below.refl _ _
              have hbd : Below W4.heap.size W4 W4.drew := hbs.drew
              have hfD := hfW.below hbd
              have hBD : Below w.heap.size w W4.drew := hBW.drew
              have hbWD : Below wc.heap.size wc W4.drew := hbW.drew
              have OWD : Hid (W4.drew.ownsRow wc.heap.size 24 6 (.slice (some ⟨g, 0, none⟩) (k + 1) cp) (k + 1) (flatF acc)) := own_below OW4.out hbd
              have HFD : Hid (FlAt W4.drew bx (fp, fq, fn, flo, fhi, fseq)) := hF4.below hbd
              clear hlastE hkk hc hks hib HRE2 HAK z1 z2 z3 z4 z5
              go_wp2_with fail
              go_region_held3 (fun w' => w'.cell? ⟨bx, 0, none⟩ = some (.string fp) ∧ w'.cell? ⟨g, k * 6, none⟩ = some (.string gp) ∧ Below W4.heap.size W4 w')
                (first
                  | (go_split_ands; with_reducible exact ⟨below_keep hbd z0, below_keep hbd g0, hbd⟩)
                  | (go_split_ands; exact ⟨by assumption, by assumption, by assumption⟩))
                (first
                  | (go_at_call 42; with_reducible refine (hib' _).mono ?_; rintro e wX ⟨rfl, rfl⟩))
              go_split_ands
              clear hfW hBW hbW OW4 hF4 hbs
              generalize W4.drew = WD at *
              by_cases ho : ZF ≤ ZL
              · have hd : decide (ZL < ZF) = false := decide_eq_false (by omega)
                rw [hd]
                have HDE : Hid (D = ([], 9, some (k + 1))) := by
                  show _ = _
                  rw [HDD.out, HBD.out ho]; rfl
                have hfW := hfD
                have hBW := hBD
                clear hib' ho hd OWD HFD
                have j0 := hfW.c0
                have j1 := hfW.c1
                have jz := hfW.fz
                go_wp2
                refine bodyPost_ret (v := .tuple #[.slice none 0 0, .agg #[.int .i64 (9), .int .i64 (((k + 1 : Nat) : Int))]]) (by simp [results, Tryz.results16, go_sem, j0, j1]) rfl ⟨_, by rw [HDE.out] <;> rfl, by rw [HDE.out]; exact Or.inl ⟨none, 0, rfl, fun _ => rfl, rfl⟩, ?_⟩
                exact (hBW.setCell (Nat.le_refl _) _).setCell (Nat.le_refl _) _
              · have hd : decide (ZL < ZF) = true := decide_eq_true (by omega)
                rw [hd]
                have HRN : Hid (rowsG fileK ((ts.map (·.data.toList)).drop (k + 1 + 1)) (k + 1 + 1) (acc ++ [(fp, fq, fn, flo, fhi, fseq)]) = R) := HNB.out (by omega)
                obtain ⟨z0, z1, z2, z3, z4, z5, -⟩ := HFD.out.cells
                dsimp only at z0 z1 z2 z3 z4 z5
                have hbW := hbWD
                have OW4 := OWD
                clear hib' ho hd hbWD OWD HFD
                have hal5 : Below WD.heap.size WD (WD.alloc (.cells #[.string fp, .string fq, .int .i64 fn, .int .i64 flo, .int .i64 fhi, .int .i64 fseq] 24)) := (Below.refl _ _).alloc (Nat.le_refl _) _
                have hb5 : Below wc.heap.size wc (WD.alloc (.cells #[.string fp, .string fq, .int .i64 fn, .int .i64 flo, .int .i64 fhi, .int .i64 fseq] 24)) := hbW.alloc hbW.size _
                go_wp2_with (at_builtin; refine wpList_append_own _ rfl _ _ 22 rfl wc.heap.size 24 i0 (.agg #[.string ⟨#[]⟩, .string ⟨#[]⟩, .int .i64 0, .int .i64 0, .int .i64 0, .int .i64 0]) 6 64 Tryz.underlying22 hi0 hz0 hs0 hby0 rfl (by decide) _ (k + 1) (flatF acc) rfl ?qd0 ⟨WD.heap.size, 0, none⟩ 1 1 (encF (fp, fq, fn, flo, fhi, fseq)) rfl ?qd1 ?qd2 ?qd3 ?qd4 ?qd5 ?qd6 ?_)
                case qd0 => exact own_below OW4.out hal5
                case qd1 => rfl
                case qd2 => first | exact cells6 _ _ | exact fun j u hu => hu
                case qd3 => exact encF_one _
                case qd4 => unfold maxLen; omega
                case qd5 => omega
                case qd6 => first | exact hb5.size | (have := hbW.size; omega)
                intro v6 w6 hown6 hgrow6 hnil6
                have hb6 : Below wc.heap.size wc w6 := hb5.grown hgrow6 hb5.size (fun k hk => by
                  rcases OW4.out.2 with ⟨e, _⟩ | ⟨g', cap', cur, e, hg', _⟩
                  · rw [e] at hk; simp [Value.ownBlock] at hk
                  · rw [e] at hk; simp [Value.ownBlock] at hk; omega)
                have OW6 : Hid (w6.ownsRow wc.heap.size 24 6 v6 (k + 1 + 1) (flatF acc ++ encF (fp, fq, fn, flo, fhi, fseq))) := hown6
                clear hown6 hnil6 hgrow6
                go_wp2
                go_roundw
                case rel => exact ⟨k + 1 + 1, acc ++ [(fp, fq, fn, flo, fhi, fseq)], by omega, by go_num, by rw [List.length_append, HAL.out]; rfl, HOKN.out, hb6, by rw [flatF_append]; simpa [flatF] using OW6.out, HRN.out⟩
                case measure => simp [intOf] <;> omega
          · have HDE : Hid (D = ([], E, some n)) := by
              show _ = _
              have h := HREC.out
              rw [if_pos hE] at h
              rw [HDD.out, ← h, if_pos hE]
            have q1 : ¬ (E : Int) = 0 := by omega
            have q2 : ((E : Int) == 0) = false := beq_eq_false_iff_ne.2 q1
            have q3 : (0 : Int) < (E : Int) := by omega
            clear HREC hF4 OW4 hsz4
            have j0 := hfW.c0
            have j1 := hfW.c1
            have jz := hfW.fz
            go_wp2
            refine bodyPost_ret (v := .tuple #[.slice none 0 0, .agg #[.int .i64 ((E : Nat)), .int .i64 (n)]]) (by simp [results, Tryz.results16, go_sem, j0, j1]) rfl ⟨_, by rw [HDE.out] <;> rfl, by rw [HDE.out]; exact Or.inl ⟨none, 0, rfl, fun _ => rfl, rfl⟩, ?_⟩
            exact (hBW.setCell (Nat.le_refl _) _).setCell (Nat.le_refl _) _
end Go.Proofs.YtpiagofhgalklacGreatDoor
namespace Go.Proofs.YtpiagofhgalklacGreatDoor
open Go.RowKit Go.Extern.Stop Go.Stop Go.Extern Go.Sort Go.Shelf Go.Lib

/-- The last piece is empty where the text is, or ends with the sign. -/
theorem last_piece : ∀ (n : Nat) (s : List UInt8), s.length ≤ n → ((pieces 10 s).getLastD [] = [] ↔ s = [] ∨ Lib.hasSuffix s [10] = true)
  | 0, s, h => by
    obtain rfl : s = [] := List.length_eq_zero_iff.1 (by omega)
    simp [pieces_none 10 [] (by simp)]
  | n + 1, s, h => by
    have hsuf : ∀ t : List UInt8, Lib.hasSuffix t [10] = true ↔ [10] <:+ t := fun t => by unfold Lib.hasSuffix; exact List.isSuffixOf_iff_suffix
    rcases cut_cases 10 s with ⟨hno, _⟩ | ⟨a, b, rfl, hno, _⟩
    · rw [pieces_none 10 s hno, hsuf]
      constructor
      · intro e; exact Or.inl e
      · rintro (e | ⟨t, e⟩)
        · exact e
        · exact absurd rfl (hno 10 (by rw [← e]; simp))
    · have hb : b.length ≤ n := by simp at h; omega
      have ih := last_piece n b hb
      rw [pieces_append 10 a b hno]
      obtain ⟨l2, r, e⟩ := List.exists_cons_of_ne_nil (pieces_ne 10 b)
      have e1 : (a :: pieces 10 b).getLastD [] = (pieces 10 b).getLastD [] := by rw [e]; simp [List.getLastD_eq_getLast?, List.getLast?_cons_cons]
      rw [e1, ih, hsuf, hsuf]
      constructor
      · rintro (rfl | ⟨t, rfl⟩)
        · exact Or.inr ⟨a, rfl⟩
        · exact Or.inr ⟨a ++ 10 :: t, by simp⟩
      · rintro (e' | ⟨t, e'⟩)
        · simp at e'
        · by_cases hb0 : b = []
          · exact Or.inl hb0
          · refine Or.inr ?_
            have hl : (a ++ 10 :: b).getLast? = some 10 := by rw [← e']; simp
            have hl2 : b.getLast? = some 10 := by
              rw [List.getLast?_append, List.getLast?_cons] at hl
              cases hbl : b.getLast? with
              | none => exact absurd (List.getLast?_eq_none_iff.1 hbl) hb0
              | some c => rw [hbl] at hl; simpa using hl
            obtain ⟨ys, hys⟩ := List.getLast?_eq_some_iff.1 hl2
            exact ⟨ys, hys.symm⟩

theorem many_is (s : List UInt8) : (manyL (pieces 10 s) : Int) = if s ≠ [] ∧ Lib.hasSuffix s [10] = false then (s.count 10 : Int) + 1 else s.count 10 := by
  have hc := pieces_count 10 s
  have hl := last_piece s.length s (Nat.le_refl _)
  unfold manyL
  by_cases h : (pieces 10 s).getLastD [] = []
  · rw [if_pos h, if_neg, hc]
    · simp
    · rintro ⟨h1, h2⟩
      rcases hl.1 h with h' | h'
      · exact h1 h'
      · rw [h2] at h'; cases h'
  · rw [if_neg h, if_pos, hc]
    · simp
    · refine ⟨fun e => h (hl.2 (Or.inl e)), ?_⟩
      cases hs : Lib.hasSuffix s [10] with
      | false => rfl
      | true => exact absurd (hl.2 (Or.inr hs)) h

set_option maxRecDepth 100000 in
set_option maxHeartbeats 1000000 in
theorem lines_any (s : ByteArray) (w : World) (hs : s.size ≤ 100000) :
    Calls Tryz.prog 51 #[.string s] w fun e w' => e = .returned (.int .i64 (manyL (pieces 10 s.data.toList))) ∧ w' = w := by
  have hct := Tryz.strings_Count_one s 10 w
  have hsf := Tryz.strings_HasSuffix s ⟨#[10]⟩ w (by omega)
  rw [many_is]
  unfold Lib.countByte at hct
  have hcl := List.count_le_length (a := (10 : UInt8)) (l := s.data.toList)
  rw [size_list] at hcl
  have eS : (⟨#[10]⟩ : ByteArray).data.toList = [10] := rfl
  rw [eS] at hsf
  generalize List.count 10 s.data.toList = N at hct hcl ⊢
  by_cases he : s.data.toList = []
  · have hb : (s.toList == []) = true := eqB_of he
    rw [if_neg (by simp [he])]
    clear hsf eS he
    go_enter Tryz.func51, Tryz.ntmps51
    go_wp2_with fail
    refine hct.mono ?_
    rintro e w1 ⟨rfl, rfl⟩
    clear hct
    go_wp2
    go_ret
    exact ⟨rfl, rfl⟩
  · have hb : (s.toList == []) = false := neB_of he
    cases hS : Lib.hasSuffix s.data.toList [10] with
    | true =>
      rw [if_neg (by simp)]
      rw [hS] at hsf
      clear eS he
      go_enter Tryz.func51, Tryz.ntmps51
      go_wp2_with fail
      refine hct.mono ?_
      rintro e w1 ⟨rfl, rfl⟩
      clear hct
      go_wp2_with fail
      refine hsf.mono ?_
      rintro e w2 ⟨rfl, rfl⟩
      clear hsf
      go_wp2
      go_ret
      exact ⟨rfl, rfl⟩
    | false =>
      rw [if_pos ⟨he, rfl⟩]
      rw [hS] at hsf
      clear eS he
      go_enter Tryz.func51, Tryz.ntmps51
      go_wp2_with fail
      refine hct.mono ?_
      rintro e w1 ⟨rfl, rfl⟩
      clear hct
      go_wp2_with fail
      refine hsf.mono ?_
      rintro e w2 ⟨rfl, rfl⟩
      clear hsf
      go_wp2
      go_ret
      exact ⟨by go_num, rfl⟩

/-- A variable of files, in a block of its own. -/
structure BoxF (W : World) (B bl : Nat) (v : Value) (acc : List Fl) : Prop where
  box : W.heap[bl]? = some (.cells #[v] 22 (0, 0))
  own : W.ownsRow B 24 6 v acc.length (flatF acc)
  off : v.ownBlock ≠ some bl
  low : B ≤ bl
  good : ∀ g ∈ acc, fileE g = 0

theorem BoxF.below {W W' : World} {B bl : Nat} {v : Value} {acc : List Fl} (h : BoxF W B bl v acc) (hb : Below W.heap.size W W') : BoxF W' B bl v acc :=
  ⟨(hb.block bl (lt_of_block h.box)).trans h.box, own_below h.own hb, h.off, h.low, h.good⟩

/-- What the last part of it does: the file is put behind the others. -/
theorem boxF_put {W w5 : World} {B bl : Nat} {v v' : Value} {acc : List Fl} {x : Fl} (h : BoxF W B bl v acc) (hx : fileE x = 0) (ho : w5.ownsRow B 24 6 v' (acc.length + 1) (flatF acc ++ encF x)) (hg : W.grownBy w5 v.ownBlock) (hat : v'.ownBlock = v.ownBlock ∨ v'.ownBlock = some W.heap.size) :
    BoxF (w5.setCell ⟨bl, 0, none⟩ v') B bl v' (acc ++ [x]) ∧ w5.heap[bl]? = some (.cells #[v] 22 (0, 0)) := by
  have hlt := lt_of_block h.box
  have hb5 : w5.heap[bl]? = some (.cells #[v] 22 (0, 0)) := (hg.block bl hlt (fun e => h.off e.symm)).trans h.box
  have hoff : v'.ownBlock ≠ some bl := by
    rcases hat with e | e
    · rw [e]; exact h.off
    · rw [e]; intro e'; have := Option.some.inj e'; omega
  refine ⟨⟨one_setCell hb5, ?_, hoff, h.low, fun g hg => ?_⟩, hb5⟩
  · rw [List.length_append, flatF_append]
    have e1 : flatF [x] = encF x := by simp [flatF]
    rw [e1]
    exact ownsRow_setCell_other ho hoff _
  · rw [List.mem_append, List.mem_singleton] at hg
    rcases hg with hg | rfl
    · exact h.good g hg
    · exact hx

theorem step_file (acc : List Fl) (l : List UInt8) : stepE fileK acc l = if (readF l).2 ≠ 0 then (readF l).2 else behE acc (readF l).1 := by
  show (if (readF l).2 ≠ 0 then (readF l).2 else if acc ≠ [] ∧ decide (fk (readF l).1 ≤ fk (acc.getLastD zeroF)) = true then 9 else 0) = _
  unfold behE
  simp only [decide_eq_true_eq]

/-- What is taken of one line. -/
def TookF (a : Nat → Addr) (B bl : Nat) (acc : List Fl) (l : List UInt8) (W : World) (e : Ending) (w' : World) : Prop := Below B W w' ∧
  ((stepE fileK acc l ≠ 0 ∧ e = .returned (errV a (stepE fileK acc l))) ∨ (stepE fileK acc l = 0 ∧ e = .returned .nilIface ∧ ∃ v', BoxF w' B bl v' (acc ++ [(readF l).1])))

set_option maxRecDepth 100000 in
set_option maxHeartbeats 8000000 in
theorem took_any (line : ByteArray) (bl B : Nat) (v : Value) (acc : List Fl) (W : World) (a : Nat → Addr) (h : EnvT W a) (hB : BoxF W B bl v acc) (hs : line.size ≤ 100000) (hl : acc.length ≤ 100000) :
    Calls Tryz.prog 53 #[.string line, .pointer (some ⟨bl, 0, none⟩)] W (TookF a B bl acc line.data.toList W) := by
  obtain ⟨i0, hi0, hz0, hs0, hby0⟩ := Tryz.fileInfo
  unfold TookF
  rw [step_file]
  have hrd := fread_any line W a ⟨h.list.file, h.text⟩ hs
  have hok := readF_ok line.data.toList
  have HEN : Hid (∀ W', Below W.heap.size W W' → EnvL W' a) := fun W' hb => (h.below hb).list
  have hBW : B ≤ W.heap.size := Nat.le_trans hB.low (Nat.le_of_lt (lt_of_block hB.box))
  generalize readF line.data.toList = RF at hrd hok ⊢
  obtain ⟨f, E⟩ := RF
  dsimp only at hrd hok ⊢
  by_cases hE : E = 0
  · subst hE
    replace hok := hok rfl
    have hbh := fun W' (hb : Below W.heap.size W W') => behind_any v acc f W' a (HEN.out W' hb) (flsAt_of_own (hB.below hb).own).1 hl (fun g hg => ⟨by have := ok_size (hB.good g hg); omega, ok_path (hB.good g hg)⟩) (by have := ok_size hok; omega) (ok_path hok)
    simp only [ne_eq, not_true_eq_false, if_false]
    simp only [errV] at hrd
    obtain ⟨q, cp, rfl⟩ := own_slice hB.own
    have HOK : Hid (fileE f = 0) := hok
    have HBX : Hid (∀ W', Below W.heap.size W W' → BoxF W' B bl (.slice q acc.length cp) acc) := fun W' hb => hB.below hb
    have HGO : Hid (∀ k, Value.ownBlock (.slice q acc.length cp) = some k → B ≤ k ∧ k < W.heap.size) := fun k hk => hB.own.lt k hk
    clear hok hB
    obtain ⟨X, hX⟩ : ∃ X, behE acc f = X := ⟨_, rfl⟩
    have hX9 : X = 0 ∨ X = 9 := by
      rw [← hX]; unfold behE; split
      · exact Or.inr rfl
      · exact Or.inl rfl
    rw [hX] at hbh
    simp only [hX]
    clear hX
    have hfb := fun w1 => boxW_at w1 f
    have hbb := fun w1 => boxW_below w1 f
    unfold boxW at hfb hbb
    unfold flV at hrd hbh
    obtain ⟨N, hN⟩ : ∃ N, acc.length = N := ⟨_, rfl⟩
    have HN : Hid (acc.length = N) := hN
    rw [hN] at hbh HBX HGO hl
    clear hN
    obtain ⟨fp, fq, fn, flo, fhi, fseq⟩ := f
    dsimp only at hrd hbh hfb hbb ⊢
    go_enter Tryz.func53, Tryz.ntmps53
    go_wp2_with fail
    refine hrd.mono ?_
    rintro e w1 ⟨rfl, hb1⟩
    clear hrd
    have hf2 := hfb w1
    have hb2 := hbb w1
    clear hfb hbb
    go_upto_region 3 with fail
    generalize w1.alloc (.cells #[.string fp, .string fq, .int .i64 fn, .int .i64 flo, .int .i64 fhi, .int .i64 fseq] 24) = W2 at hf2 hb2 ⊢
    have hB2 : Below W.heap.size W W2 := hb1.trans (hb2.mono hb1.size)
    have hbx2 := HBX.out W2 hB2
    have k0 := cell_of_one hbx2.box
    obtain ⟨z0, z1, z2, z3, z4, z5, -⟩ := hf2.cells
    dsimp only at z0 z1 z2 z3 z4 z5
    have hbe := hbh W2 hB2
    clear hbh hbx2
    go_wp2_with fail
    refine hbe.mono ?_
    rintro e w3 ⟨rfl, hb3⟩
    clear hbe k0 z0 z1 z2 z3 z4 z5
    have hB3 : Below W.heap.size W w3 := hB2.trans (hb3.mono hB2.size)
    have hf3 := hf2.below hb3
    have hbx3 := HBX.out w3 hB3
    obtain ⟨z0, z1, z2, z3, z4, z5, -⟩ := hf3.cells
    dsimp only at z0 z1 z2 z3 z4 z5
    clear hf2 hb2 hb3 hf3 hB2
    rcases hX9 with rfl | rfl
    · have hal : Below w3.heap.size w3 (w3.alloc (.cells #[.string fp, .string fq, .int .i64 fn, .int .i64 flo, .int .i64 fhi, .int .i64 fseq] 24)) := (Below.refl _ _).alloc (Nat.le_refl _) _
      have hb4 : Below W.heap.size W (w3.alloc (.cells #[.string fp, .string fq, .int .i64 fn, .int .i64 flo, .int .i64 fhi, .int .i64 fseq] 24)) := hB3.trans (hal.mono hB3.size)
      have k0 := cell_of_one hbx3.box
      have HB4 : Hid (BoxF (w3.alloc (.cells #[.string fp, .string fq, .int .i64 fn, .int .i64 flo, .int .i64 fhi, .int .i64 fseq] 24)) B bl (.slice q N cp) acc) := hbx3.below hal
      clear hbx3
      simp only [errV]
      go_wp2_with (at_builtin; refine wpList_append_own_at _ rfl _ _ 22 rfl B 24 i0 (.agg #[.string ⟨#[]⟩, .string ⟨#[]⟩, .int .i64 0, .int .i64 0, .int .i64 0, .int .i64 0]) 6 64 Tryz.underlying22 hi0 hz0 hs0 hby0 rfl (by decide) (.slice q N cp) acc.length (flatF acc) rfl HB4.out.own ⟨w3.heap.size, 0, none⟩ 1 1 (encF (fp, fq, fn, flo, fhi, fseq)) rfl ?qd1 ?qd2 ?qd3 ?qd4 ?qd5 ?qd6 ?_)
      case qd1 => rfl
      case qd2 => first | exact cells6 _ _ | exact fun j u hu => hu
      case qd3 => exact encF_one _
      case qd4 => have := HN.out; unfold maxLen; omega
      case qd5 => have := HN.out; omega
      case qd6 => exact Nat.le_trans hBW hb4.size
      intro v7 w7 hown7 hgrow7 _ hat7
      obtain ⟨g7, cap7, rfl⟩ := own_next hown7
      obtain ⟨hput, hb7⟩ := boxF_put (x := (fp, fq, fn, flo, fhi, fseq)) HB4.out HOK.out hown7 hgrow7 (by simpa using hat7)
      have hcb7 := cell_of_one hb7
      have hfb7 := free_of_one hb7
      have hW7 : Below B W w7 := (hb4.mono hBW).grown hgrow7 (Nat.le_trans hBW hb4.size) (fun k hk => own_far HB4.out.own hk)
      have hW8 : Below B W (w7.setCell ⟨bl, 0, none⟩ (.slice (some ⟨g7, 0, none⟩) (acc.length + 1) cap7)) := hW7.setCell HB4.out.low _
      have HPUT : Hid (BoxF (w7.setCell ⟨bl, 0, none⟩ (.slice (some ⟨g7, 0, none⟩) (acc.length + 1) cap7)) B bl (.slice (some ⟨g7, 0, none⟩) (acc.length + 1) cap7) (acc ++ [(fp, fq, fn, flo, fhi, fseq)])) := hput
      clear hown7 hgrow7 hat7 hput z0 z1 z2 z3 z4 z5 k0
      go_wp2
      go_ret
      first | exact ⟨hW8, Or.inr ⟨rfl, rfl, _, HPUT.out⟩⟩ | exact ⟨hW8, rfl, _, HPUT.out⟩
    · simp only [errV]
      clear hbx3 z0 z1 z2 z3 z4 z5
      go_wp2
      go_ret
      first | exact ⟨hB3.mono hBW, Or.inl ⟨by decide, rfl⟩⟩ | exact ⟨hB3.mono hBW, rfl⟩
  · obtain ⟨j, rfl⟩ : ∃ j, E = j + 1 := ⟨E - 1, by omega⟩
    simp only [ne_eq, hE, not_false_eq_true, if_true]
    simp only [errV] at hrd ⊢
    have hbb := fun w1 => boxW_below w1 f
    unfold boxW at hbb
    unfold flV at hrd
    clear hok hB
    obtain ⟨fp, fq, fn, flo, fhi, fseq⟩ := f
    dsimp only at hrd hbb ⊢
    go_enter Tryz.func53, Tryz.ntmps53
    go_wp2_with fail
    refine hrd.mono ?_
    rintro e w1 ⟨rfl, hb1⟩
    clear hrd
    have hb2 := hbb w1
    clear hbb
    go_upto_region 2 with fail
    generalize w1.alloc (.cells #[.string fp, .string fq, .int .i64 fn, .int .i64 flo, .int .i64 fhi, .int .i64 fseq] 24) = W2 at hb2 ⊢
    have hB2 : Below W.heap.size W W2 := hb1.trans (hb2.mono hb1.size)
    go_wp2
    go_ret
    first | exact ⟨hB2.mono hBW, Or.inl ⟨by simp, rfl⟩⟩ | exact ⟨hB2.mono hBW, rfl⟩

/-- What EachLine hands back. -/
def EachPost (a : Nat → Addr) (B bl : Nat) (W : World) (R : List Fl × Nat × Nat) (e : Ending) (w' : World) : Prop := Below B W w' ∧ ((R.2.1 = 0 ∧ e = .returned .nilIface ∧ ∃ v', BoxF w' B bl v' R.1) ∨
    (R.2.1 ≠ 0 ∧ ∃ fb, e = .returned (.iface 85 (.pointer (some ⟨fb, 0, none⟩))) ∧ w'.cell? ⟨fb, 0, none⟩ = some (.int .i64 R.2.2) ∧ w'.cell? ⟨fb, 1, none⟩ = some (errV a R.2.1)))

set_option maxRecDepth 100000 in
set_option maxHeartbeats 8000000 in
theorem eachFile_any (bl B : Nat) (v : Value) (body : ByteArray) (W : World) (a : Nat → Addr) (hlowE : ∀ W', Below B W W' → EnvT W' a) (hB0 : BoxF W B bl v []) (hBW : B ≤ W.heap.size) (hs : body.size ≤ 20000) :
    Calls Tryz.prog 52 #[.string body, .func (.func 53) #[] #[.pointer (some ⟨bl, 0, none⟩)]] W (EachPost a B bl W (rowsG fileK (pieces 10 body.data.toList) 0 [])) := by
  have eg : ∀ args w, (callFunc 53 args).run Tryz.prog w = .ok (.enter 53 args) w := enters_of Tryz.func53 (by kernel_rfl) rfl
  unfold EachPost
  obtain ⟨R, hR⟩ : ∃ R, rowsG fileK (pieces 10 body.data.toList) 0 [] = R := ⟨_, rfl⟩
  rw [hR]
  have HR : Hid (rowsG fileK (pieces 10 body.data.toList) 0 [] = R) := hR
  clear hR
  go_enter Tryz.func52, Tryz.ntmps52
  go_wp2
  go_loopw [0, 5] (fun sv n wr => ∃ (rest : ByteArray) (acc : List Fl), sv = .string rest ∧ n = .int .i64 acc.length ∧ rest.size + acc.length ≤ 20000 ∧ Below B W wr ∧ (∃ v', BoxF wr B bl v' acc) ∧ rowsG fileK (pieces 10 rest.data.toList) acc.length acc = R) (fun sv _ _ => strLen sv)
  case atStart => exact ⟨body, [], rfl, rfl, by simpa using hs, Below.refl _ _, ⟨v, hB0⟩, HR.out⟩
  case round =>
    clear hB0
    obtain ⟨rest, acc, rfl, rfl, hsz, hb, ⟨v1, hIr⟩, hrec⟩ := hrel
    have HREC : Hid (rowsG fileK (pieces 10 rest.data.toList) acc.length acc = R) := hrec
    clear hrec HR
    have hEr := hlowE wr hb
    have hBr : B ≤ wr.heap.size := Nat.le_trans hBW hb.size
    obtain ⟨n, hn⟩ : ∃ n, acc.length = n := ⟨_, rfl⟩
    have HN : Hid (acc.length = n) := hn
    rw [hn] at hsz
    simp only [hn]
    clear hn
    by_cases he : rest.size = 0
    · have hre : rest.data.toList = [] := List.length_eq_zero_iff.1 (by rw [size_list]; exact he)
      have hbe : (rest.toList == []) = true := eqB_of hre
      have HRE : Hid (R = (acc, 0, 0)) := by
        show _ = _
        rw [← HREC.out, hre]; rfl
      have HIr : Hid (BoxF wr B bl v1 acc) := hIr
      clear hre hIr
      go_wp2
      go_ret
      refine ⟨hb, Or.inl ⟨by rw [HRE.out], rfl, v1, ?_⟩⟩
      rw [HRE.out]; exact HIr.out
    · have hne : rest.data.toList ≠ [] := fun e => he (by rw [← size_list, e]; rfl)
      have hbe : (rest.toList == []) = false := neB_of hne
      obtain ⟨mx, hmx⟩ := hEr.list.file.env.base.maxl
      have hcut := Tryz.strings_Cut rest ⟨#[10]⟩ mx wr (by omega) hmx
      dsimp only at hcut
      rcases cut_cases 10 rest.data.toList with ⟨hno, hc⟩ | ⟨la, lb, hl, hno, hc⟩
      · rw [hc] at hcut
        dsimp only at hcut
        have HRE : Hid (R = ([], 1, n)) := by
          show _ = _
          rw [← HREC.out, pieces_none 10 _ hno, rowsG_one, if_neg hne, HN.out]
        clear hc hno hne hIr
        generalize (⟨rest.data.toList.toArray⟩ : ByteArray) = fB at hcut
        go_wp2_with fail
        refine hcut.mono ?_
        rintro e w1 ⟨rfl, q, rfl⟩
        clear hcut
        have hbq : Below wr.heap.size wr (wr.drewN q) := below_drewN (Below.refl _ _) q
        have hb1 : Below B W (wr.drewN q) := hb.trans (hbq.mono hBr)
        have ht := (hlowE _ hb1).text
        clear hEr hmx hbq
        generalize wr.drewN q = W1 at hb1 ht ⊢
        have hal : Below W1.heap.size W1 (W1.alloc (.cells #[.int .i64 n, .iface 217 (.pointer (some (a 0)))] 87)) := (Below.refl _ _).alloc (Nat.le_refl _) _
        have hb2 : Below B W (W1.alloc (.cells #[.int .i64 n, .iface 217 (.pointer (some (a 0)))] 87)) := hb1.trans (hal.mono (Nat.le_trans hBW hb1.size))
        go_wp2
        go_ret
        exact ⟨hb2, Or.inr ⟨by rw [HRE.out]; exact Nat.one_ne_zero, W1.heap.size, rfl, by rw [HRE.out]; simp, by rw [HRE.out]; simp [errV]⟩⟩
      · rw [hc] at hcut
        dsimp only at hcut
        have hlen : la.length + lb.length + 1 = rest.size := by rw [← size_list, hl]; simp; omega
        have hrw : R = if stepE fileK acc la ≠ 0 then ([], stepE fileK acc la, n) else rowsG fileK (pieces 10 lb) (n + 1) (acc ++ [(readF la).1]) := by
          rw [← HREC.out, hl, pieces_append 10 la lb hno, rowsG_step fileK la _ (pieces_ne 10 lb), HN.out]
          rfl
        have eA : (⟨la.toArray⟩ : ByteArray) = bytesOf la := rfl
        have eB : (⟨lb.toArray⟩ : ByteArray) = bytesOf lb := rfl
        rw [eA, eB] at hcut
        have eAd : (bytesOf la).data.toList = la := by simp [bytesOf]
        have eBd : (bytesOf lb).data.toList = lb := by simp [bytesOf]
        have hsA : (bytesOf la).size ≤ 100000 := by rw [bytes_len]; omega
        have hszB : (bytesOf lb).size + n + 1 ≤ 20000 ∧ (bytesOf lb).size < rest.size := by rw [bytes_len]; omega
        have hacl : acc.length ≤ 100000 := by rw [HN.out]; omega
        clear hc hno hne hl eA eB hlen
        go_wp2_with fail
        refine hcut.mono ?_
        rintro e w1 ⟨rfl, q, rfl⟩
        clear hcut
        have hbq : Below wr.heap.size wr (wr.drewN q) := below_drewN (Below.refl _ _) q
        have hb1 : Below B W (wr.drewN q) := hb.trans (hbq.mono hBr)
        have hE1 := hlowE _ hb1
        have hI1 := hIr.below hbq
        clear hIr hEr hmx hbq
        generalize wr.drewN q = W1 at hb1 hE1 hI1 ⊢
        have hln := took_any (bytesOf la) bl B v1 acc W1 a hE1 hI1 hsA hacl
        rw [eAd] at hln
        unfold TookF at hln
        have HBD : Hid ((bytesOf lb).data.toList = lb) := eBd
        clear hI1 eAd eBd hacl
        obtain ⟨E, hEE⟩ : ∃ E, stepE fileK acc la = E := ⟨_, rfl⟩
        rw [hEE] at hln hrw
        clear hEE
        by_cases hE0 : E = 0
        · subst hE0
          rw [if_neg (by simp)] at hrw
          have HRE : Hid (rowsG fileK (pieces 10 lb) (n + 1) (acc ++ [(readF la).1]) = R) := hrw.symm
          clear hrw
          simp only [ne_eq, not_true_eq_false, false_and, false_or, true_and] at hln
          generalize (readF la).1 = x at hln HRE
          generalize bytesOf la = lA at hln hsA ⊢
          generalize bytesOf lb = lB at hszB HBD ⊢
          go_wp2_with (go_at_fn 53; refine hln.mono ?_; rintro e w2 ⟨hb2, rfl, v2, hI2⟩)
          have hb3 : Below B W w2 := hb1.trans hb2
          have HALL : Hid (BoxF w2 B bl v2 (acc ++ [x])) := hI2
          clear hI2 hln
          go_roundw
          case rel => exact ⟨lB, acc ++ [x], rfl, by rw [List.length_append, HN.out]; go_num, by rw [List.length_append, HN.out]; simp; omega, hb3, ⟨v2, HALL.out⟩, by rw [HBD.out, List.length_append, HN.out]; exact HRE.out⟩
          case measure => simp only [strLen]; exact hszB.2
        · rw [if_pos hE0] at hrw
          obtain ⟨E', hE'⟩ : ∃ E', E = E' + 1 := ⟨E - 1, by omega⟩
          subst hE'
          have HRE : Hid (R = ([], E' + 1, n)) := hrw
          clear hrw
          simp only [errV, ne_eq, Nat.succ_ne_zero, not_false_eq_true, false_and, or_false, true_and] at hln
          generalize bytesOf la = lA at hln hsA ⊢
          generalize bytesOf lb = lB at hszB HBD ⊢
          go_wp2_with (go_at_fn 53; refine hln.mono ?_; rintro e w2 ⟨hb2, rfl⟩)
          have hb3 : Below B W w2 := hb1.trans hb2
          have hal : Below w2.heap.size w2 (w2.alloc (.cells #[.int .i64 n, .iface 217 (.pointer (some (a E')))] 87)) := (Below.refl _ _).alloc (Nat.le_refl _) _
          have hb4 : Below B W (w2.alloc (.cells #[.int .i64 n, .iface 217 (.pointer (some (a E')))] 87)) := hb3.trans (hal.mono (Nat.le_trans hBW hb3.size))
          clear hln
          go_wp2
          go_ret
          exact ⟨hb4, Or.inr ⟨by rw [HRE.out]; exact Nat.succ_ne_zero _, w2.heap.size, rfl, by rw [HRE.out]; simp, by rw [HRE.out]; simp [errV]⟩⟩

set_option maxRecDepth 100000 in
set_option maxHeartbeats 2000000 in
theorem lread_any (s : ByteArray) (w : World) (a : Nat → Addr) (h : EnvT w a) (hs : s.size ≤ 20000) :
    Calls Tryz.prog 15 #[.string s] w fun e w' => ∃ v' ev, e = .returned (.tuple #[v', ev]) ∧ FlsAt w' v' (readL s.data.toList).1 ∧ ToldE w' a ev (readL s.data.toList).2 ∧ Below w.heap.size w w' := by
  have hln := lines_any s w (by omega)
  rw [readL_def]
  by_cases hm : 60 < manyL (pieces 10 s.data.toList)
  · rw [if_pos hm]
    dsimp only
    have hi : (60 : Int) < (manyL (pieces 10 s.data.toList) : Int) := by omega
    generalize manyL (pieces 10 s.data.toList) = M at hln hi
    have hf := h.list.full
    clear hm
    go_enter Tryz.func15, Tryz.ntmps15
    go_wp2_with fail
    refine hln.mono ?_
    rintro e w1 ⟨rfl, rfl⟩
    clear hln
    go_wp2
    go_quiet (fail)
    go_wp2
    go_ret2
    exact ⟨_, _, rfl, Or.inl ⟨none, 0, rfl, fun _ => rfl, rfl⟩, rfl, below_drewN (Below.refl _ _) nq⟩
  · rw [if_neg hm]
    have hi : ¬ (60 : Int) < (manyL (pieces 10 s.data.toList) : Int) := by omega
    have hal : Below w.heap.size w (w.alloc (.cells #[.slice none 0 0] 22)) := (Below.refl _ _).alloc (Nat.le_refl _) _
    have hbx : BoxF (w.alloc (.cells #[.slice none 0 0] 22)) w.heap.size w.heap.size (.slice none 0 0) [] := ⟨heap_alloc_new _ _, World.ownsRow_nil _ _ _ _, by simp [Value.ownBlock], Nat.le_refl _, by simp⟩
    have hea := eachFile_any w.heap.size w.heap.size (.slice none 0 0) s (w.alloc (.cells #[.slice none 0 0] 22)) a (fun W' hb => h.below (hal.trans hb)) hbx hal.size hs
    unfold EachPost at hea
    generalize manyL (pieces 10 s.data.toList) = M at hln hi
    generalize rowsG fileK (pieces 10 s.data.toList) 0 [] = R at hea ⊢
    obtain ⟨xs, E, n⟩ := R
    dsimp only at hea ⊢
    clear hm hbx
    by_cases hE : E = 0
    · subst hE
      simp only [ne_eq, not_true_eq_false, false_and, or_false, true_and, if_false] at hea ⊢
      go_enter Tryz.func15, Tryz.ntmps15
      go_wp2_with fail
      refine hln.mono ?_
      rintro e w1 ⟨rfl, rfl⟩
      clear hln
      go_wp2_with fail
      refine hea.mono ?_
      rintro e w2 ⟨hb2, rfl, v2, hbx⟩
      clear hea
      have hB2 := hal.trans hb2
      have k0 := cell_of_one hbx.box
      have HFL : Hid (FlsAt w2 v2 xs) := (flsAt_of_own hbx.own).1
      obtain ⟨q2, c2, rfl⟩ := own_slice hbx.own
      generalize xs.length = N at HFL k0
      clear hbx
      go_wp2
      go_ret2
      exact ⟨_, _, rfl, HFL.out, rfl, hB2⟩
    · simp only [ne_eq, hE, not_false_eq_true, true_and, false_and, false_or, if_true] at hea ⊢
      go_enter Tryz.func15, Tryz.ntmps15
      go_wp2_with fail
      refine hln.mono ?_
      rintro e w1 ⟨rfl, rfl⟩
      clear hln
      go_wp2_with fail
      refine hea.mono ?_
      rintro e w2 ⟨hb2, fb, rfl, k0, k1⟩
      clear hea
      have hB2 := hal.trans hb2
      go_wp2
      go_ret2
      exact ⟨_, _, rfl, Or.inl ⟨none, 0, rfl, fun _ => rfl, rfl⟩, ⟨hE, fb, rfl, k0, k1⟩, hB2⟩
end Go.Proofs.YtpiagofhgalklacGreatDoor
