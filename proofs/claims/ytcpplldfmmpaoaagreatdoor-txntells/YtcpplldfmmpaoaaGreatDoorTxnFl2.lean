/-
  The contract of (*Txn).files.
-/
import Derived.Test.YtcpplldfmmpaoaaGreatDoorTxnFls
namespace Go.Proofs.YtcpplldfmmpaoaaGreatDoor
open Go.RowKit Go.Extern.Stop Go.Stop Go.Extern Go.Sort Go.Shelf Go.Lib

theorem FlAt.toSeq {W : World} {b : Nat} {p q : ByteArray} {n lo hi s x : Int} (h : FlAt W b (p, q, n, lo, hi, s)) : FlAt (W.setCell ⟨b, 5, none⟩ (.int .i64 x)) b (p, q, n, lo, hi, x) := by
  unfold FlAt at *
  rw [heap_setCell_same _ _ _ _ _ _ h]
  rfl

theorem add_run {T : TypeId} {B : Nat} {W0 W W9 : World} {tb : Nat} {vb va vr : Value} {t : Tx} {FP : Nat → Prop} (h1 : T ≠ 37) (h2 : T ≠ 9) (hin : TxIn T B W0 tb vb va vr t) (hfp : ∀ k, fpT tb va vr k → FP k) (hvb : ∀ k, vb.ownBlock = some k → (FP k ∨ k < B) ∧ k < W0.heap.size) (hFP : ∀ k, FP k → B ≤ k ∧ k < W0.heap.size) (hB : B ≤ W0.heap.size)
    (hW : Below W0.heap.size W0 W9) (f : Fl) (hW9 : W9 = W.alloc (.cells #[.string f.1, .string f.2.1, .int .i64 f.2.2.1, .int .i64 f.2.2.2.1, .int .i64 f.2.2.2.2.1, .int .i64 f.2.2.2.2.2] 37)) (hlen : t.2.1.length ≤ 1000) :
    ∃ va' W2, (Builtin.append_ #[22, 22] 22 #[va, .slice (some ⟨W.heap.size, 0, none⟩) 1 1]).run Tryz.prog W9 = .ok va' W2 ∧ (∃ q n c, va' = .slice q n c) ∧ TxC T W2 tb t.1 vb va vr ∧ TxPost T B W0 (.pointer (some ⟨tb, 0, none⟩)) FP (t.1, t.2.1 ++ [f], t.2.2) (W2.setCell ⟨tb, 7, none⟩ va') := by
  obtain ⟨i0, hi, hz, hs, hby⟩ := Tryz.fileInfo
  have hin9 := hin.below hW
  have hB9 : B ≤ W9.heap.size := Nat.le_trans hB hW.size
  have hsrc : Src W9 (some ⟨W.heap.size, 0, none⟩) 1 1 (encF f) := by
    rw [hW9]
    exact src_new W (encF f) 37 1 1
  obtain ⟨va', W2, hr, ho, hg, hv⟩ := run_append_src (P := Tryz.prog) W9 B 22 22 37 i0 (.agg #[.string ⟨#[]⟩, .string ⟨#[]⟩, .int .i64 0, .int .i64 0, .int .i64 0, .int .i64 0]) 6 64 Tryz.underlying22 hi hz hs hby rfl (by decide) va t.2.1.length (flatF t.2.1) hin9.adds (some ⟨W.heap.size, 0, none⟩) 1 1 (encF f) rfl hsrc (encF_one f) (by unfold maxLen; omega) (by omega) hB9
  have ho' : W2.ownsRow B 37 6 va' (t.2.1 ++ [f]).length (flatF (t.2.1 ++ [f])) := by
    rw [List.length_append, flatF_append]
    simpa [flatF] using ho
  obtain ⟨a1, a2, a3⟩ := hin9.added h1 h2 ho' hg hv (fun k hk => Nat.lt_of_lt_of_le (hvb k hk).2 hW.size)
  refine ⟨va', W2, hr, ?_, hin9.cells.but (But.grown hg) (hin9.apart h1 h2).1, tx_post hfp hvb hFP hW a1 a2 a3⟩
  obtain ⟨q, c, e⟩ := own_form ho
  exact ⟨q, _, c, e⟩

theorem rem_run {T : TypeId} {B : Nat} {W0 W W9 : World} {tb : Nat} {vb va vr : Value} {t : Tx} {FP : Nat → Prop} (h1 : T ≠ 37) (h2 : T ≠ 9) (hin : TxIn T B W0 tb vb va vr t) (hfp : ∀ k, fpT tb va vr k → FP k) (hvb : ∀ k, vb.ownBlock = some k → (FP k ∨ k < B) ∧ k < W0.heap.size) (hFP : ∀ k, FP k → B ≤ k ∧ k < W0.heap.size) (hB : B ≤ W0.heap.size)
    (hW : Below W0.heap.size W0 W9) (p : ByteArray) (hW9 : W9 = W.alloc (.cells #[.string p] 9)) (hlen : t.2.2.length ≤ 1000) :
    ∃ vr' W2, (Builtin.append_ #[35, 35] 35 #[vr, .slice (some ⟨W.heap.size, 0, none⟩) 1 1]).run Tryz.prog W9 = .ok vr' W2 ∧ (∃ q n c, vr' = .slice q n c) ∧ TxC T W2 tb t.1 vb va vr ∧ TxPost T B W0 (.pointer (some ⟨tb, 0, none⟩)) FP (t.1, t.2.1, t.2.2 ++ [p]) (W2.setCell ⟨tb, 8, none⟩ vr') := by
  obtain ⟨i0, hi, hz, hs, hby⟩ := Tryz.strInfo
  have hin9 := hin.below hW
  have hB9 : B ≤ W9.heap.size := Nat.le_trans hB hW.size
  have hsrc : Src W9 (some ⟨W.heap.size, 0, none⟩) 1 1 [.string p] := by
    rw [hW9]
    exact src_new W [.string p] 9 1 1
  obtain ⟨vr', W2, hr, ho, hg, hv⟩ := run_append_src (P := Tryz.prog) W9 B 35 35 9 i0 (.string ⟨#[]⟩) 1 16 Tryz.underlying35 hi hz hs hby rfl (by decide) vr t.2.2.length (t.2.2.map Value.string) hin9.rems (some ⟨W.heap.size, 0, none⟩) 1 1 [.string p] rfl hsrc (by intro u hu; rw [List.mem_singleton] at hu; subst hu; rfl) (by unfold maxLen; omega) (by omega) hB9
  have ho' : W2.ownsRow B 9 1 vr' (t.2.2 ++ [p]).length ((t.2.2 ++ [p]).map Value.string) := by
    rw [List.length_append, List.map_append]
    simpa using ho
  obtain ⟨a1, a2, a3⟩ := hin9.removed h1 h2 ho' hg hv (fun k hk => Nat.lt_of_lt_of_le (hvb k hk).2 hW.size)
  refine ⟨vr', W2, hr, ?_, hin9.cells.but (But.grown hg) (hin9.apart h1 h2).2.1, tx_post hfp hvb hFP hW a1 a2 a3⟩
  obtain ⟨q, c, e⟩ := own_form ho
  exact ⟨q, _, c, e⟩

set_option maxRecDepth 100000 in
set_option maxHeartbeats 8000000 in
theorem add_any (B : Nat) (v : Value) (FP : Nat → Prop) (t : Tx) (f : Fl) (w : World) (a : Nat → Addr) (h : EnvX w a) (ht : TxHas 66 B w v FP t) (hB : B ≤ w.heap.size) (hlen : t.2.1.length ≤ 1000) (h1 : f.1.size ≤ 100000) (h2 : f.2.1.size ≤ 100000) :
    Calls Tryz.prog 10 #[v, flV f] w fun e w' => e = .returned (errV a (tAddE t f)) ∧ TxPost 66 B w v FP (tAdd t f) w' := by
  have HSAME : Hid (∀ w', Below w.heap.size w w' → TxPost 66 B w v FP t w') := fun w' hb => tx_same ht hb
  obtain ⟨tb, vb, va, vr, rfl, hin, hfp, hvb, hFP⟩ := ht
  have hal : Below w.heap.size w (w.alloc (.cells #[.string f.1, .string f.2.1, .int .i64 f.2.2.1, .int .i64 f.2.2.2.1, .int .i64 f.2.2.2.2.1, .int .i64 f.2.2.2.2.2] 37)) := (Below.refl _ _).alloc (Nat.le_refl _) _
  have hfl := FlAt.new w f
  have hck := fun W (hb : Below w.heap.size w W) => fcheck_any (atSeq f 1) W a (h.list.file.below hb) h1 h2
  have hfd := fun W (hb : Below w.heap.size w W) => find_any va t.2.1 f.1 W ((flsAt_of_own hin.adds).1.below hb) (by omega)
  have HRUN : Hid (∀ (W W9 : World), Below w.heap.size w W9 → W9 = W.alloc (.cells #[.string (atSeq f 1).1, .string (atSeq f 1).2.1, .int .i64 (atSeq f 1).2.2.1, .int .i64 (atSeq f 1).2.2.2.1, .int .i64 (atSeq f 1).2.2.2.2.1, .int .i64 (atSeq f 1).2.2.2.2.2] 37) → ∃ va' W2, (Builtin.append_ #[22, 22] 22 #[va, .slice (some ⟨W.heap.size, 0, none⟩) 1 1]).run Tryz.prog W9 = .ok va' W2 ∧ (∃ q n c, va' = .slice q n c) ∧ TxC 66 W2 tb t.1 vb va vr ∧ TxPost 66 B w (.pointer (some ⟨tb, 0, none⟩)) FP (t.1, t.2.1 ++ [atSeq f 1], t.2.2) (W2.setCell ⟨tb, 7, none⟩ va')) :=
    fun W W9 hW9 e => add_run (by decide) (by decide) hin hfp hvb hFP hB hW9 (atSeq f 1) e hlen
  have HTC : Hid (∀ W, Below w.heap.size w W → TxC 66 W tb t.1 vb va vr) := fun W hb => (hin.below hb).cells
  obtain ⟨qa, ca, hva⟩ := own_form hin.adds
  have HENV : Hid (∀ W, Below w.heap.size w W → EnvX W a) := fun W hb => h.below hb
  have HFH : Hid (decide (0 ≤ findF t.2.1 f.1) = hasP t.2.1 f.1) := findF_has _ _
  have HTA : Hid (tAddE t f = if fileE (atSeq f 1) ≠ 0 then fileE (atSeq f 1) else if hasP t.2.1 f.1 = true then 7 else 0) := rfl
  have HTB : Hid (tAdd t f = if tAddE t f = 0 then (t.1, t.2.1 ++ [atSeq f 1], t.2.2) else t) := rfl
  generalize tAdd t f = TA at HTB ⊢
  generalize tAddE t f = TE at HTA HTB ⊢
  clear hin hfp hvb hFP h hlen
  unfold flV at hck ⊢
  unfold atSeq at hck HRUN HTA HTB
  obtain ⟨fp, fq, fn, flo, fhi, fseq⟩ := f
  dsimp only at hck hfd HRUN hal hfl h1 h2 HFH HTA HTB ⊢
  generalize hFE : fileE (fp, fq, fn, flo, fhi, 1) = FE at hck HTA
  generalize hfi : findF t.2.1 fp = FI at hfd HFH
  generalize hhp : hasP t.2.1 fp = HP at HFH HTA
  clear hFE hfi hhp
  generalize t.2.1.length = LA at hva
  subst hva
  go_enter Tryz.func10, Tryz.ntmps10
  have fz := (hfl.cells).2.2.2.2.2.2
  have q5 := (hfl.cells).2.2.2.2.2.1
  dsimp only at q5
  have hf1 := hfl.toSeq (x := 1)
  have hB1 : Below w.heap.size w ((w.alloc (.cells #[.string fp, .string fq, .int .i64 fn, .int .i64 flo, .int .i64 fhi, .int .i64 fseq] 37)).setCell ⟨w.heap.size, 5, none⟩ (.int .i64 1)) := hal.setCell (Nat.le_refl _) _
  clear hfl
  go_upto_region 3 with fail
  generalize w.alloc (.cells #[.string fp, .string fq, .int .i64 fn, .int .i64 flo, .int .i64 fhi, .int .i64 fseq] 37) = WA at *
  go_upto_region 4 with fail
  clear fz q5 hal
  generalize WA.setCell ⟨w.heap.size, 5, none⟩ (.int .i64 1) = W1 at *
  have hck1 := hck W1 hB1
  clear hck
  obtain ⟨r0, r1, r2, r3, r4, r5, -⟩ := hf1.cells
  dsimp only at r0 r1 r2 r3 r4 r5
  go_wp2_with fail
  refine hck1.mono ?_
  rintro e w2 ⟨rfl, hb2⟩
  clear hck1 r0 r1 r2 r3 r4 r5
  have hB2 : Below w.heap.size w w2 := hB1.trans (hb2.mono hB1.size)
  have hf2 := hf1.below hb2
  clear hf1 hb2 hB1
  by_cases hE : FE = 0
  case neg =>
    have HTE : Hid (TE = FE) := by show _ = _; rw [HTA.out, if_pos hE]
    obtain ⟨n, rfl⟩ : ∃ n, FE = n + 1 := ⟨FE - 1, by omega⟩
    have HT2 : Hid (TA = t) := by show _ = _; rw [HTB.out, HTE.out, if_neg (by omega)]
    simp only [errV]
    clear hE
    go_wp2
    go_ret
    refine ⟨by rw [HTE.out]; rfl, ?_⟩
    rw [HT2.out]
    exact HSAME.out _ hB2
  case pos =>
  subst hE
  have HTA2 : Hid (TE = if HP = true then 7 else 0) := by show _ = _; rw [HTA.out, if_neg (by simp)]
  clear HTA
  simp only [errV]
  have htc := (HTC.out w2 hB2).cells.2.2.1
  have r0 := hf2.cells.1
  dsimp only at r0
  have hbs : Below w2.heap.size w2 w2 := Below.refl _ _
  go_upto_region 7 with fail
  go_region_held3 (fun w' => w'.cell? ⟨tb, 7, none⟩ = some (.slice qa LA ca) ∧ w'.cell? ⟨w.heap.size, 0, none⟩ = some (.string fp) ∧ Below w2.heap.size w2 w')
    (first
      | (go_split_ands; with_reducible exact ⟨below_keep hbX (by assumption), below_keep hbX (by assumption), Below.trans (by assumption) (hbX.mono (Below.size (by assumption)))⟩)
      | (go_split_ands; exact ⟨by go_keep, by go_keep, by assumption⟩)
      | (go_split_ands; exact ⟨by go_keep, by go_keep, Below.drew (by assumption)⟩))
    (first
      | (go_at_call 29; with_reducible refine (hfd _ (by go_split_ands; exact hB2.trans (Below.mono (by assumption) hB2.size))).mono ?_; rintro e wX ⟨rfl, hbX⟩))
  go_split_ands
  have hbX2 : Below w2.heap.size w2 wX := by assumption
  have hBX : Below w.heap.size w wX := hB2.trans (hbX2.mono hB2.size)
  have hfX := hf2.below hbX2
  clear hfd hbs htc r0
  cases HP with
  | true =>
    have HTE : Hid (TE = 7) := by show _ = _; rw [HTA2.out, if_pos rfl]
    have HT2 : Hid (TA = t) := by show _ = _; rw [HTB.out, HTE.out, if_neg (by omega)]
    have hge : (0 : Int) ≤ FI := of_decide_eq_true HFH.out
    have et := (HENV.out wX hBX).list.exist
    clear hf2 hfX
    go_wp2
    go_ret
    refine ⟨by rw [HTE.out]; rfl, ?_⟩
    rw [HT2.out]
    exact HSAME.out _ hBX
  | false =>
    have HTE : Hid (TE = 0) := by show _ = _; rw [HTA2.out, if_neg (by simp)]
    have HT2 : Hid (TA = (t.1, t.2.1 ++ [(fp, fq, fn, flo, fhi, 1)], t.2.2)) := by show _ = _; rw [HTB.out, HTE.out, if_pos rfl]
    have hge : ¬ (0 : Int) ≤ FI := of_decide_eq_false HFH.out
    go_upto_region 9 with fail
    obtain ⟨va', W2, hr, ⟨q', n', c', rfl⟩, htc2, hpost⟩ := HRUN.out wX.drew (wX.drew.alloc (.cells #[.string fp, .string fq, .int .i64 fn, .int .i64 flo, .int .i64 fhi, .int .i64 1] 37)) (hBX.drew.alloc hBX.drew.size _) rfl
    have HPOST : Hid (TxPost 66 B w (.pointer (some ⟨tb, 0, none⟩)) FP (t.1, t.2.1 ++ [(fp, fq, fn, flo, fhi, 1)], t.2.2) (W2.setCell ⟨tb, 7, none⟩ (.slice q' n' c'))) := hpost
    have hbd : Below wX.heap.size wX wX.drew := (Below.refl _ _).drew
    have hba : Below wX.heap.size wX (wX.alloc (.cells #[.string fp, .string fq, .int .i64 fn, .int .i64 flo, .int .i64 fhi, .int .i64 1] 37)) := (Below.refl _ _).alloc (Nat.le_refl _) _
    have hr2 : (Builtin.append_ #[22, 22] 22 #[.slice qa LA ca, .slice (some ⟨wX.heap.size, 0, none⟩) 1 1]).run Tryz.prog (wX.alloc (.cells #[.string fp, .string fq, .int .i64 fn, .int .i64 flo, .int .i64 fhi, .int .i64 1] 37)).drew = .ok (.slice q' n' c') W2 := hr
    have htcX := (HTC.out wX hBX).cells.2.2.1
    have k1 := below_keep hbd htcX
    have k2 := below_keep hba htcX
    obtain ⟨r0, r1, r2, r3, r4, r5, -⟩ := hfX.cells
    dsimp only at r0 r1 r2 r3 r4 r5
    have s0 := below_keep hbd r0
    have s1 := below_keep hbd r1
    have s2 := below_keep hbd r2
    have s3 := below_keep hbd r3
    have s4 := below_keep hbd r4
    have s5 := below_keep hbd r5
    have y0 := htc2.cells.2.2.1
    have y1 := htc2.fz
    clear hpost hf2 hfX htc2 hbd hba HRUN HSAME HTB hr
    go_region_law (refine step_append_ran (by rfl) _ _ _ (by rfl) _ _ _ (by rfl) (by rfl) hr2 ?_)
    all_goals go_wp2
    all_goals go_ret
    all_goals
      refine ⟨by rw [HTE.out]; rfl, ?_⟩
      rw [HT2.out]
      exact HPOST.out
end Go.Proofs.YtcpplldfmmpaoaaGreatDoor
namespace Go.Proofs.YtcpplldfmmpaoaaGreatDoor
open Go.RowKit Go.Extern.Stop Go.Stop Go.Extern Go.Sort Go.Shelf Go.Lib

theorem tNew_succ (t : Tx) (now : Sn) (n : Nat) (h : n < t.2.1.length) : (tNew t now).take (n + 1) = (tNew t now).take n ++ [atSeq t.2.1[n] (tSeq t now t.2.1[n])] := by
  have h' : n < (tNew t now).length := by simpa [tNew] using h
  rw [List.take_succ_eq_append_getElem h']
  simp [tNew]

set_option maxRecDepth 100000 in
set_option maxHeartbeats 8000000 in
theorem files_any (B tb : Nat) (vb va vr v : Value) (t : Tx) (now : Sn) (w : World) (a : Nat → Addr) (h : EnvX w a) (hin : TxIn 66 B w tb vb va vr t) (hx : FlsAt w v now.2.2.2.2.2.2) (hok : TxOk t) (hn : (snapE now).1 = 0) (hno : tThere t now = false) (hla : t.2.1.length ≤ 1000) (hlr : t.2.2.length ≤ 1000) :
    Calls Tryz.prog 33 #[.pointer (some ⟨tb, 0, none⟩), v, .int .i64 (now.2.2.1 + 1)] w fun e w' => ∃ v', e = .returned v' ∧ FlsAt w' v' (tFiles t now) ∧ Below w.heap.size w w' := by
  obtain ⟨i0, hi0, hz0, hs0, hby0⟩ := Tryz.fileInfo
  have eg : ∀ args w, (callFunc 61 args).run Tryz.prog w = .ok (.enter 61 args) w := enters_of Tryz.func61 (by kernel_rfl) rfl
  have hal : Below w.heap.size w (w.alloc (.cells #[.pointer (some ⟨tb, 0, none⟩)] 29)) := (Below.refl _ _).alloc (Nat.le_refl _) _
  have hxb : (w.alloc (.cells #[.pointer (some ⟨tb, 0, none⟩)] 29)).cell? ⟨w.heap.size, 0, none⟩ = some (.pointer (some ⟨tb, 0, none⟩)) := by
    rw [cell_of_row _ _ _ _ _ _ (heap_alloc_new _ _)]; rfl
  have h60 : now.2.2.2.2.2.2.length ≤ 60 := (snap_rises hn).1
  have hcl := cloneF_any v now.2.2.2.2.2.2 (w.alloc (.cells #[.pointer (some ⟨tb, 0, none⟩)] 29)) (hx.below hal) (by omega)
  obtain ⟨ap1, ap2, -⟩ := tAll_apart hok hn hno
  have HAP : Hid ((∀ f ∈ tLeft t now ++ tNew t now, pathO f.1.data.toList ≠ none) ∧ (tLeft t now ++ tNew t now).Pairwise (fun f g => fk f ≠ fk g)) := ⟨ap1, ap2⟩
  have HSRT : Hid (∀ ys : List Fl, ys.Perm (tLeft t now ++ tNew t now) → UpF ys → ys = tFiles t now) := fun ys h1 h2 => tFiles_sorted hok hn hno h1 h2
  have HLL : Hid ((tLeft t now).length ≤ 60) := Nat.le_trans (List.length_filter_le _ _) h60
  have HNL : Hid ((tNew t now).length = t.2.1.length) := by show _ = _; simp [tNew]
  have HAD : Hid (∀ W, Below w.heap.size w W → FlsAt W va t.2.1) := fun W hb => (flsAt_of_own hin.adds).1.below hb
  have HIN : Hid (∀ W, Below w.heap.size w W → TxIn 66 B W tb vb va vr t) := fun W hb => hin.below hb
  have HENV : Hid (∀ W, Below w.heap.size w W → EnvN W a) := fun W hb => (h.below hb).list.file.env
  have HFE : Hid (∀ f ∈ t.2.1, fileE f = 0) := hok.adds
  have HSU : Hid (∀ n (hh : n < t.2.1.length), (tNew t now).take (n + 1) = (tNew t now).take n ++ [atSeq t.2.1[n] (tSeq t now t.2.1[n])]) := fun n hh => tNew_succ t now n hh
  have HTL : Hid ((now.2.2.2.2.2.2.filter fun f => !inT t.2.2 f.1) = tLeft t now) := rfl
  obtain ⟨q, c, hv⟩ := hx.form
  obtain ⟨qa, ca, hva⟩ := own_form hin.adds
  obtain ⟨LA, hLA⟩ : ∃ L, t.2.1.length = L := ⟨_, rfl⟩
  have HLA : Hid (t.2.1.length = LA) := hLA
  rw [hLA] at hva hla
  have hseq : Hid (∀ W, Below w.heap.size w W → ∀ f, fileE f = 0 → Calls Tryz.prog 62 #[.pointer (some ⟨tb, 0, none⟩), flV f, .int .i64 (now.2.2.1 + 1)] W fun e w' => e = .returned (.int .i64 (tSeq t now f)) ∧ Below W.heap.size W w') := fun W hb f hf => seqOf_any B tb vb va vr t now f W a (HENV.out W hb) (HIN.out W hb) hf
  generalize hTS : tFiles t now = TF at HSRT ⊢
  generalize hNS : now.2.2.1 + 1 = NS at hseq ⊢
  subst hv hva
  clear hin hx hok hn hno h ap1 ap2 hLA hTS hNS
  go_enter Tryz.func33, Tryz.ntmps33
  go_upto_region 1 with fail
  generalize w.alloc (.cells #[.pointer (some ⟨tb, 0, none⟩)] 29) = W0 at *
  have hdel := fun (v1 : Value) (W : World) (hb : Below W0.heap.size W0 W) (ho : W.ownsRow W0.heap.size 37 6 v1 now.2.2.2.2.2.2.length (flatF now.2.2.2.2.2.2)) => deleteG_any 61 #[.pointer (some ⟨w.heap.size, 0, none⟩)] (fun f => inT t.2.2 f.1) v1 now.2.2.2.2.2.2 W0 W hb ho (by omega) eg (fun f _ W' hW' => files1_any B tb w.heap.size vb _ vr t f W' (HIN.out W' (hal.trans (hW'.mono hal.size))) hlr (below_keep hW' hxb))
  go_wp2_with fail
  refine hcl.mono ?_
  rintro e w1 ⟨v1, rfl, ho1, hb1⟩
  have hd1 := hdel v1 w1 hb1 ho1
  clear hdel hcl ho1
  go_wp2_with fail
  refine hd1.mono ?_
  rintro e w2 ⟨v2, rfl, ho2, hb2⟩
  clear hd1 hb1
  rw [HTL.out] at ho2
  have HO2 : Hid (w2.ownsRow W0.heap.size 37 6 v2 (tLeft t now ++ (tNew t now).take 0).length (flatF (tLeft t now ++ (tNew t now).take 0))) := by
    show World.ownsRow _ _ _ _ _ _ _
    simpa using ho2
  have hB2 : Below w.heap.size w w2 := hal.trans (hb2.mono hal.size)
  have kx := below_keep hb2 hxb
  have ka := (HIN.out w2 hB2).cells.cells.2.2.1
  have HB2 : Hid (Below W0.heap.size W0 w2) := hb2
  have HAL : Hid (Below w.heap.size w W0) := hal
  have HXB : Hid (∀ W, Below W0.heap.size W0 W → W.cell? ⟨w.heap.size, 0, none⟩ = some (.pointer (some ⟨tb, 0, none⟩))) := fun W hb => below_keep hb hxb
  clear ho2 hb2 hal hxb eg
  go_wp2_with fail
  clear kx ka
  go_loopw [7, 9, 19] (fun s7 _ k wr => ∃ n : Nat, n ≤ LA ∧ k = .int .i64 n ∧ Below W0.heap.size W0 wr ∧ wr.ownsRow W0.heap.size 37 6 s7 (tLeft t now ++ (tNew t now).take n).length (flatF (tLeft t now ++ (tNew t now).take n))) (fun _ _ k _ => LA - (intOf k).toNat)
  case atStart => exact ⟨0, by omega, rfl, HB2.out, HO2.out⟩
  case round =>
    obtain ⟨n, hn, rfl, hb, hown⟩ := hrel
    have OW : Hid (wr.ownsRow W0.heap.size 37 6 u7 (tLeft t now ++ (tNew t now).take n).length (flatF (tLeft t now ++ (tNew t now).take n))) := hown
    have HBR : Hid (Below W0.heap.size W0 wr) := hb
    have HBW : Hid (Below w.heap.size w wr) := HAL.out.trans (hb.mono HAL.out.size)
    clear hown
    by_cases hlt : n < LA
    · have hltx : n < t.2.1.length := by rw [HLA.out]; exact hlt
      obtain ⟨b, o, hq, hc⟩ := (HAD.out wr HBW.out).cells (fun e => by rw [e] at hltx; simp at hltx)
      subst hq
      obtain ⟨c0, c1, c2, c3, c4, c5⟩ := hc n hltx
      have HKL : Hid ((tLeft t now ++ (tNew t now).take n).length ≤ 1100) := by
        show _ ≤ _
        have h1 := HLL.out
        have h2 := HNL.out
        rw [List.length_append, List.length_take]
        omega
      have hke := HSU.out n hltx
      have hfe := HFE.out t.2.1[n] (List.getElem_mem _)
      have hfb := boxW_at wr t.2.1[n]
      have hbb := boxW_below wr t.2.1[n]
      unfold boxW at hfb hbb
      have hsq := hseq.out _ (HBW.out.trans (hbb.mono HBW.out.size)) t.2.1[n] hfe
      generalize t.2.1[n] = f at c0 c1 c2 c3 c4 c5 hke hfb hbb hsq
      generalize tSeq t now f = SQ at hke hsq
      unfold atSeq at hke
      unfold flV at hsq
      obtain ⟨fp, fq, fn, flo, fhi, fseq⟩ := f
      dsimp only at c0 c1 c2 c3 c4 c5 hke hfb hbb hsq
      have hiL : (n : Int) < (LA : Int) := by omega
      have hi0' : (0 : Int) ≤ (n : Int) := by omega
      clear hc hltx hfe
      have HKE : Hid ((tNew t now).take (n + 1) = (tNew t now).take n ++ [(fp, fq, fn, flo, fhi, SQ)]) := hke
      clear hke
      go_upto_region 5 with fail
      clear c0 c1 c2 c3 c4 c5
      generalize wr.alloc (.cells #[.string fp, .string fq, .int .i64 fn, .int .i64 flo, .int .i64 fhi, .int .i64 fseq] 37) = W5 at *
      have kx := HXB.out W5 (HBR.out.trans (hbb.mono HBR.out.size))
      obtain ⟨r0, r1, r2, r3, r4, r5, -⟩ := hfb.cells
      dsimp only at r0 r1 r2 r3 r4 r5
      go_wp2_with fail
      refine hsq.mono ?_
      rintro e w6 ⟨rfl, hb6⟩
      clear hsq kx r0 r1 r2 r3 r4 r5
      have hf6 := hfb.below hb6
      have r5 := hf6.cells.2.2.2.2.2.1
      have r6 := hf6.cells.2.2.2.2.2.2
      dsimp only at r5
      have hB6 : Below wr.heap.size wr w6 := hbb.trans (hb6.mono hbb.size)
      have hf7 := hf6.toSeq (x := SQ)
      have hB7 : Below wr.heap.size wr (w6.setCell ⟨wr.heap.size, 5, none⟩ (.int .i64 SQ)) := hB6.setCell (Nat.le_refl _) _
      clear hfb hb6 hf6 hB6 hbb
      go_upto_region 6 with fail
      clear r5 r6
      generalize w6.setCell ⟨wr.heap.size, 5, none⟩ (.int .i64 SQ) = W7 at *
      obtain ⟨r0, r1, r2, r3, r4, r5, -⟩ := hf7.cells
      dsimp only at r0 r1 r2 r3 r4 r5
      have hal7 : Below W7.heap.size W7 (W7.alloc (.cells #[.string fp, .string fq, .int .i64 fn, .int .i64 flo, .int .i64 fhi, .int .i64 SQ] 37)) := (Below.refl _ _).alloc (Nat.le_refl _) _
      have hbA : Below W0.heap.size W0 (W7.alloc (.cells #[.string fp, .string fq, .int .i64 fn, .int .i64 flo, .int .i64 fhi, .int .i64 SQ] 37)) := (HBR.out.trans (hB7.mono HBR.out.size)).alloc (Nat.le_trans HBR.out.size hB7.size) _
      have hB7A : Below wr.heap.size wr (W7.alloc (.cells #[.string fp, .string fq, .int .i64 fn, .int .i64 flo, .int .i64 fhi, .int .i64 SQ] 37)) := hB7.alloc hB7.size _
      go_wp2_with (at_builtin; refine wpList_append_own _ rfl _ _ 22 rfl W0.heap.size 37 i0 (.agg #[.string ⟨#[]⟩, .string ⟨#[]⟩, .int .i64 0, .int .i64 0, .int .i64 0, .int .i64 0]) 6 64 Tryz.underlying22 hi0 hz0 hs0 hby0 rfl (by decide) u7 (tLeft t now ++ (tNew t now).take n).length (flatF (tLeft t now ++ (tNew t now).take n)) rfl ?qc0 ⟨W7.heap.size, 0, none⟩ 1 1 (encF (fp, fq, fn, flo, fhi, SQ)) rfl ?qc1 ?qc2 ?qc3 ?qc4 ?qc5 ?qc6 ?_)
      case qc0 => exact own_below OW.out hB7A
      case qc1 => rfl
      case qc2 => exact cells6 W7 (fp, fq, fn, flo, fhi, SQ)
      case qc3 => exact encF_one _
      case qc4 => have := HKL.out; unfold maxLen; omega
      case qc5 => have := HKL.out; omega
      case qc6 => exact hbA.size
      intro v' w8 hown8 hgrow hnil
      have hbC : Below W0.heap.size W0 w8 := hbA.grown hgrow hbA.size (fun k hk => (own_blk OW.out hk).1)
      have OW8 : Hid (w8.ownsRow W0.heap.size 37 6 v' ((tLeft t now ++ (tNew t now).take n).length + 1) (flatF (tLeft t now ++ (tNew t now).take n) ++ encF (fp, fq, fn, flo, fhi, SQ))) := by
        show World.ownsRow _ _ _ _ _ _ _
        rw [List.length_append, List.length_take]
        exact hown8
      clear hown8 hnil hgrow
      go_wp2
      go_roundw
      case rel => exact ⟨n + 1, by omega, by go_num, hbC, by rw [HKE.out, ← List.append_assoc, List.length_append, flatF_append]; simpa [flatF] using OW8.out⟩
      case measure => simp [intOf]; omega
    · obtain rfl : n = LA := by omega
      have HFO : Hid (wr.ownsRow W0.heap.size 37 6 u7 (tLeft t now ++ tNew t now).length (flatF (tLeft t now ++ tNew t now))) := by
        have h' := OW.out
        have e : (tNew t now).take n = tNew t now := List.take_of_length_le (by rw [HNL.out, HLA.out]; exact Nat.le_refl _)
        rw [e] at h'
        exact h'
      have hso := sortF_any u7 (tLeft t now ++ tNew t now) W0 wr a (HENV.out W0 HAL.out) HBR.out HFO.out (by
        have h1 := HLL.out
        have h2 := HNL.out
        have h3 := HLA.out
        rw [List.length_append]
        omega) HAP.out.1 HAP.out.2
      go_wp2_with fail
      refine hso.mono ?_
      rintro e w9 ⟨rfl, ys, hp, hu, hf9, hb9⟩
      clear hso
      have HF9 : Hid (FlsAt w9 u7 TF) := by
        show FlsAt _ _ _
        rw [← HSRT.out ys hp hu]
        exact hf9
      clear hp hu hf9
      go_wp2
      go_ret
      exact ⟨_, rfl, HF9.out, HAL.out.trans (hb9.mono HAL.out.size)⟩
end Go.Proofs.YtcpplldfmmpaoaaGreatDoor
