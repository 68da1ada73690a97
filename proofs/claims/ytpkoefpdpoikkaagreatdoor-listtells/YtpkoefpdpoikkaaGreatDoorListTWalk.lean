/-
  The walk of ListTells: whatever list, file, text and keys: true; what was there is as it was.
-/
import Derived.Test.YtpkoefpdpoikkaaGreatDoorListOrd
import Derived.Deep.RegionWith
namespace Go.Proofs.YtpkoefpdpoikkaaGreatDoor
open Go.RowKit Go.Extern.Stop Go.Stop Go.Extern Go.Sort Go.Shelf Go.Lib

theorem readFl_le (l : List UInt8) : (readF l).2 ≤ 12 := by
  have key : ∀ f : Fl, (chkF f).2 ≤ 12 := fun f => by
    unfold chkF
    have := fileE_le f
    split
    · exact Nat.zero_le _
    · dsimp only; omega
  unfold readF
  split
  · split
    · exact key _
    · exact (by decide : (1 : Nat) ≤ 12)
  · exact (by decide : (1 : Nat) ≤ 12)

theorem readL_le (s : List UInt8) : (readL s).2.1 ≤ 12 := by
  rw [readL_def]
  have h := rowsG_le fileK readFl_le (pieces 10 s) 0 []
  split
  · exact (by decide : (8 : Nat) ≤ 12)
  · split
    · exact h
    · exact Nat.zero_le _

theorem readL_len (s : List UInt8) : (readL s).1.length ≤ s.length := by
  rw [readL_def]
  split
  · exact Nat.zero_le _
  · split
    · exact Nat.zero_le _
    · rename_i h
      have hp := pieces_count 10 s
      have hne : pieces 10 s ≠ [] := by intro e; rw [e] at hp; simp at hp
      have := rowsG_len fileK (pieces 10 s) 0 [] hne (by simpa using h)
      have hc := List.count_le_length (a := (10 : UInt8)) (l := s)
      simp only [List.length_nil] at this
      show (rowsG fileK (pieces 10 s) 0 []).1.length ≤ _
      omega

theorem placeL_len (fs : List Fl) (f : Fl) : (placeL fs f).length = fs.length + 1 := by
  have h := congrArg List.length (List.takeWhile_append_dropWhile (p := fun g => decide (fk g < fk f)) (l := fs))
  rw [List.length_append] at h
  unfold placeL
  rw [List.length_append, List.length_cons]
  omega

theorem lstG_vals : ∀ (fs : List Fl) (prev : Int) (i : Nat), (lstG prev fs i).1 ≤ 5 ∨ (lstG prev fs i).1 = 9
  | [], _, _ => by simp [lstG]
  | f :: r, prev, i => by
    unfold lstG
    have := fileE_le f
    split
    · exact Or.inl this
    · split
      · exact Or.inr rfl
      · exact lstG_vals r _ _

theorem listE_vals (fs : List Fl) : (listE fs).1 ≤ 5 ∨ (listE fs).1 = 8 ∨ (listE fs).1 = 9 := by
  unfold listE
  split
  · exact Or.inr (Or.inl rfl)
  · rcases lstG_vals fs 0 0 with h | h
    · exact Or.inl h
    · exact Or.inr (Or.inr h)

theorem addL_len (fs : List Fl) (f : Fl) : (addL fs f).length ≤ fs.length + 1 := by
  unfold addL
  split
  · rw [placeL_len]; exact Nat.le_refl _
  · exact Nat.zero_le _

theorem remL_len (fs : List Fl) (p : ByteArray) : (remL fs p).length ≤ fs.length := by
  unfold remL
  split
  · exact List.length_filter_le _ _
  · exact Nat.zero_le _

set_option maxRecDepth 100000 in
set_option maxHeartbeats 16000000 in
theorem listTells_any (q : Option Addr) (cap : Nat) (fs : List Fl) (f : Fl) (s : ByteArray) (lo hi : Int) (w : World) (a : Nat → Addr) (EL : World → Prop) (R : ListR a EL) (h : EL w) (hE : Errs w a) (hx : FlsAt w (.slice q fs.length cap) fs) (hl : fs.length ≤ maxLen) (hsz : ∀ g ∈ fs, g.1.size ≤ maxLen ∧ g.2.1.size ≤ maxLen) (hf : f.1.size ≤ maxLen ∧ f.2.1.size ≤ maxLen) (hs : s.size ≤ maxLen) :
    Calls Tryz.prog 6 #[.slice q fs.length cap, flV f, .string s, .int .i64 lo, .int .i64 hi] w fun e w' => e = .returned (.bool true) ∧ Below w.heap.size w w' := by
  have K := R.core
  have HL : Hid (∀ W, Below w.heap.size w W → EL W) := fun W hb => K.below _ _ h hb
  have HE : Hid (∀ W, Below w.heap.size w W → Errs W a) := fun W hb => hE.below hb
  have HX : Hid (∀ W, Below w.heap.size w W → FlsAt W (.slice q fs.length cap) fs) := fun W hb => hx.below hb
  have hal : Below w.heap.size w (w.alloc (.cells #[.string f.1, .string f.2.1, .int .i64 f.2.2.1, .int .i64 f.2.2.2.1, .int .i64 f.2.2.2.2.1, .int .i64 f.2.2.2.2.2] 23)) := (Below.refl _ _).alloc (Nat.le_refl _) _
  have hfl := FlAt.new w f
  have hda := fun W (hb : Below w.heap.size w W) => listed_any W a EL K (HL.out W hb)
  have hlo := fun W (hb : Below w.heap.size w W) => longFiles_any (.slice q fs.length cap) fs W (HX.out W hb) hl hsz
  have hlf := fun W => longFile_any f W hf.1 hf.2
  unfold flV at hlf ⊢
  obtain ⟨fp, fq, fn, flo, fhi, fseq⟩ := f
  dsimp only at hal hfl hlf hf ⊢
  generalize hWA : w.alloc (.cells #[.string fp, .string fq, .int .i64 fn, .int .i64 flo, .int .i64 fhi, .int .i64 fseq] 23) = WA at hal hfl
  have hd1 := hda WA hal
  clear hda
  unfold maxLen at hl hs
  cases hlb : longFs fs
  case true =>
    simp only [hlb, if_true] at hlo
    generalize fs.length = L at hl hlo hx HX ⊢
    go_enter Tryz.func6, Tryz.ntmps6
    go_wp2_with fail
    refine hd1.mono ?_
    rintro e w1 ⟨rfl, hb1⟩
    have hB1 : Below w.heap.size w w1 := hal.trans (hb1.mono hal.size)
    have hl1 := hlo w1 hB1
    clear hd1 hlo
    go_wp2_with fail
    refine hl1.mono ?_
    rintro e w2 ⟨rfl, hb2⟩
    clear hl1
    go_wp2
    go_ret
    exact ⟨rfl, hB1.trans (hb2.mono hB1.size)⟩
  case false =>
  obtain ⟨hl61, hsh⟩ := longFs_no hlb
  simp only [hlb, Bool.false_eq_true, if_false] at hlo
  cases hfb : longFB (fp, fq, fn, flo, fhi, fseq)
  case true =>
    simp only [hfb, if_true] at hlf
    generalize fs.length = L at hl hlo hx HX hl61 ⊢
    go_enter Tryz.func6, Tryz.ntmps6
    go_wp2_with fail
    refine hd1.mono ?_
    rintro e w1 ⟨rfl, hb1⟩
    have hB1 : Below w.heap.size w w1 := hal.trans (hb1.mono hal.size)
    have hl1 := hlo w1 hB1
    have hfl1 := hfl.below hb1
    clear hd1 hlo
    go_wp2_with fail
    refine hl1.mono ?_
    rintro e w2 ⟨rfl, hb2⟩
    clear hl1
    have hB2 : Below w.heap.size w w2 := hB1.trans (hb2.mono hB1.size)
    obtain ⟨z0, z1, z2, z3, z4, z5, -⟩ := (hfl1.below hb2).cells
    dsimp only at z0 z1 z2 z3 z4 z5
    go_wp2_with fail
    refine (hlf _).mono ?_
    rintro e w3 ⟨rfl, hb3⟩
    clear hlf z0 z1 z2 z3 z4 z5
    go_wp2
    go_ret
    exact ⟨rfl, hB2.trans (hb3.mono hB2.size)⟩
  case false =>
  simp only [hfb, Bool.false_eq_true, if_false] at hlf
  have hf30 : fp.size ≤ 30 ∧ fq.size ≤ 30 := by
    simp only [longFB, Bool.or_eq_false_iff, decide_eq_false_iff_not] at hfb
    omega
  by_cases hss : 2000 < s.size
  · have hi : (2000 : Int) < (s.size : Int) := by omega
    generalize fs.length = L at hl hlo hx HX hl61 ⊢
    go_enter Tryz.func6, Tryz.ntmps6
    go_wp2_with fail
    refine hd1.mono ?_
    rintro e w1 ⟨rfl, hb1⟩
    have hB1 : Below w.heap.size w w1 := hal.trans (hb1.mono hal.size)
    have hl1 := hlo w1 hB1
    have hfl1 := hfl.below hb1
    clear hd1 hlo
    go_wp2_with fail
    refine hl1.mono ?_
    rintro e w2 ⟨rfl, hb2⟩
    clear hl1
    have hB2 : Below w.heap.size w w2 := hB1.trans (hb2.mono hB1.size)
    obtain ⟨z0, z1, z2, z3, z4, z5, -⟩ := (hfl1.below hb2).cells
    dsimp only at z0 z1 z2 z3 z4 z5
    go_wp2_with fail
    refine (hlf _).mono ?_
    rintro e w3 ⟨rfl, hb3⟩
    clear hlf z0 z1 z2 z3 z4 z5
    go_wp2
    go_ret
    exact ⟨rfl, hB2.trans (hb3.mono hB2.size)⟩
  have hi2 : ¬ (2000 : Int) < (s.size : Int) := by omega
  have how := fun W (hb : Below w.heap.size w W) => ownFiles_any (.slice q fs.length cap) fs W (HX.out W hb) (by omega)
  have hlt := fun W (hb : Below w.heap.size w W) => listFault_any (.slice q fs.length cap) fs W (HX.out W hb) (by omega) (fun g hg => by have := hsh g hg; omega)
  have HTX : Hid ((listE fs).1 = 0 → ∀ W, Below w.heap.size w W → Calls Tryz.prog 38 #[.slice q fs.length cap] W fun e w' => e = .returned (.string (bytesOf (listL fs))) ∧ Below W.heap.size W w') := fun e W hb => listText_any _ fs W (HX.out W hb) (by omega) (fun g hg => by
    have h1 := ((listE_ok.1 e).2.1 g hg).1
    have := hsh g hg
    exact ⟨h1, by omega, by omega⟩)
  have HAO : Hid (∀ W, Below w.heap.size w W → Calls Tryz.prog 40 #[.slice q fs.length cap, flV (fp, fq, fn, flo, fhi, fseq)] W fun e w' => ∃ v', e = .returned (.tuple #[v', .agg #[.int .i64 (addE fs (fp, fq, fn, flo, fhi, fseq)).1, .int .i64 (atZ (addE fs (fp, fq, fn, flo, fhi, fseq)).2)]]) ∧ FlsAt w' v' (addL fs (fp, fq, fn, flo, fhi, fseq)) ∧ Below W.heap.size W w') := fun W hb => addOf_any _ fs _ W (HX.out W hb) (by omega) (fun g hg => by have := hsh g hg; omega) (by show fp.size ≤ _ ∧ fq.size ≤ _; omega)
  have HRO : Hid (∀ W, Below w.heap.size w W → Calls Tryz.prog 41 #[.slice q fs.length cap, .string fp] W fun e w' => ∃ v', e = .returned (.tuple #[v', .agg #[.int .i64 (remE fs fp).1, .int .i64 (atZ (remE fs fp).2)]]) ∧ FlsAt w' v' (remL fs fp) ∧ Below W.heap.size W w') := fun W hb => removeOf_any _ fs fp W (HX.out W hb) (by omega) (fun g hg => by have := hsh g hg; omega)
  have HFO : Hid (∀ W, Below w.heap.size w W → Calls Tryz.prog 42 #[.slice q fs.length cap, .string fp] W fun e w' => e = .returned (.int .i64 (findF fs fp)) ∧ w' = W) := fun W hb => findOf_any _ fs fp W (HX.out W hb) (by omega)
  have HPO : Hid (∀ W, Below w.heap.size w W → Calls Tryz.prog 43 #[.slice q fs.length cap, .int .i64 lo, .int .i64 hi] W fun e w' => ∃ v', e = .returned v' ∧ FlsAt w' v' (fs.filter (inP lo hi)) ∧ Below W.heap.size W w') := fun W hb => pruneOf_any _ fs lo hi W (HX.out W hb) (by omega)
  have HSL : Hid (∀ W v, FlsAt W v fs → Below w.heap.size w W → Calls Tryz.prog 30 #[v, .slice q fs.length cap] W fun e w' => e = .returned (.bool true) ∧ Below W.heap.size W w') := fun W v hv hb => sameFiles_yes _ _ fs W hv (HX.out W hb) (by omega)
  have HLX : Hid (fs.length ≤ 61) := hl61
  have HSH : Hid (Short fs) := hsh
  have HF30 : Hid (fp.size ≤ 30 ∧ fq.size ≤ 30) := hf30
  unfold flV at HAO
  dsimp only at HAO
  obtain ⟨L, hL⟩ : ∃ L, fs.length = L := ⟨_, rfl⟩
  rw [hL] at hl hlo how hlt HTX HAO HRO HFO HPO HSL ⊢
  have HLE : Hid (fs.length = L) := hL
  clear hL hx hl61 hlb hfb hss hsz hf
  go_enter Tryz.func6, Tryz.ntmps6
  go_wp2_with fail
  refine hd1.mono ?_
  rintro e w1 ⟨rfl, hb1⟩
  have hB1 : Below w.heap.size w w1 := hal.trans (hb1.mono hal.size)
  have hl1 := hlo w1 hB1
  have hfl1 := hfl.below hb1
  clear hd1 hlo hfl hb1 hal hWA
  go_wp2_with fail
  refine hl1.mono ?_
  rintro e w2 ⟨rfl, hb2⟩
  clear hl1
  have hB2 : Below w.heap.size w w2 := hB1.trans (hb2.mono hB1.size)
  have hfl2 := hfl1.below hb2
  obtain ⟨z0, z1, z2, z3, z4, z5, -⟩ := hfl2.cells
  dsimp only at z0 z1 z2 z3 z4 z5
  clear hfl1 hb2 hB1
  go_wp2_with fail
  refine (hlf _).mono ?_
  rintro e w3 ⟨rfl, hb3⟩
  clear hlf z0 z1 z2 z3 z4 z5
  have hB3 : Below w.heap.size w w3 := hB2.trans (hb3.mono hB2.size)
  have hfl3 := hfl2.below hb3
  have ho3 := how w3 hB3
  clear how hfl2 hb3 hB2
  go_wp2_with fail
  refine ho3.mono ?_
  rintro e w4 ⟨v4, rfl, ow4, hb4⟩
  clear ho3
  have hv4 := (flsAt_of_own ow4).1
  have hB4 : Below w.heap.size w w4 := hB3.trans (hb4.mono hB3.size)
  have hfl4 := hfl3.below hb4
  have hg4 := hlt w4 hB4
  clear ow4 hlt hfl3 hb4 hB3
  go_wp2_with fail
  refine hg4.mono ?_
  rintro e w5 ⟨rfl, hb5⟩
  clear hg4
  obtain ⟨CE, hCE⟩ : ∃ C, listE fs = C := ⟨_, rfl⟩
  have HCE : Hid (listE fs = CE) := hCE
  have hCle : CE.1 ≤ 12 := by rw [← hCE]; exact listE_le fs
  have hCv : CE.1 ≤ 5 ∨ CE.1 = 8 ∨ CE.1 = 9 := by rw [← hCE]; exact listE_vals fs
  rw [hCE] at HTX ⊢
  clear hCE
  obtain ⟨EC, EA⟩ := CE
  dsimp only at HTX hCle hCv ⊢
  obtain ⟨X, hX⟩ : ∃ X : Int, (EC : Int) = X := ⟨_, rfl⟩
  have HXE : Hid ((EC : Int) = X) := hX
  have hXv : X = 0 ∨ X = 1 ∨ X = 2 ∨ X = 3 ∨ X = 4 ∨ X = 5 ∨ X = 8 ∨ X = 9 := by omega
  rw [hX]
  clear hX hCv
  have hal5 : Below w5.heap.size w5 (w5.alloc (.cells #[.int .i64 X, .int .i64 (atZ EA)] 64)) := (Below.refl _ _).alloc (Nat.le_refl _) _
  have hb46 := hb5.trans (hal5.mono hb5.size)
  have hv6 := hv4.below hb46
  have hfl6 := hfl4.below hb46
  have hF6 : FC (w5.alloc (.cells #[.int .i64 X, .int .i64 (atZ EA)] 64)) w5.heap.size X (atZ EA) := heap_alloc_new _ _
  have hB6 : Below w.heap.size w (w5.alloc (.cells #[.int .i64 X, .int .i64 (atZ EA)] 64)) := hB4.trans (hb46.mono hB4.size)
  have hFw : w.heap.size < w5.heap.size := (hfl4.below hb5).lt
  clear hv4 hfl4 hb5 hal5 hb46 hB4
  go_upto_region 6 with fail
  generalize w5.alloc (.cells #[.int .i64 X, .int .i64 (atZ EA)] 64) = w6 at hv6 hfl6 hF6 hB6 ⊢
  generalize w5.heap.size = F at hF6 hFw ⊢
  have ht6 := K.text w6 v4 fs (HL.out w6 hB6) hv6 (by have := HLX.out; omega) HSH.out
  rw [HCE.out] at ht6
  dsimp only at ht6
  obtain ⟨T, hT⟩ : ∃ T, (if EC = 0 then bytesOf (listL fs) else (⟨#[]⟩ : ByteArray)) = T := ⟨_, rfl⟩
  rw [hT] at ht6
  have HT : Hid ((if EC = 0 then bytesOf (listL fs) else (⟨#[]⟩ : ByteArray)) = T) := hT
  clear hT
  go_wp2_with fail
  refine ht6.mono ?_
  rintro e w7 ⟨ev7, rfl, he7, hb7⟩
  clear ht6
  have hv7 := hv6.below hb7
  have hfl7 := hfl6.below hb7
  have hF7 := hF6.below hb7
  have hB7 : Below w.heap.size w w7 := hB6.trans (hb7.mono hB6.size)
  clear hv6 hfl6 hF6 hb7 hB6
  have HCK : Hid (∀ W, Below w7.heap.size w7 W → Calls Tryz.prog 32 #[v4] W fun e w' => ∃ ev, e = .returned ev ∧ ToldE w' a ev (EC, EA) ∧ Below W.heap.size W w') := fun W hb => by
    have h' := K.check W v4 fs (HL.out W (hB7.trans (hb.mono hB7.size))) (hv7.below hb) (by have := HLX.out; omega) HSH.out
    rw [HCE.out] at h'
    exact h'
  have HSM : Hid (∀ W ev, ToldE W a ev (EC, EA) → Below w7.heap.size w7 W → Calls Tryz.prog 37 #[ev, .agg #[.int .i64 X, .int .i64 (atZ EA)]] W fun e w' => e = .returned (.bool true) ∧ Below W.heap.size W w') := fun W ev ht hb => by
    have h' := ht.same hCle (HE.out W (hB7.trans (hb.mono hB7.size)))
    dsimp only at h'
    rw [HXE.out] at h'
    exact h'
  have HEV : Hid (∀ W, Below w7.heap.size w7 W → ToldE W a ev7 (EC, EA)) := fun W hb => he7.keep (keepsC_below hb)
  go_upto_region 7 with fail
  go_cut [65] from 46 to 64 (fun c wx => c = .bool false ∧ Below w7.heap.size w7 wx)
  case first =>
    have k0 := hF7.c0
    have k1 := hF7.c1
    have hb0 : Below w7.heap.size w7 w7 := Below.refl _ _
    have hbd : Below w7.heap.size w7 w7.drew := hb0.drew
    have hTe : X ≠ 0 → T = ⟨#[]⟩ := fun hne => by
      rw [← HT.out, if_neg (by have := HXE.out; omega)]
    have k0d := below_keep hbd k0
    have k1d := below_keep hbd k1
    rcases hXv with rfl | rfl | rfl | rfl | rfl | rfl | rfl | rfl
    · clear hTe
      first
        | (go_region_with (first
            | (go_at_call 32; with_reducible refine (HCK.out _ (by first | exact hb0 | exact hbd)).mono ?_; rintro e wX ⟨evC, rfl, heC, hbX⟩; have hY : Below w7.heap.size w7 wX := (by first | exact hbX | exact hbd.trans (hbX.mono hbd.size)); have x0 := below_keep hY k0; have x1 := below_keep hY k1)
            | (go_at_call 37; with_reducible refine (HSM.out _ _ heC hY).mono ?_; rintro e wY ⟨rfl, hbY⟩; have hZ : Below w7.heap.size w7 wY := hY.trans (hbY.mono hY.size); have y0 := below_keep hZ k0; have y1 := below_keep hZ k1)
            | (go_at_call 37; with_reducible refine (HSM.out _ _ (HEV.out _ hZ) hZ).mono ?_; rintro e wZ ⟨rfl, hbZ⟩; have hQ : Below w7.heap.size w7 wZ := hZ.trans (hbZ.mono hZ.size); have z0 := below_keep hQ k0; have z1 := below_keep hQ k1)))
        | fail
      all_goals
        go_wp2
        go_meet
        case rel => exact ⟨rfl, hQ⟩
    · obtain rfl := hTe (by decide)
      clear hTe
      go_region_held3 (fun w' => w'.cell? ⟨F, 0, none⟩ = some (.int .i64 (1 : Int)) ∧ w'.cell? ⟨F, 1, none⟩ = some (.int .i64 (atZ EA)) ∧ Below w7.heap.size w7 w')
        (first
          | (go_split_ands; with_reducible exact ⟨below_keep hbX (by assumption), below_keep hbX (by assumption), Below.trans (by assumption) (hbX.mono (Below.size (by assumption)))⟩)
          | (go_split_ands; exact ⟨by go_keep, by go_keep, by assumption⟩)
          | (go_split_ands; exact ⟨by go_keep, by go_keep, Below.drew (by assumption)⟩))
        (first
          | (go_at_call 32; with_reducible refine (HCK.out _ (by go_split_ands; assumption)).mono ?_; rintro e wX ⟨evC, rfl, heC, hbX⟩)
          | (go_at_call 37; with_reducible refine (HSM.out _ _ heC (by go_split_ands; assumption)).mono ?_; rintro e wX ⟨rfl, hbX⟩)
          | (go_at_call 37; with_reducible refine (HSM.out _ _ (HEV.out _ (by go_split_ands; assumption)) (by go_split_ands; assumption)).mono ?_; rintro e wX ⟨rfl, hbX⟩))
      go_split_ands
      have g0 : wX.cell? ⟨F, 0, none⟩ = some (.int .i64 (1 : Int)) := by assumption
      have g9 : Below w7.heap.size w7 wX := by assumption
      go_wp2
      go_meet
      case rel => exact ⟨rfl, g9⟩
    · obtain rfl := hTe (by decide)
      clear hTe
      go_region_held3 (fun w' => w'.cell? ⟨F, 0, none⟩ = some (.int .i64 (2 : Int)) ∧ w'.cell? ⟨F, 1, none⟩ = some (.int .i64 (atZ EA)) ∧ Below w7.heap.size w7 w')
        (first
          | (go_split_ands; with_reducible exact ⟨below_keep hbX (by assumption), below_keep hbX (by assumption), Below.trans (by assumption) (hbX.mono (Below.size (by assumption)))⟩)
          | (go_split_ands; exact ⟨by go_keep, by go_keep, by assumption⟩)
          | (go_split_ands; exact ⟨by go_keep, by go_keep, Below.drew (by assumption)⟩))
        (first
          | (go_at_call 32; with_reducible refine (HCK.out _ (by go_split_ands; assumption)).mono ?_; rintro e wX ⟨evC, rfl, heC, hbX⟩)
          | (go_at_call 37; with_reducible refine (HSM.out _ _ heC (by go_split_ands; assumption)).mono ?_; rintro e wX ⟨rfl, hbX⟩)
          | (go_at_call 37; with_reducible refine (HSM.out _ _ (HEV.out _ (by go_split_ands; assumption)) (by go_split_ands; assumption)).mono ?_; rintro e wX ⟨rfl, hbX⟩))
      go_split_ands
      have g0 : wX.cell? ⟨F, 0, none⟩ = some (.int .i64 (2 : Int)) := by assumption
      have g9 : Below w7.heap.size w7 wX := by assumption
      go_wp2
      go_meet
      case rel => exact ⟨rfl, g9⟩
    · obtain rfl := hTe (by decide)
      clear hTe
      go_region_held3 (fun w' => w'.cell? ⟨F, 0, none⟩ = some (.int .i64 (3 : Int)) ∧ w'.cell? ⟨F, 1, none⟩ = some (.int .i64 (atZ EA)) ∧ Below w7.heap.size w7 w')
        (first
          | (go_split_ands; with_reducible exact ⟨below_keep hbX (by assumption), below_keep hbX (by assumption), Below.trans (by assumption) (hbX.mono (Below.size (by assumption)))⟩)
          | (go_split_ands; exact ⟨by go_keep, by go_keep, by assumption⟩)
          | (go_split_ands; exact ⟨by go_keep, by go_keep, Below.drew (by assumption)⟩))
        (first
          | (go_at_call 32; with_reducible refine (HCK.out _ (by go_split_ands; assumption)).mono ?_; rintro e wX ⟨evC, rfl, heC, hbX⟩)
          | (go_at_call 37; with_reducible refine (HSM.out _ _ heC (by go_split_ands; assumption)).mono ?_; rintro e wX ⟨rfl, hbX⟩)
          | (go_at_call 37; with_reducible refine (HSM.out _ _ (HEV.out _ (by go_split_ands; assumption)) (by go_split_ands; assumption)).mono ?_; rintro e wX ⟨rfl, hbX⟩))
      go_split_ands
      have g0 : wX.cell? ⟨F, 0, none⟩ = some (.int .i64 (3 : Int)) := by assumption
      have g9 : Below w7.heap.size w7 wX := by assumption
      go_wp2
      go_meet
      case rel => exact ⟨rfl, g9⟩
    · obtain rfl := hTe (by decide)
      clear hTe
      go_region_held3 (fun w' => w'.cell? ⟨F, 0, none⟩ = some (.int .i64 (4 : Int)) ∧ w'.cell? ⟨F, 1, none⟩ = some (.int .i64 (atZ EA)) ∧ Below w7.heap.size w7 w')
        (first
          | (go_split_ands; with_reducible exact ⟨below_keep hbX (by assumption), below_keep hbX (by assumption), Below.trans (by assumption) (hbX.mono (Below.size (by assumption)))⟩)
          | (go_split_ands; exact ⟨by go_keep, by go_keep, by assumption⟩)
          | (go_split_ands; exact ⟨by go_keep, by go_keep, Below.drew (by assumption)⟩))
        (first
          | (go_at_call 32; with_reducible refine (HCK.out _ (by go_split_ands; assumption)).mono ?_; rintro e wX ⟨evC, rfl, heC, hbX⟩)
          | (go_at_call 37; with_reducible refine (HSM.out _ _ heC (by go_split_ands; assumption)).mono ?_; rintro e wX ⟨rfl, hbX⟩)
          | (go_at_call 37; with_reducible refine (HSM.out _ _ (HEV.out _ (by go_split_ands; assumption)) (by go_split_ands; assumption)).mono ?_; rintro e wX ⟨rfl, hbX⟩))
      go_split_ands
      have g0 : wX.cell? ⟨F, 0, none⟩ = some (.int .i64 (4 : Int)) := by assumption
      have g9 : Below w7.heap.size w7 wX := by assumption
      go_wp2
      go_meet
      case rel => exact ⟨rfl, g9⟩
    · obtain rfl := hTe (by decide)
      clear hTe
      go_region_held3 (fun w' => w'.cell? ⟨F, 0, none⟩ = some (.int .i64 (5 : Int)) ∧ w'.cell? ⟨F, 1, none⟩ = some (.int .i64 (atZ EA)) ∧ Below w7.heap.size w7 w')
        (first
          | (go_split_ands; with_reducible exact ⟨below_keep hbX (by assumption), below_keep hbX (by assumption), Below.trans (by assumption) (hbX.mono (Below.size (by assumption)))⟩)
          | (go_split_ands; exact ⟨by go_keep, by go_keep, by assumption⟩)
          | (go_split_ands; exact ⟨by go_keep, by go_keep, Below.drew (by assumption)⟩))
        (first
          | (go_at_call 32; with_reducible refine (HCK.out _ (by go_split_ands; assumption)).mono ?_; rintro e wX ⟨evC, rfl, heC, hbX⟩)
          | (go_at_call 37; with_reducible refine (HSM.out _ _ heC (by go_split_ands; assumption)).mono ?_; rintro e wX ⟨rfl, hbX⟩)
          | (go_at_call 37; with_reducible refine (HSM.out _ _ (HEV.out _ (by go_split_ands; assumption)) (by go_split_ands; assumption)).mono ?_; rintro e wX ⟨rfl, hbX⟩))
      go_split_ands
      have g0 : wX.cell? ⟨F, 0, none⟩ = some (.int .i64 (5 : Int)) := by assumption
      have g9 : Below w7.heap.size w7 wX := by assumption
      go_wp2
      go_meet
      case rel => exact ⟨rfl, g9⟩
    · obtain rfl := hTe (by decide)
      clear hTe
      go_region_held3 (fun w' => w'.cell? ⟨F, 0, none⟩ = some (.int .i64 (8 : Int)) ∧ w'.cell? ⟨F, 1, none⟩ = some (.int .i64 (atZ EA)) ∧ Below w7.heap.size w7 w')
        (first
          | (go_split_ands; with_reducible exact ⟨below_keep hbX (by assumption), below_keep hbX (by assumption), Below.trans (by assumption) (hbX.mono (Below.size (by assumption)))⟩)
          | (go_split_ands; exact ⟨by go_keep, by go_keep, by assumption⟩)
          | (go_split_ands; exact ⟨by go_keep, by go_keep, Below.drew (by assumption)⟩))
        (first
          | (go_at_call 32; with_reducible refine (HCK.out _ (by go_split_ands; assumption)).mono ?_; rintro e wX ⟨evC, rfl, heC, hbX⟩)
          | (go_at_call 37; with_reducible refine (HSM.out _ _ heC (by go_split_ands; assumption)).mono ?_; rintro e wX ⟨rfl, hbX⟩)
          | (go_at_call 37; with_reducible refine (HSM.out _ _ (HEV.out _ (by go_split_ands; assumption)) (by go_split_ands; assumption)).mono ?_; rintro e wX ⟨rfl, hbX⟩))
      go_split_ands
      have g0 : wX.cell? ⟨F, 0, none⟩ = some (.int .i64 (8 : Int)) := by assumption
      have g9 : Below w7.heap.size w7 wX := by assumption
      go_wp2
      go_meet
      case rel => exact ⟨rfl, g9⟩
    · obtain rfl := hTe (by decide)
      clear hTe
      go_region_held3 (fun w' => w'.cell? ⟨F, 0, none⟩ = some (.int .i64 (9 : Int)) ∧ w'.cell? ⟨F, 1, none⟩ = some (.int .i64 (atZ EA)) ∧ Below w7.heap.size w7 w')
        (first
          | (go_split_ands; with_reducible exact ⟨below_keep hbX (by assumption), below_keep hbX (by assumption), Below.trans (by assumption) (hbX.mono (Below.size (by assumption)))⟩)
          | (go_split_ands; exact ⟨by go_keep, by go_keep, by assumption⟩)
          | (go_split_ands; exact ⟨by go_keep, by go_keep, Below.drew (by assumption)⟩))
        (first
          | (go_at_call 32; with_reducible refine (HCK.out _ (by go_split_ands; assumption)).mono ?_; rintro e wX ⟨evC, rfl, heC, hbX⟩)
          | (go_at_call 37; with_reducible refine (HSM.out _ _ heC (by go_split_ands; assumption)).mono ?_; rintro e wX ⟨rfl, hbX⟩)
          | (go_at_call 37; with_reducible refine (HSM.out _ _ (HEV.out _ (by go_split_ands; assumption)) (by go_split_ands; assumption)).mono ?_; rintro e wX ⟨rfl, hbX⟩))
      go_split_ands
      have g0 : wX.cell? ⟨F, 0, none⟩ = some (.int .i64 (9 : Int)) := by assumption
      have g9 : Below w7.heap.size w7 wX := by assumption
      go_wp2
      go_meet
      case rel => exact ⟨rfl, g9⟩
  case rest =>
    obtain ⟨rfl, hb8⟩ := hcut
    have hB8 : Below w.heap.size w wc := hB7.trans (hb8.mono hB7.size)
    have hv8 := hv7.below hb8
    have hfl8 := hfl7.below hb8
    have hF8 := hF7.below hb8
    clear hv7 hfl7 hF7 HCK HSM HEV he7 hB7 hb8
    generalize wc = w8 at *
    go_upto_region 9 with fail
    go_cut [74] from 66 to 73 (fun c wx => c = .bool false ∧ Below w8.heap.size w8 wx)
    case first =>
      have k0 := hF8.c0
      have hb0 : Below w8.heap.size w8 w8 := Below.refl _ _
      by_cases hX0 : X = 0
      · have hEC : EC = 0 := by have := HXE.out; omega
        have hTT : bytesOf (listL fs) = T := by rw [← HT.out, if_pos hEC]
        have htx := HTX.out hEC w8 hB8
        rw [hTT] at htx
        subst hX0
        clear hTT hEC
        go_wp2_with fail
        refine htx.mono ?_
        rintro e w9 ⟨rfl, hb9⟩
        clear htx
        have hbe : (T.toList == T.toList) = true := by simp
        go_wp2
        go_meet
        case rel => exact ⟨rfl, hb9⟩
      · have q1 : (X == 0) = false := beq_eq_false_iff_ne.2 hX0
        go_wp2
        go_meet
        case rel => exact ⟨rfl, hb0⟩
    case rest =>
      obtain ⟨rfl, hb9⟩ := hcut
      have hB9 : Below w.heap.size w wc := hB8.trans (hb9.mono hB8.size)
      have hv9 := hv8.below hb9
      have hfl9 := hfl8.below hb9
      have hF9 := hF8.below hb9
      clear hv8 hfl8 hF8 hB8 hb9
      generalize wc = w9 at *
      have hrd := R.read w9 s (HL.out w9 hB9) (by omega)
      have hrf := fun W => readList_any s W (by omega)
      have hr12 := readL_le s.data.toList
      have hrl := readL_len s.data.toList
      rw [size_list] at hrl
      generalize readL s.data.toList = RD at hrd hrf hr12 hrl
      obtain ⟨RF, RC1, RC2⟩ := RD
      dsimp only at hrd hrf hr12 hrl
      go_wp2_with fail
      refine hrd.mono ?_
      rintro e w10 ⟨v10, ev10, rfl, hv10, he10, hb10⟩
      clear hrd
      have hB10 : Below w.heap.size w w10 := hB9.trans (hb10.mono hB9.size)
      have hu10 := hv9.below hb10
      have hfl10 := hfl9.below hb10
      have hF10 := hF9.below hb10
      clear hv9 hfl9 hF9 hB9 hb10
      have hq10 := hrf w10
      clear hrf
      go_wp2_with fail
      refine hq10.mono ?_
      rintro e w11 ⟨v11, rfl, hv11, hb11⟩
      clear hq10
      have hFw2 : w.heap.size ≤ F := Nat.le_of_lt hFw
      have hBa : Below w.heap.size w w11 := hB10.trans (hb11.mono hB10.size)
      have hFa := hF10.below hb11
      have hFs := hFa.set RC1 (atZ RC2)
      have hBs : Below w.heap.size w ((w11.setCell ⟨F, 0, none⟩ (.int .i64 RC1)).setCell ⟨F, 1, none⟩ (.int .i64 (atZ RC2))) := (hBa.setCell hFw2 _).setCell hFw2 _
      have hxs := hFa.ne_fls (hv10.below hb11) 0 (.int .i64 RC1) 1 (.int .i64 (atZ RC2))
      have hys := hFa.ne_fls hv11 0 (.int .i64 RC1) 1 (.int .i64 (atZ RC2))
      have hus := hFa.ne_fls (hu10.below hb11) 0 (.int .i64 RC1) 1 (.int .i64 (atZ RC2))
      have hfls : FlAt ((w11.setCell ⟨F, 0, none⟩ (.int .i64 RC1)).setCell ⟨F, 1, none⟩ (.int .i64 (atZ RC2))) w.heap.size (fp, fq, fn, flo, fhi, fseq) := fl_other (fl_other (hfl10.below hb11) (by omega) _ _) (by omega) _ _
      have hes : ToldE ((w11.setCell ⟨F, 0, none⟩ (.int .i64 RC1)).setCell ⟨F, 1, none⟩ (.int .i64 (atZ RC2))) a ev10 (RC1, RC2) := he10.keep (keepsC_set (keepsC_below hb11) hFa _ _)
      have j0 := hFa.c0
      have j1 := hFa.c1
      have jz := hFa.fz
      go_upto_region 13 with fail
      clear j0 j1 jz hFa hBa hv10 hv11 hu10 hfl10 he10 hF10 hB10 hb11
      generalize ((w11.setCell ⟨F, 0, none⟩ (.int .i64 RC1)).setCell ⟨F, 1, none⟩ (.int .i64 (atZ RC2))) = w12 at hFs hBs hxs hys hus hfls hes ⊢
      have hfa := hes.same hr12 (HE.out _ hBs)
      dsimp only at hfa
      have l0 := hFs.c0
      have l1 := hFs.c1
      go_wp2_with fail
      refine hfa.mono ?_
      rintro e w13 ⟨rfl, hb13⟩
      clear hfa l0 l1
      have hsm := sameFiles_yes v10 v11 RF w13 (hxs.below hb13) (hys.below hb13) (by omega)
      go_wp2_with fail
      refine hsm.mono ?_
      rintro e w14 ⟨rfl, hb14⟩
      clear hsm
      have hbt := hb13.trans (hb14.mono hb13.size)
      have hB14 : Below w.heap.size w w14 := hBs.trans (hbt.mono hBs.size)
      have hu14 := hus.below hbt
      have hfl14 := hfls.below hbt
      have hF14 := hFs.below hbt
      clear hFs hBs hxs hys hus hfls hes hb13 hb14 hbt
      obtain ⟨AE, hAE⟩ : ∃ E, addE fs (fp, fq, fn, flo, fhi, fseq) = E := ⟨_, rfl⟩
      obtain ⟨AL, hAL⟩ : ∃ E, addL fs (fp, fq, fn, flo, fhi, fseq) = E := ⟨_, rfl⟩
      have hA12 : AE.1 ≤ 12 := by rw [← hAE]; exact addE_le _ _
      have hALl : AL.length ≤ 62 := by rw [← hAL]; have := addL_len fs (fp, fq, fn, flo, fhi, fseq); have := HLX.out; omega
      have hka := fun W hW hv => K.add W v4 fs (fp, fq, fn, flo, fhi, fseq) hW hv (by have := HLX.out; omega) HSH.out HF30.out.1 HF30.out.2
      have hko := HAO.out
      rw [hAE, hAL] at hka hko
      simp only [flV] at hka
      clear hAE hAL
      obtain ⟨AE1, AE2⟩ := AE
      dsimp only at hA12 hka hko
      obtain ⟨z0, z1, z2, z3, z4, z5, -⟩ := hfl14.cells
      dsimp only at z0 z1 z2 z3 z4 z5
      have hpc := hka w14 (HL.out w14 hB14) hu14
      go_wp2_with fail
      refine hpc.mono ?_
      rintro e w15 ⟨v15, ev15, rfl, hv15, he15, hb15⟩
      clear hpc z0 z1 z2 z3 z4 z5
      have hB15 : Below w.heap.size w w15 := hB14.trans (hb15.mono hB14.size)
      have hu15 := hu14.below hb15
      have hfl15 := hfl14.below hb15
      have hF15 := hF14.below hb15
      clear hu14 hfl14 hF14 hB14 hb15
      obtain ⟨z0, z1, z2, z3, z4, z5, -⟩ := hfl15.cells
      dsimp only at z0 z1 z2 z3 z4 z5
      have hdc := hko w15 hB15
      go_wp2_with fail
      refine hdc.mono ?_
      rintro e w16 ⟨v16, rfl, hv16, hb16⟩
      clear hdc z0 z1 z2 z3 z4 z5
      clear hka hko
      have hBa : Below w.heap.size w w16 := hB15.trans (hb16.mono hB15.size)
      have hFa := hF15.below hb16
      have hFs := hFa.set AE1 (atZ AE2)
      have hBs : Below w.heap.size w ((w16.setCell ⟨F, 0, none⟩ (.int .i64 AE1)).setCell ⟨F, 1, none⟩ (.int .i64 (atZ AE2))) := (hBa.setCell hFw2 _).setCell hFw2 _
      have hxs := hFa.ne_fls (hv15.below hb16) 0 (.int .i64 AE1) 1 (.int .i64 (atZ AE2))
      have hys := hFa.ne_fls hv16 0 (.int .i64 AE1) 1 (.int .i64 (atZ AE2))
      have hus := hFa.ne_fls (hu15.below hb16) 0 (.int .i64 AE1) 1 (.int .i64 (atZ AE2))
      have hfls : FlAt ((w16.setCell ⟨F, 0, none⟩ (.int .i64 AE1)).setCell ⟨F, 1, none⟩ (.int .i64 (atZ AE2))) w.heap.size (fp, fq, fn, flo, fhi, fseq) := fl_other (fl_other (hfl15.below hb16) (by omega) _ _) (by omega) _ _
      have hes : ToldE ((w16.setCell ⟨F, 0, none⟩ (.int .i64 AE1)).setCell ⟨F, 1, none⟩ (.int .i64 (atZ AE2))) a ev15 (AE1, AE2) := he15.keep (keepsC_set (keepsC_below hb16) hFa _ _)
      have j0 := hFa.c0
      have j1 := hFa.c1
      have jz := hFa.fz
      go_upto_region 17 with fail
      clear j0 j1 jz hFa hBa hv15 hv16 hu15 hfl15 he15 hF15 hB15 hb16
      generalize ((w16.setCell ⟨F, 0, none⟩ (.int .i64 AE1)).setCell ⟨F, 1, none⟩ (.int .i64 (atZ AE2))) = w17 at hFs hBs hxs hys hus hfls hes ⊢
      have hfa := hes.same hA12 (HE.out _ hBs)
      dsimp only at hfa
      have l0 := hFs.c0
      have l1 := hFs.c1
      go_wp2_with fail
      refine hfa.mono ?_
      rintro e w18 ⟨rfl, hb18⟩
      clear hfa l0 l1
      have hsm := sameFiles_yes v15 v16 AL w18 (hxs.below hb18) (hys.below hb18) (by omega)
      go_wp2_with fail
      refine hsm.mono ?_
      rintro e w19 ⟨rfl, hb19⟩
      clear hsm
      have hbt := hb18.trans (hb19.mono hb18.size)
      have hB19 : Below w.heap.size w w19 := hBs.trans (hbt.mono hBs.size)
      have hu19 := hus.below hbt
      have hfl19 := hfls.below hbt
      have hF19 := hFs.below hbt
      clear hFs hBs hxs hys hus hfls hes hb18 hb19 hbt
      obtain ⟨RE, hRE⟩ : ∃ E, remE fs fp = E := ⟨_, rfl⟩
      obtain ⟨RL, hRL⟩ : ∃ E, remL fs fp = E := ⟨_, rfl⟩
      have hR12 : RE.1 ≤ 12 := by rw [← hRE]; exact remE_le _ _
      have hRLl : RL.length ≤ 62 := by rw [← hRL]; have := remL_len fs fp; have := HLX.out; omega
      have hkr := fun W hW hv => K.remove W v4 fs fp hW hv (by have := HLX.out; omega) HSH.out HF30.out.1
      have hkp := HRO.out
      rw [hRE, hRL] at hkr hkp
      clear hRE hRL
      obtain ⟨RE1, RE2⟩ := RE
      dsimp only at hR12 hkr hkp
      obtain ⟨z0, z1, z2, z3, z4, z5, -⟩ := hfl19.cells
      dsimp only at z0 z1 z2 z3 z4 z5
      have hpc := hkr w19 (HL.out w19 hB19) hu19
      go_wp2_with fail
      refine hpc.mono ?_
      rintro e w20 ⟨v20, ev20, rfl, hv20, he20, hb20⟩
      clear hpc z0 z1 z2 z3 z4 z5
      have hB20 : Below w.heap.size w w20 := hB19.trans (hb20.mono hB19.size)
      have hu20 := hu19.below hb20
      have hfl20 := hfl19.below hb20
      have hF20 := hF19.below hb20
      clear hu19 hfl19 hF19 hB19 hb20
      obtain ⟨z0, z1, z2, z3, z4, z5, -⟩ := hfl20.cells
      dsimp only at z0 z1 z2 z3 z4 z5
      have hdc := hkp w20 hB20
      go_wp2_with fail
      refine hdc.mono ?_
      rintro e w21 ⟨v21, rfl, hv21, hb21⟩
      clear hdc z0 z1 z2 z3 z4 z5
      clear hkr hkp
      have hBa : Below w.heap.size w w21 := hB20.trans (hb21.mono hB20.size)
      have hFa := hF20.below hb21
      have hFs := hFa.set RE1 (atZ RE2)
      have hBs : Below w.heap.size w ((w21.setCell ⟨F, 0, none⟩ (.int .i64 RE1)).setCell ⟨F, 1, none⟩ (.int .i64 (atZ RE2))) := (hBa.setCell hFw2 _).setCell hFw2 _
      have hxs := hFa.ne_fls (hv20.below hb21) 0 (.int .i64 RE1) 1 (.int .i64 (atZ RE2))
      have hys := hFa.ne_fls hv21 0 (.int .i64 RE1) 1 (.int .i64 (atZ RE2))
      have hus := hFa.ne_fls (hu20.below hb21) 0 (.int .i64 RE1) 1 (.int .i64 (atZ RE2))
      have hfls : FlAt ((w21.setCell ⟨F, 0, none⟩ (.int .i64 RE1)).setCell ⟨F, 1, none⟩ (.int .i64 (atZ RE2))) w.heap.size (fp, fq, fn, flo, fhi, fseq) := fl_other (fl_other (hfl20.below hb21) (by omega) _ _) (by omega) _ _
      have hes : ToldE ((w21.setCell ⟨F, 0, none⟩ (.int .i64 RE1)).setCell ⟨F, 1, none⟩ (.int .i64 (atZ RE2))) a ev20 (RE1, RE2) := he20.keep (keepsC_set (keepsC_below hb21) hFa _ _)
      have j0 := hFa.c0
      have j1 := hFa.c1
      have jz := hFa.fz
      go_upto_region 21 with fail
      clear j0 j1 jz hFa hBa hv20 hv21 hu20 hfl20 he20 hF20 hB20 hb21
      generalize ((w21.setCell ⟨F, 0, none⟩ (.int .i64 RE1)).setCell ⟨F, 1, none⟩ (.int .i64 (atZ RE2))) = w22 at hFs hBs hxs hys hus hfls hes ⊢
      have hfa := hes.same hR12 (HE.out _ hBs)
      dsimp only at hfa
      have l0 := hFs.c0
      have l1 := hFs.c1
      go_wp2_with fail
      refine hfa.mono ?_
      rintro e w23 ⟨rfl, hb23⟩
      clear hfa l0 l1
      have hsm := sameFiles_yes v20 v21 RL w23 (hxs.below hb23) (hys.below hb23) (by omega)
      go_wp2_with fail
      refine hsm.mono ?_
      rintro e w24 ⟨rfl, hb24⟩
      clear hsm
      have hbt := hb23.trans (hb24.mono hb23.size)
      have hB24 : Below w.heap.size w w24 := hBs.trans (hbt.mono hBs.size)
      have hu24 := hus.below hbt
      have hfl24 := hfls.below hbt
      have hF24 := hFs.below hbt
      clear hFs hBs hxs hys hus hfls hes hb23 hb24 hbt
      obtain ⟨FI, hFI⟩ : ∃ E, findF fs fp = E := ⟨_, rfl⟩
      obtain ⟨PL, hPL⟩ : ∃ E, fs.filter (inP lo hi) = E := ⟨_, rfl⟩
      have hPl : PL.length ≤ 61 := by rw [← hPL]; have := List.length_filter_le (inP lo hi) fs; have := HLX.out; omega
      have hup : ∀ W, Below w24.heap.size w24 W → Below w.heap.size w W := fun W hb => hB24.trans (hb.mono hB24.size)
      have HKF : Hid (∀ W, Below w24.heap.size w24 W → Calls Tryz.prog 33 #[v4, .string fp] W fun e w' => e = .returned (.int .i64 FI) ∧ Below W.heap.size W w') := fun W hb => by
        have h' := K.find W v4 fs fp (HL.out W (hup W hb)) (hu24.below hb) (by have := HLX.out; omega)
        rw [hFI] at h'
        exact h'
      have HF2 : Hid (∀ W, Below w24.heap.size w24 W → Calls Tryz.prog 42 #[.slice q L cap, .string fp] W fun e w' => e = .returned (.int .i64 FI) ∧ w' = W) := fun W hb => by
        have h' := HFO.out W (hup W hb)
        rw [hFI] at h'
        exact h'
      have HKP : Hid (∀ W, Below w24.heap.size w24 W → Calls Tryz.prog 35 #[v4, .int .i64 lo, .int .i64 hi] W fun e w' => ∃ v', e = .returned v' ∧ FlsAt w' v' PL ∧ Below W.heap.size W w') := fun W hb => by
        have h' := R.prune W v4 fs lo hi (HL.out W (hup W hb)) (hu24.below hb) (by have := HLX.out; omega)
        rw [hPL] at h'
        exact h'
      have HP2 : Hid (∀ W, Below w24.heap.size w24 W → Calls Tryz.prog 43 #[.slice q L cap, .int .i64 lo, .int .i64 hi] W fun e w' => ∃ v', e = .returned v' ∧ FlsAt w' v' PL ∧ Below W.heap.size W w') := fun W hb => by
        have h' := HPO.out W (hup W hb)
        rw [hPL] at h'
        exact h'
      have HS2 : Hid (∀ W, Below w24.heap.size w24 W → Calls Tryz.prog 30 #[v4, .slice q L cap] W fun e w' => e = .returned (.bool true) ∧ Below W.heap.size W w') := fun W hb => HSL.out W v4 (hu24.below hb) (hup W hb)
      have HS3 : Hid (∀ W v v', FlsAt W v PL → FlsAt W v' PL → Calls Tryz.prog 30 #[v, v'] W fun e w' => e = .returned (.bool true) ∧ Below W.heap.size W w') := fun W v v' h1 h2 => sameFiles_yes v v' PL W h1 h2 (by omega)
      have z0 := hfl24.cells.1
      dsimp only at z0
      have hb0 : Below w24.heap.size w24 w24 := Below.refl _ _
      have hbd : Below w24.heap.size w24 w24.drew := hb0.drew
      clear hFI hPL hu24 hfl24 hF24
      go_wp2_with fail
      go_region_held3 (fun w' => w'.cell? ⟨w.heap.size, 0, none⟩ = some (.string fp) ∧ Below w24.heap.size w24 w')
        (first
          | (go_split_ands; with_reducible exact ⟨below_keep hbX (by assumption), Below.trans (by assumption) (hbX.mono (Below.size (by assumption)))⟩)
          | (go_split_ands; exact ⟨by go_keep, by assumption⟩)
          | (go_split_ands; exact ⟨by go_keep, Below.drew (by assumption)⟩))
        (first
          | (go_at_call 33; with_reducible refine (HKF.out _ (by go_split_ands; assumption)).mono ?_; rintro e wX ⟨rfl, hbX⟩)
          | (go_at_call 42; with_reducible refine (HF2.out _ (by go_split_ands; assumption)).mono ?_; rintro e wX ⟨rfl, rfl⟩)
          | (go_at_call 35; with_reducible refine (HKP.out _ (by go_split_ands; assumption)).mono ?_; rintro e wP ⟨vP, rfl, hvP, hbX⟩)
          | (go_at_call 43; with_reducible refine (HP2.out _ (by go_split_ands; assumption)).mono ?_; rintro e wQ ⟨vQ, rfl, hvQ, hbX⟩; have hbQ := hbX)
          | (go_at_call 30; with_reducible refine (HS3.out _ vP vQ (hvP.below hbQ) hvQ).mono ?_; rintro e wX ⟨rfl, hbX⟩)
          | (go_at_call 30; with_reducible refine (HS2.out _ (by go_split_ands; assumption)).mono ?_; rintro e wX ⟨rfl, hbX⟩))
      go_split_ands
      have g9 : Below w24.heap.size w24 wX := by assumption
      have gB := hup wX g9
      go_wp2
      go_ret
      exact ⟨rfl, gB⟩
end Go.Proofs.YtpkoefpdpoikkaaGreatDoor
