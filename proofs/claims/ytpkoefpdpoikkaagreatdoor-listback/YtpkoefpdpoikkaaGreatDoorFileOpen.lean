/-
  What is known of a file, as it came in.
-/
import Derived.Test.YtpkoefpdpoikkaaGreatDoorListOrd
import Derived.ProofKit
import Derived.Deep.Strs
import Derived.HandedShaped
namespace Go.Proofs.YtpkoefpdpoikkaaGreatDoor
open Go.RowKit Go.Extern.Stop Go.Stop Go.Extern Go.Sort Go.Shelf Go.Lib

theorem find_kept {fs : List Fl} (hr : Rises 0 fs) (P : Fl → Bool) {i : Nat} (hi : i < fs.length) : 0 ≤ findF (fs.filter P) fs[i].1 ↔ P fs[i] = true := by
  constructor
  · intro h0
    refine Classical.byContradiction fun hp => ?_
    rw [findF_no (fun j hj e => ?_)] at h0
    · omega
    · have hm : (fs.filter P)[j] ∈ fs.filter P := List.getElem_mem _
      rw [List.mem_filter] at hm
      obtain ⟨k, hk, hkk⟩ := List.mem_iff_getElem.1 hm.1
      have := rises_path hr hk hi (by rw [hkk]; exact e)
      subst this
      rw [hkk] at hp
      exact hp hm.2
  · intro hp
    have hm : fs[i] ∈ fs.filter P := List.mem_filter.2 ⟨List.getElem_mem _, hp⟩
    obtain ⟨k, hk, hkk⟩ := List.mem_iff_getElem.1 hm
    refine Classical.byContradiction fun h0 => ?_
    have hex : ∃ n : Nat, findF (fs.filter P) fs[i].1 = n := by
      unfold findF
      cases hfi : (fs.filter P).findIdx? (fun f => decide (f.1 = fs[i].1)) with
      | some n => exact ⟨n, rfl⟩
      | none =>
        rw [List.findIdx?_eq_none_iff] at hfi
        have := hfi _ hm
        simp at this
    obtain ⟨n, hn⟩ := hex
    rw [hn] at h0
    omega

theorem inP_key (key : Int) (f : Fl) : inP key key f = (decide (f.2.2.2.1 ≤ key) && decide (key ≤ f.2.2.2.2.1)) := by
  unfold inP
  rw [Bool.eq_iff_iff]
  simp only [decide_eq_true_eq, Bool.and_eq_true]
  constructor
  · intro h
    split at h <;> split at h <;> omega
  · rintro ⟨h1, h2⟩
    split <;> split <;> omega

theorem add_good {fs : List Fl} {f : Fl} (h : (addE fs f).1 = 0) : (listE (placeL fs f)).1 = 0 ∧ (placeL fs f).length = fs.length + 1 ∧ 0 ≤ findF (placeL fs f) f.1 ∧ (remE (placeL fs f) f.1) = (0, none) ∧ remL (placeL fs f) f.1 = fs ∧ addE fs f = (0, none) ∧ addL fs f = placeL fs f ∧ ∀ g ∈ placeL fs f, g ∈ fs ∨ g = f := by
  have hE : addE fs f = (0, none) ∧ (listE fs).1 = 0 ∧ fileE f = 0 ∧ findF fs f.1 < 0 ∧ fs.length < 60 := by
    unfold addE at h ⊢
    by_cases h1 : (listE fs).1 ≠ 0
    · rw [if_pos h1] at h; exact absurd h h1
    · rw [if_neg h1] at h ⊢
      by_cases h2 : fileE f ≠ 0
      · rw [if_pos h2] at h; exact absurd h h2
      · rw [if_neg h2] at h ⊢
        by_cases h3 : 0 ≤ findF fs f.1
        · rw [if_pos h3] at h; cases h
        · rw [if_neg h3] at h ⊢
          by_cases h4 : 60 ≤ fs.length
          · rw [if_pos h4] at h; cases h
          · rw [if_neg h4]
            exact ⟨rfl, by simpa using h1, by simpa using h2, by omega, by omega⟩
  obtain ⟨e, h1, h2, h3, h4⟩ := hE
  have hr := (listE_ok.1 h1).2
  have hz : ∀ g ∈ fs, fk g ≠ fk f := fun g hg ek => by
    obtain ⟨j, hj, rfl⟩ := List.mem_iff_getElem.1 hg
    have hp := fk_path (hr.1 _ (List.getElem_mem _)).1 h2 ek
    have hex : ∃ n : Nat, findF fs f.1 = n := by
      unfold findF
      cases hfi : fs.findIdx? (fun g => decide (g.1 = f.1)) with
      | some n => exact ⟨n, rfl⟩
      | none =>
        rw [List.findIdx?_eq_none_iff] at hfi
        have := hfi _ (List.getElem_mem hj)
        simp [hp] at this
    obtain ⟨n, hn⟩ := hex
    omega
  obtain ⟨p1, p2, p3⟩ := place_rises hr h2 hz
  have hmem : f ∈ placeL fs f := by unfold placeL; simp
  have hl : (listE (placeL fs f)).1 = 0 := listE_ok.2 ⟨by omega, p1⟩
  have hfind : 0 ≤ findF (placeL fs f) f.1 := by
    unfold findF
    cases hfi : (placeL fs f).findIdx? (fun g => decide (g.1 = f.1)) with
    | some n => exact Int.natCast_nonneg n
    | none =>
      rw [List.findIdx?_eq_none_iff] at hfi
      have := hfi _ hmem
      simp at this
  have hrem : remE (placeL fs f) f.1 = (0, none) := by
    unfold remE
    rw [if_neg (by simpa using hl), if_neg (by omega)]
  refine ⟨hl, p2, hfind, hrem, ?_, e, by unfold addL; rw [e, if_pos rfl], fun g hg => ?_⟩
  · unfold remL
    rw [hrem, if_pos rfl]
    exact p3
  · unfold placeL at hg
    rw [List.mem_append, List.mem_cons] at hg
    rcases hg with hg | rfl | hg
    · exact Or.inl ((List.takeWhile_sublist _).subset hg)
    · exact Or.inr rfl
    · exact Or.inl ((List.dropWhile_sublist _).subset hg)

theorem text_size {fs : List Fl} (h : (listE fs).1 = 0) (hl : fs.length ≤ 61) (hs : ∀ g ∈ fs, g.1.size ≤ 30 ∧ g.2.1.size ≤ 30) : (bytesOf (listL fs)).size ≤ 20000 := by
  have := listL_len fs (fun f hf => ⟨((listE_ok.1 h).2.1 f hf).1, by have := hs f hf; omega, by have := hs f hf; omega⟩)
  rw [bytes_len]
  omega

set_option maxRecDepth 100000 in
set_option maxHeartbeats 16000000 in
theorem listBack_any (q : Option Addr) (cap : Nat) (fs : List Fl) (f : Fl) (key : Int) (w : World) (a : Nat → Addr) (EL : World → Prop) (R : ListR a EL) (h : EL w) (hx : FlsAt w (.slice q fs.length cap) fs) (hl : fs.length ≤ maxLen) (hsz : ∀ g ∈ fs, g.1.size ≤ maxLen ∧ g.2.1.size ≤ maxLen) (hf : f.1.size ≤ maxLen ∧ f.2.1.size ≤ maxLen) :
    Calls Tryz.prog 5 #[.slice q fs.length cap, flV f, .int .i64 key] w fun e w' => e = .returned (.bool true) ∧ Below w.heap.size w w' := by
  have K := R.core
  have HL : Hid (∀ W, Below w.heap.size w W → EL W) := fun W hb => K.below _ _ h hb
  have HX : Hid (∀ W, Below w.heap.size w W → FlsAt W (.slice q fs.length cap) fs) := fun W hb => hx.below hb
  have hal : Below w.heap.size w (w.alloc (.cells #[.string f.1, .string f.2.1, .int .i64 f.2.2.1, .int .i64 f.2.2.2.1, .int .i64 f.2.2.2.2.1, .int .i64 f.2.2.2.2.2] 23)) := (Below.refl _ _).alloc (Nat.le_refl _) _
  have hfl := FlAt.new w f
  have hda := fun W (hb : Below w.heap.size w W) => listed_any W a EL K (HL.out W hb)
  have hlo := fun W (hb : Below w.heap.size w W) => longFiles_any (.slice q fs.length cap) fs W (HX.out W hb) hl hsz
  have hlf := fun W => longFile_any f W hf.1 hf.2
  have HADD : Hid ((addE fs f).1 = 0 → (listE (placeL fs f)).1 = 0 ∧ (placeL fs f).length = fs.length + 1 ∧ 0 ≤ findF (placeL fs f) f.1 ∧ (remE (placeL fs f) f.1) = (0, none) ∧ remL (placeL fs f) f.1 = fs ∧ addE fs f = (0, none) ∧ addL fs f = placeL fs f ∧ ∀ g ∈ placeL fs f, g ∈ fs ∨ g = f) := fun h => add_good h
  have hAD := fun W v (hb : Below w.heap.size w W) (hv : FlsAt W v fs) (hl' : fs.length ≤ 100) (hs' : Short fs) (g1 : f.1.size ≤ 30) (g2 : f.2.1.size ≤ 30) => K.add W v fs f (HL.out W hb) hv hl' hs' g1 g2
  unfold flV at hlf hAD ⊢
  obtain ⟨fp, fq, fn, flo, fhi, fseq⟩ := f
  dsimp only at hal hfl hlf hf HADD hAD ⊢
  generalize hWA : w.alloc (.cells #[.string fp, .string fq, .int .i64 fn, .int .i64 flo, .int .i64 fhi, .int .i64 fseq] 23) = WA at hal hfl
  have hd1 := hda WA hal
  clear hda
  unfold maxLen at hl
  cases hlb : longFs fs
  case true =>
    simp only [hlb, if_true] at hlo
    clear HADD hAD
    generalize fs.length = L at hl hlo hx HX ⊢
    go_enter Tryz.func5, Tryz.ntmps5
    go_wp2_with fail
    refine hd1.mono ?_
    rintro e w1 ⟨rfl, hb1⟩
    have hB1 : Below w.heap.size w w1 := hal.trans (hb1.mono hal.size)
    have hl1 := hlo w1 hB1
    clear hd1 hlo
    go_wp2_with fail
    refine hl1.mono ?_
    rintro e w2 ⟨rfl, hb2⟩
    clear hl1
    go_wp2
    go_ret
    exact ⟨rfl, hB1.trans (hb2.mono hB1.size)⟩
  case false =>
  obtain ⟨hl61, hsh⟩ := longFs_no hlb
  simp only [hlb, Bool.false_eq_true, if_false] at hlo
  cases hfb : longFB (fp, fq, fn, flo, fhi, fseq)
  case true =>
    simp only [hfb, if_true] at hlf
    clear HADD hAD
    generalize fs.length = L at hl hlo hx HX hl61 ⊢
    go_enter Tryz.func5, Tryz.ntmps5
    go_wp2_with fail
    refine hd1.mono ?_
    rintro e w1 ⟨rfl, hb1⟩
    have hB1 : Below w.heap.size w w1 := hal.trans (hb1.mono hal.size)
    have hl1 := hlo w1 hB1
    have hfl1 := hfl.below hb1
    clear hd1 hlo
    go_wp2_with fail
    refine hl1.mono ?_
    rintro e w2 ⟨rfl, hb2⟩
    clear hl1
    have hB2 : Below w.heap.size w w2 := hB1.trans (hb2.mono hB1.size)
    obtain ⟨z0, z1, z2, z3, z4, z5, -⟩ := (hfl1.below hb2).cells
    dsimp only at z0 z1 z2 z3 z4 z5
    go_wp2_with fail
    refine (hlf _).mono ?_
    rintro e w3 ⟨rfl, hb3⟩
    clear hlf z0 z1 z2 z3 z4 z5
    go_wp2
    go_ret
    exact ⟨rfl, hB2.trans (hb3.mono hB2.size)⟩
  case false =>
  simp only [hfb, Bool.false_eq_true, if_false] at hlf
  have hf30 : fp.size ≤ 30 ∧ fq.size ≤ 30 := by
    simp only [longFB, Bool.or_eq_false_iff, decide_eq_false_iff_not] at hfb
    omega
  have how := fun W (hb : Below w.heap.size w W) => ownFiles_any (.slice q fs.length cap) fs W (HX.out W hb) (by omega)
  have HTX : Hid (∀ W v, Below w.heap.size w W → FlsAt W v fs → Calls Tryz.prog 28 #[v] W fun e w' => ∃ ev, e = .returned (.tuple #[.string (if (listE fs).1 = 0 then bytesOf (listL fs) else ⟨#[]⟩), ev]) ∧ ToldE w' a ev (listE fs) ∧ Below W.heap.size W w') := fun W v hb hv => K.text W v fs (HL.out W hb) hv (by omega) hsh
  have HRD : Hid ((listE fs).1 = 0 → ∀ W, Below w.heap.size w W → Calls Tryz.prog 29 #[.string (bytesOf (listL fs))] W fun e w' => ∃ v' ev, e = .returned (.tuple #[v', ev]) ∧ FlsAt w' v' fs ∧ ev = .nilIface ∧ Below W.heap.size W w') := fun he W hb => by
    have h' := R.read W (bytesOf (listL fs)) (HL.out W hb) (text_size he hl61 hsh)
    have e : (bytesOf (listL fs)).data.toList = listL fs := by simp [bytesOf]
    rw [e, readL_text he] at h'
    exact h'
  have HSM : Hid (∀ W v, FlsAt W v fs → Below w.heap.size w W → Calls Tryz.prog 30 #[v, .slice q fs.length cap] W fun e w' => e = .returned (.bool true) ∧ Below W.heap.size W w') := fun W v hv hb => sameFiles_yes _ _ fs W hv (HX.out W hb) (by omega)
  have HAD : Hid (∀ W v, Below w.heap.size w W → FlsAt W v fs → Calls Tryz.prog 31 #[v, .agg #[.string fp, .string fq, .int .i64 fn, .int .i64 flo, .int .i64 fhi, .int .i64 fseq]] W fun e w' => ∃ v' ev, e = .returned (.tuple #[v', ev]) ∧ FlsAt w' v' (addL fs (fp, fq, fn, flo, fhi, fseq)) ∧ ToldE w' a ev (addE fs (fp, fq, fn, flo, fhi, fseq)) ∧ Below W.heap.size W w') := fun W v hb hv => hAD W v hb hv (by omega) hsh hf30.1 hf30.2
  have HPR : Hid (∀ W v, Below w.heap.size w W → FlsAt W v fs → Calls Tryz.prog 35 #[v, .int .i64 key, .int .i64 key] W fun e w' => ∃ v', e = .returned v' ∧ FlsAt w' v' (fs.filter (inP key key)) ∧ Below W.heap.size W w') := fun W v hb hv => R.prune W v fs key key (HL.out W hb) hv (by omega)
  have HFD : Hid (∀ W v p, Below w.heap.size w W → FlsAt W v (fs.filter (inP key key)) → Calls Tryz.prog 33 #[v, .string p] W fun e w' => e = .returned (.int .i64 (findF (fs.filter (inP key key)) p)) ∧ Below W.heap.size W w') := fun W v p hb hv => K.find W v _ p (HL.out W hb) hv (by have := List.length_filter_le (inP key key) fs; omega)
  have HAF : Hid ((addE fs (fp, fq, fn, flo, fhi, fseq)).1 = 0 → ∀ W v, Below w.heap.size w W → FlsAt W v (placeL fs (fp, fq, fn, flo, fhi, fseq)) →
      (Calls Tryz.prog 32 #[v] W fun e w' => e = .returned .nilIface ∧ Below W.heap.size W w') ∧
      (Calls Tryz.prog 33 #[v, .string fp] W fun e w' => e = .returned (.int .i64 (findF (placeL fs (fp, fq, fn, flo, fhi, fseq)) fp)) ∧ Below W.heap.size W w') ∧
      (Calls Tryz.prog 34 #[v, .string fp] W fun e w' => ∃ v', e = .returned (.tuple #[v', .nilIface]) ∧ FlsAt w' v' fs ∧ Below W.heap.size W w')) := fun h0 W v hb hv => by
    obtain ⟨p1, p2, p3, p4, p5, p6, p7, p8⟩ := HADD.out h0
    have hs' : Short (placeL fs (fp, fq, fn, flo, fhi, fseq)) := fun g hg => by
      rcases p8 g hg with h' | rfl
      · exact hsh g h'
      · exact hf30
    refine ⟨?_, K.find W v _ fp (HL.out W hb) hv (by omega), ?_⟩
    · refine (K.check W v _ (HL.out W hb) hv (by omega) hs').mono ?_
      rintro e w' ⟨ev, he, ht, hb'⟩
      rw [ht.ok p1] at he
      exact ⟨he, hb'⟩
    · have h' := K.remove W v _ fp (HL.out W hb) hv (by omega) hs' hf30.1
      try dsimp only at p4 p5
      rw [p4, p5] at h'
      refine h'.mono ?_
      rintro e w' ⟨v', ev, he, hv', ht, hb'⟩
      obtain rfl : ev = .nilIface := ht
      exact ⟨v', he, hv', hb'⟩
  have HAL : Hid ((addE fs (fp, fq, fn, flo, fhi, fseq)).1 = 0 → addL fs (fp, fq, fn, flo, fhi, fseq) = placeL fs (fp, fq, fn, flo, fhi, fseq) ∧ (placeL fs (fp, fq, fn, flo, fhi, fseq)).length = fs.length + 1 ∧ 0 ≤ findF (placeL fs (fp, fq, fn, flo, fhi, fseq)) fp) := fun h0 => by
    obtain ⟨p1, p2, p3, p4, p5, p6, p7, p8⟩ := HADD.out h0
    exact ⟨p7, p2, p3⟩
  have HKP : Hid ((listE fs).1 = 0 → ∀ i (hi : i < fs.length), (0 ≤ findF (fs.filter (inP key key)) fs[i].1 ↔ fs[i].2.2.2.1 ≤ key ∧ key ≤ fs[i].2.2.2.2.1)) := fun h0 i hi => by
    rw [find_kept (listE_ok.1 h0).2 (inP key key) hi, inP_key]
    simp
  have HLX : Hid (fs.length ≤ 61) := hl61
  obtain ⟨L, hL⟩ : ∃ L, fs.length = L := ⟨_, rfl⟩
  rw [hL] at hl hlo how HSM HAL HX ⊢
  have HLE : Hid (fs.length = L) := hL
  have hL61 : L ≤ 61 := by rw [← hL]; exact hl61
  generalize fs.filter (inP key key) = KP at HPR HFD HKP
  clear hL hx hl61 hlb hfb hsz hf HADD hAD hsh hf30
  go_enter Tryz.func5, Tryz.ntmps5
  go_wp2_with fail
  refine hd1.mono ?_
  rintro e w1 ⟨rfl, hb1⟩
  have hB1 : Below w.heap.size w w1 := hal.trans (hb1.mono hal.size)
  have hl1 := hlo w1 hB1
  have hfl1 := hfl.below hb1
  clear hd1 hlo hfl hb1 hal hWA
  go_wp2_with fail
  refine hl1.mono ?_
  rintro e w2 ⟨rfl, hb2⟩
  clear hl1
  have hB2 : Below w.heap.size w w2 := hB1.trans (hb2.mono hB1.size)
  have hfl2 := hfl1.below hb2
  obtain ⟨z0, z1, z2, z3, z4, z5, -⟩ := hfl2.cells
  dsimp only at z0 z1 z2 z3 z4 z5
  clear hfl1 hb2 hB1
  go_wp2_with fail
  refine (hlf _).mono ?_
  rintro e w3 ⟨rfl, hb3⟩
  clear hlf z0 z1 z2 z3 z4 z5
  have hB3 : Below w.heap.size w w3 := hB2.trans (hb3.mono hB2.size)
  have hfl3 := hfl2.below hb3
  have ho3 := how w3 hB3
  clear how hfl2 hb3 hB2
  go_wp2_with fail
  refine ho3.mono ?_
  rintro e w4 ⟨v4, rfl, ow4, hb4⟩
  clear ho3
  have hv4 := (flsAt_of_own ow4).1
  have hB4 : Below w.heap.size w w4 := hB3.trans (hb4.mono hB3.size)
  have hfl4 := hfl3.below hb4
  have hg4 := HTX.out w4 v4 hB4 hv4
  clear ow4 hfl3 hb4 hB3 HTX
  by_cases hok : (listE fs).1 = 0
  · rw [if_pos hok] at hg4
    have HR0 := HRD.out hok
    have HKP0 : Hid (∀ i (hi : i < fs.length), (0 ≤ findF KP fs[i].1 ↔ fs[i].2.2.2.1 ≤ key ∧ key ≤ fs[i].2.2.2.2.1)) := HKP.out hok
    clear HRD HKP
    generalize bytesOf (listL fs) = T at hg4 HR0
    go_wp2_with fail
    refine hg4.mono ?_
    rintro e w5 ⟨ev5, rfl, ht5, hb5⟩
    clear hg4
    obtain rfl := ht5.ok hok
    have hB5 : Below w.heap.size w w5 := hB4.trans (hb5.mono hB4.size)
    have hv5 := hv4.below hb5
    have hfl5 := hfl4.below hb5
    have hr5 := HR0 w5 hB5
    clear hv4 hfl4 hb5 hB4 ht5 HR0
    go_wp2_with fail
    refine hr5.mono ?_
    rintro e w6 ⟨v6, ev6, rfl, hv6, rfl, hb6⟩
    clear hr5
    have hB6 : Below w.heap.size w w6 := hB5.trans (hb6.mono hB5.size)
    have hu6 := hv5.below hb6
    have hfl6 := hfl5.below hb6
    have hs6 := HSM.out w6 v6 hv6 hB6
    clear hv5 hfl5 hb6 hB5 hv6
    go_wp2_with fail
    refine hs6.mono ?_
    rintro e w7 ⟨rfl, hb7⟩
    clear hs6
    have hB7 : Below w.heap.size w w7 := hB6.trans (hb7.mono hB6.size)
    have hu7 := hu6.below hb7
    have hfl7 := hfl6.below hb7
    obtain ⟨z0, z1, z2, z3, z4, z5, -⟩ := hfl7.cells
    dsimp only at z0 z1 z2 z3 z4 z5
    have ha7 := HAD.out w7 v4 hB7 hu7
    clear hu6 hfl6 hb7 hB6 HAD
    go_wp2_with fail
    refine ha7.mono ?_
    rintro e w8 ⟨v8, ev8, rfl, hv8, ht8, hb8⟩
    clear ha7 z0 z1 z2 z3 z4 z5
    have hB8 : Below w.heap.size w w8 := hB7.trans (hb8.mono hB7.size)
    have hu8 := hu7.below hb8
    have hfl8 := hfl7.below hb8
    clear hu7 hfl7 hb8 hB7
    by_cases had : (addE fs (fp, fq, fn, flo, fhi, fseq)).1 = 0
    · obtain rfl := ht8.ok had
      obtain ⟨e1, e2, e3⟩ := HAL.out had
      have HAF0 := HAF.out had
      rw [e1] at hv8
      clear HAF HAL ht8 e1 had
      generalize placeL fs (fp, fq, fn, flo, fhi, fseq) = PL at hv8 e2 e3 HAF0
      generalize findF PL fp = FN at e3 HAF0
      obtain ⟨hc8, -, -⟩ := HAF0 w8 v8 hB8 hv8
      obtain ⟨q8, c8, e8⟩ := hv8.form
      rw [e2] at e8
      subst e8
      have z0 := hfl8.cells.1
      dsimp only at z0
      go_wp2_with fail
      refine hc8.mono ?_
      rintro e w9 ⟨rfl, hb9⟩
      clear hc8 z0
      have hB9 : Below w.heap.size w w9 := hB8.trans (hb9.mono hB8.size)
      have hv9 := hv8.below hb9
      have hu9 := hu8.below hb9
      have hfl9 := hfl8.below hb9
      have z0 := hfl9.cells.1
      dsimp only at z0
      obtain ⟨-, hf9, -⟩ := HAF0 w9 _ hB9 hv9
      clear hv8 hu8 hfl8 hb9 hB8
      have hneg : ¬ FN < 0 := by omega
      have hL63 : ((L : Int) + 1 == (L : Int) + 1) = true := by simp
      go_wp2_with fail
      refine hf9.mono ?_
      rintro e w10 ⟨rfl, hb10⟩
      clear hf9 z0
      have hB10 : Below w.heap.size w w10 := hB9.trans (hb10.mono hB9.size)
      have hv10 := hv9.below hb10
      have hu10 := hu9.below hb10
      have hfl10 := hfl9.below hb10
      have z0 := hfl10.cells.1
      dsimp only at z0
      obtain ⟨-, -, hr10⟩ := HAF0 w10 _ hB10 hv10
      clear hv9 hu9 hfl9 hb10 hB9 HAF0
      go_wp2_with fail
      refine hr10.mono ?_
      rintro e w11 ⟨v11, rfl, hv11, hb11⟩
      clear hr10 z0 hv10
      have hB11 : Below w.heap.size w w11 := hB10.trans (hb11.mono hB10.size)
      have hu11 := hu10.below hb11
      have hs11 := HSM.out w11 v11 hv11 hB11
      clear hu10 hfl10 hb11 hB10 hv11
      go_wp2_with fail
      refine hs11.mono ?_
      rintro e w12 ⟨rfl, hb12⟩
      clear hs11
      have hB12 : Below w.heap.size w w12 := hB11.trans (hb12.mono hB11.size)
      have hu12 := hu11.below hb12
      clear hu11 hb12 hB11
      have hp := HPR.out w12 v4 hB12 hu12
      clear HPR HSM hu12
      go_wp2_with fail
      refine hp.mono ?_
      rintro e wP ⟨vP, rfl, hvP, hbP⟩
      clear hp
      have hBP : Below w.heap.size w wP := hB12.trans (hbP.mono hB12.size)
      clear hbP hB12
      go_wp2
      go_loopw [15, 16] (fun k _ wr => ∃ n : Nat, n ≤ L ∧ k = .int .i64 n ∧ FlsAt wr vP KP ∧ Below w.heap.size w wr) (fun k _ _ => L - (intOf k).toNat)
      case atStart => exact ⟨0, by omega, rfl, hvP, hBP⟩
      case round =>
        clear hvP hBP
        obtain ⟨n, hn, rfl, hvP, hb⟩ := hrel
        by_cases hlt : n < L
        · have hltx : n < fs.length := by rw [HLE.out]; exact hlt
          have hfx := HX.out wr hb
          obtain ⟨b, o, hq, hc⟩ := hfx.cells (fun e => by rw [e] at hltx; simp at hltx)
          subst hq
          have HC : Hid (∀ W, Below wr.heap.size wr W → FlCells W b o fs) := fun W hb' => hc.below hb'
          have c0 := (hc n hltx).1
          have hk := HKP0.out n hltx
          have hcl := HFD.out wr vP fs[n].1 hb hvP
          have hi : (n : Int) < (L : Int) := by omega
          have hi0' : (0 : Int) ≤ (n : Int) := by omega
          have HC2 : Hid (∀ W, Below wr.heap.size wr W → W.cell? ⟨b, o + n * 6 + 3, none⟩ = some (.int .i64 fs[n].2.2.2.1) ∧ W.cell? ⟨b, o + n * 6 + 4, none⟩ = some (.int .i64 fs[n].2.2.2.2.1)) := fun W hb' => ⟨(HC.out W hb' n hltx).2.2.2.1, (HC.out W hb' n hltx).2.2.2.2.1⟩
          generalize findF KP fs[n].1 = FF at hk hcl
          generalize fs[n].2.2.2.1 = lo at hk HC2
          generalize fs[n].2.2.2.2.1 = hi at hk HC2
          generalize fs[n].1 = gp at c0 hcl
          clear hc HC hfx hltx
          go_wp2_with fail
          refine hcl.mono ?_
          rintro e wF ⟨rfl, hbF⟩
          clear hcl c0
          obtain ⟨c3, c4⟩ := HC2.out wF hbF
          have hvF := hvP.below hbF
          have hBF : Below w.heap.size w wF := hb.trans (hbF.mono hb.size)
          clear hvP hb hbF HC2
          by_cases hlo : lo ≤ key
          · by_cases hhi : key ≤ hi
            · have hF0 : (0 : Int) ≤ FF := hk.2 ⟨hlo, hhi⟩
              go_wp2
              go_roundw
              case rel => exact ⟨n + 1, by omega, by go_num, hvF, hBF⟩
              case measure => simp [intOf]; omega
            · have hF0 : ¬ (0 : Int) ≤ FF := fun e => hhi (hk.1 e).2
              go_wp2
              go_roundw
              case rel => exact ⟨n + 1, by omega, by go_num, hvF, hBF⟩
              case measure => simp [intOf]; omega
          · have hF0 : ¬ (0 : Int) ≤ FF := fun e => hlo (hk.1 e).1
            go_wp2
            go_roundw
            case rel => exact ⟨n + 1, by omega, by go_num, hvF, hBF⟩
            case measure => simp [intOf]; omega
        · obtain rfl : n = L := by omega
          go_wp2
          go_ret
          exact ⟨rfl, hb⟩
    · obtain ⟨t8, x8, rfl⟩ := ht8.bad had
      clear ht8 hv8 hfl8 had
      have hp := HPR.out w8 v4 hB8 hu8
      clear HPR HAF HAL HSM hu8
      go_wp2_with fail
      refine hp.mono ?_
      rintro e wP ⟨vP, rfl, hvP, hbP⟩
      clear hp
      have hBP : Below w.heap.size w wP := hB8.trans (hbP.mono hB8.size)
      clear hbP hB8
      go_wp2
      go_loopw [15, 16] (fun k _ wr => ∃ n : Nat, n ≤ L ∧ k = .int .i64 n ∧ FlsAt wr vP KP ∧ Below w.heap.size w wr) (fun k _ _ => L - (intOf k).toNat)
      case atStart => exact ⟨0, by omega, rfl, hvP, hBP⟩
      case round =>
        clear hvP hBP
        obtain ⟨n, hn, rfl, hvP, hb⟩ := hrel
        by_cases hlt : n < L
        · have hltx : n < fs.length := by rw [HLE.out]; exact hlt
          have hfx := HX.out wr hb
          obtain ⟨b, o, hq, hc⟩ := hfx.cells (fun e => by rw [e] at hltx; simp at hltx)
          subst hq
          have HC : Hid (∀ W, Below wr.heap.size wr W → FlCells W b o fs) := fun W hb' => hc.below hb'
          have c0 := (hc n hltx).1
          have hk := HKP0.out n hltx
          have hcl := HFD.out wr vP fs[n].1 hb hvP
          have hi : (n : Int) < (L : Int) := by omega
          have hi0' : (0 : Int) ≤ (n : Int) := by omega
          have HC2 : Hid (∀ W, Below wr.heap.size wr W → W.cell? ⟨b, o + n * 6 + 3, none⟩ = some (.int .i64 fs[n].2.2.2.1) ∧ W.cell? ⟨b, o + n * 6 + 4, none⟩ = some (.int .i64 fs[n].2.2.2.2.1)) := fun W hb' => ⟨(HC.out W hb' n hltx).2.2.2.1, (HC.out W hb' n hltx).2.2.2.2.1⟩
          generalize findF KP fs[n].1 = FF at hk hcl
          generalize fs[n].2.2.2.1 = lo at hk HC2
          generalize fs[n].2.2.2.2.1 = hi at hk HC2
          generalize fs[n].1 = gp at c0 hcl
          clear hc HC hfx hltx
          go_wp2_with fail
          refine hcl.mono ?_
          rintro e wF ⟨rfl, hbF⟩
          clear hcl c0
          obtain ⟨c3, c4⟩ := HC2.out wF hbF
          have hvF := hvP.below hbF
          have hBF : Below w.heap.size w wF := hb.trans (hbF.mono hb.size)
          clear hvP hb hbF HC2
          by_cases hlo : lo ≤ key
          · by_cases hhi : key ≤ hi
            · have hF0 : (0 : Int) ≤ FF := hk.2 ⟨hlo, hhi⟩
              go_wp2
              go_roundw
              case rel => exact ⟨n + 1, by omega, by go_num, hvF, hBF⟩
              case measure => simp [intOf]; omega
            · have hF0 : ¬ (0 : Int) ≤ FF := fun e => hhi (hk.1 e).2
              go_wp2
              go_roundw
              case rel => exact ⟨n + 1, by omega, by go_num, hvF, hBF⟩
              case measure => simp [intOf]; omega
          · have hF0 : ¬ (0 : Int) ≤ FF := fun e => hlo (hk.1 e).1
            go_wp2
            go_roundw
            case rel => exact ⟨n + 1, by omega, by go_num, hvF, hBF⟩
            case measure => simp [intOf]; omega
        · obtain rfl : n = L := by omega
          go_wp2
          go_ret
          exact ⟨rfl, hb⟩
  · rw [if_neg hok] at hg4
    clear HRD HKP HAD HPR HFD HAF HAL HSM
    go_wp2_with fail
    refine hg4.mono ?_
    rintro e w5 ⟨ev5, rfl, ht5, hb5⟩
    clear hg4
    obtain ⟨t5, x5, rfl⟩ := ht5.bad hok
    clear ht5
    go_wp2
    go_ret
    exact ⟨rfl, hB4.trans (hb5.mono hB4.size)⟩
end Go.Proofs.YtpkoefpdpoikkaaGreatDoor
namespace Go.Proofs.YtpkoefpdpoikkaaGreatDoor
open Go.ChangeShapes Go.WideShapes Go.ChangeAt Go.RowKit Go.Deep

theorem Tryz.cellsInt : Tryz.prog.cellsOf 3 = 1 := by kernel_rfl
theorem Tryz.cellsString : Tryz.prog.cellsOf 9 = 1 := by kernel_rfl

theorem addr_none {W : World} {a : Addr} {v : Value} (h : W.cell? a = some v) : a.spot = none := by
  unfold World.cell? at h
  split at h
  · split at h
    · cases h
    · rename_i hs; simpa using hs
  · cases h

section
variable {H : Type} {enc : TypeId × Value → H} {W : World} {base : Nat} {spare : Nat → Bool} {held : Bool}

end

theorem returns_and_shaped {H : Type} {enc : TypeId × Value → H} {a : Assume} {C : Checked} {os : Os} {f : FuncId} {fn : Func} {s : ChangeSpec} {conds : List PathCond} {apart fresh handsOn again : Bool} {X : World → Array Value → Prop}
    (hX : ∀ (w w' : World) (args : Array Value), w.heap = w'.heap → X w args → X w' args)
    (own : ownKnob C.prog.godebug = none) (started : os.Started) (noInit : C.prog.inits.idxOf? f = none) (hfn : C.prog.funcs[f]? = some fn)
    (witness : ∃ (w : World) (tape : Tape) (i : Input), w.os = os ∧ (w.forCall tape i).Shaped C.prog ∧ i.vars = [] ∧ Input.okWide C.prog (w.forCall tape i) .any w.heap.size f i ∧
      ((s.pre enc C.prog fn conds apart (w.forCall tape i).memory i.args ∧ X (w.forCall tape i).memory i.args) ∧ sizedMet enc C.prog fn (OpenSpec.ofChange s) apart (w.forCall tape i).memory i.args) ∧ a.holds C.prog (lone (Frame.enter C.prog f i.args .normal) [] (w.forCall tape i)))
    (contract : ∀ (W : World) (base : Nat) (args : Array Value) (ds gs : List (DataW H)) (before : List MemPlace),
      (∀ (j : Nat) t v, fn.params[j]? = some t → args[j]? = some v → Value.okWide C.prog W .any base t v) →
      DataW.Whole enc C.prog fn.params.toList s.vars apart W args.toList ds gs before → W.ShapedOpen C.prog → X W args →
      Calls C.prog f args W fun e W' => ∃ v, e = .returned v ∧ s.post enc C.prog fn apart fresh handsOn again W args v W') :
    ReturnsInHanded a C os f .any (fun w args => (s.pre enc C.prog fn conds apart w args ∧ X w args) ∧ sizedMet enc C.prog fn (OpenSpec.ofChange s) apart w args) (s.post enc C.prog fn apart fresh handsOn again) := by
  refine returnsInHanded_of_calls own started noInit witness fun w tape i _ hsh _ hok hpre _ => ?_
  obtain ⟨_, _, _, fn', hfn', _, _, _, _, hval⟩ := hok
  cases Option.some.inj (hfn'.symm.trans hfn)
  obtain ⟨⟨⟨ds, gs, before, hw, _⟩, hx⟩, _⟩ := hpre
  have hw' := DataW.Whole.of_heap (w' := w.forCall tape i) (by rfl) hw
  have hx' := hX _ (w.forCall tape i) _ (by rfl) hx
  refine (contract (w.forCall tape i) w.heap.size i.args ds gs before hval hw' hsh hx').mono fun e W' ⟨v, he, hp⟩ => ?_
  subst he
  exact ChangeSpec.post_blind hp
end Go.Proofs.YtpkoefpdpoikkaaGreatDoor
namespace Go.Proofs.YtpkoefpdpoikkaaGreatDoor
open Go.ChangeShapes Go.WideShapes Go.ChangeAt Go.RowKit Go.Lib Go.Shelf

theorem Tryz.cellsFile : Tryz.prog.cellsOf 23 = 6 := by kernel_rfl

theorem list6 {α : Type} {l : List α} (h : l.length = 6) : ∃ a b c d e f, l = [a, b, c, d, e, f] := by
  match l, h with
  | [a, b, c, d, e, f], _ => exact ⟨a, b, c, d, e, f, rfl⟩

theorem array6 {α : Type} {cs : Array α} (h : cs.size = 6) : ∃ a b c d e f, cs = #[a, b, c, d, e, f] := by
  obtain ⟨l⟩ := cs
  obtain ⟨a, b, c, d, e, f, rfl⟩ := list6 (l := l) h
  exact ⟨a, b, c, d, e, f, rfl⟩

section
variable {H : Type} {enc : TypeId × Value → H} {W : World} {base : Nat} {spare : Nat → Bool} {held : Bool}

set_option maxRecDepth 100000 in
theorem open_file {r : Reach} {b0 : Nat} {v : Value} {d : DataW H} {p : List MemPlace} (hv : Value.okWide Tryz.prog W r b0 23 v) (h : DataW.Trod enc Tryz.prog W base spare held 23 v d p) :
    ∃ f : Fl, v = flV f ∧ f.1.size ≤ maxLen ∧ f.2.1.size ≤ maxLen := by
  obtain ⟨cs, rfl, hsz⟩ := okWide_struct Tryz.underlying23 hv
  obtain ⟨c0, c1, c2, c3, c4, c5, rfl⟩ := array6 (hsz.trans Tryz.cellsFile)
  obtain ⟨fuel, hf⟩ := h
  have hf' : DataW.trod enc Tryz.prog W base spare held fuel 23 [c0, c1, c2, c3, c4, c5] = some (d, p) := by simpa [Value.cells] using hf
  obtain ⟨xs, n, _, _, _, hlen, hfs⟩ := DataW.trod_struct Tryz.underlying23 hf'
  obtain ⟨y0, y1, y2, y3, y4, y5, rfl⟩ := list6 (show xs.length = 6 from hlen)
  have f0 : DataW.trod enc Tryz.prog W base spare held n 9 [c0] = some y0 := by simpa [Tryz.cellsString] using hfs 0 _ rfl
  have f1 : DataW.trod enc Tryz.prog W base spare held n 9 [c1] = some y1 := by simpa [Tryz.cellsString] using hfs 1 _ rfl
  have f2 : DataW.trod enc Tryz.prog W base spare held n 3 [c2] = some y2 := by simpa [Tryz.cellsInt] using hfs 2 _ rfl
  have f3 : DataW.trod enc Tryz.prog W base spare held n 3 [c3] = some y3 := by simpa [Tryz.cellsInt] using hfs 3 _ rfl
  have f4 : DataW.trod enc Tryz.prog W base spare held n 3 [c4] = some y4 := by simpa [Tryz.cellsInt] using hfs 4 _ rfl
  have f5 : DataW.trod enc Tryz.prog W base spare held n 3 [c5] = some y5 := by simpa [Tryz.cellsInt] using hfs 5 _ rfl
  obtain ⟨s0, e0, _, h0⟩ := DataW.trod_string Tryz.underlying9 f0
  obtain ⟨s1, e1, _, h1⟩ := DataW.trod_string Tryz.underlying9 f1
  obtain ⟨k2, e2, _, _⟩ := DataW.trod_int Tryz.underlying3 f2
  obtain ⟨k3, e3, _, _⟩ := DataW.trod_int Tryz.underlying3 f3
  obtain ⟨k4, e4, _, _⟩ := DataW.trod_int Tryz.underlying3 f4
  obtain ⟨k5, e5, _, _⟩ := DataW.trod_int Tryz.underlying3 f5
  simp only [List.cons.injEq, and_true] at e0 e1 e2 e3 e4 e5
  exact ⟨(s0, s1, k2, k3, k4, k5), by rw [e0, e1, e2, e3, e4, e5]; rfl, h0, h1⟩
end
end Go.Proofs.YtpkoefpdpoikkaaGreatDoor
