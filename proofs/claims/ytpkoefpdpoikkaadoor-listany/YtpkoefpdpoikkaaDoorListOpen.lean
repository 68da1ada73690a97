/-
  Lists of files, as they came in.
-/
import Derived.Test.YtpkoefpdpoikkaaDoorListAdd
import Derived.ProofKit
import Derived.Deep.Strs
import Derived.HandedShaped
namespace Go.Proofs.YtpkoefpdpoikkaaDoor
open Go.RowKit Go.Extern.Stop Go.Stop Go.Extern Go.Sort Go.Shelf Go.Lib

theorem listK (a : Nat → Addr) : ListK a (fun W => EnvL W a) where
  below := fun _ _ h hb => h.below hb
  check := fun W v fs h hx hl hs => lcheck_any v fs W a h hx hl hs
  text := fun W v fs h hx hl hs => ltext_any v fs W a h hx hl hs
  add := fun W v fs f h hx hl hs h1 h2 => ladd_any v fs f W a h hx hl hs h1 h2
  remove := fun W v fs p h hx hl hs _ => lremove_any v fs p W a h hx hl hs
  find := fun W v fs p _ hx hl => find_any v fs p W hx (by omega)

end Go.Proofs.YtpkoefpdpoikkaaDoor
namespace Go.Proofs.YtpkoefpdpoikkaaDoor
open Go.RowKit Go.Extern.Stop Go.Stop Go.Extern Go.Sort Go.Shelf Go.Lib

theorem rises_sub {fs gs : List Fl} (h : Rises 0 fs) (hs : List.Sublist gs fs) : Rises 0 gs := ⟨fun f hf => h.1 f (hs.subset hf), h.2.sublist hs⟩

theorem add_free {fs : List Fl} {f : Fl} (h : (listE fs).1 = 0) (hf : fileE f = 0) (hn : ∀ j (hj : j < fs.length), fs[j].1 ≠ f.1) (hl : fs.length < 60) : addE fs f = (0, none) ∧ addL fs f = placeL fs f := by
  have e : addE fs f = (0, none) := by
    unfold addE
    rw [if_neg (by simpa using h), if_neg (by simpa using hf), findF_no hn, if_neg (by decide), if_neg (by omega)]
  exact ⟨e, by unfold addL; rw [e, if_pos rfl]⟩

theorem add_front {fs : List Fl} (h : (listE fs).1 = 0) {j : Nat} (hj : j < fs.length) : addE (fs.drop (j + 1)) fs[j] = (0, none) ∧ addL (fs.drop (j + 1)) fs[j] = fs.drop j := by
  obtain ⟨hl, hr⟩ := listE_ok.1 h
  have hd : (listE (fs.drop (j + 1))).1 = 0 := listE_ok.2 ⟨by rw [List.length_drop]; omega, rises_sub hr (List.drop_sublist _ _)⟩
  obtain ⟨e1, e2⟩ := add_free (f := fs[j]) hd (hr.1 _ (List.getElem_mem _)).1 (fun i hi e => by
    rw [List.length_drop] at hi
    rw [List.getElem_drop] at e
    have := rises_path hr (i := j + 1 + i) (j := j) (by omega) hj e
    omega) (by rw [List.length_drop]; omega)
  refine ⟨e1, ?_⟩
  rw [e2]
  have := place_mid (xs := []) (ys := fs.drop (j + 1)) (f := fs[j]) (by simp) (fun g hg => by
    obtain ⟨i, hi, rfl⟩ := List.mem_iff_getElem.1 hg
    rw [List.length_drop] at hi
    rw [List.getElem_drop]
    exact List.pairwise_iff_getElem.1 hr.2 j (j + 1 + i) hj (by omega) (by omega))
  rw [List.nil_append] at this
  rw [this, List.nil_append, List.getElem_cons_drop]

theorem out_in {fs : List Fl} (h : (listE fs).1 = 0) {i : Nat} (hi : i < fs.length) : remE fs fs[i].1 = (0, none) ∧ remL fs fs[i].1 = fs.eraseIdx i ∧ (fs.eraseIdx i).length + 1 = fs.length ∧ findF (fs.eraseIdx i) fs[i].1 < 0 ∧ addE (fs.eraseIdx i) fs[i] = (0, none) ∧ addL (fs.eraseIdx i) fs[i] = fs := by
  obtain ⟨hl, hr⟩ := listE_ok.1 h
  obtain ⟨b1, b2⟩ := place_back hr hi
  have hfi : findF fs fs[i].1 = i := findF_at hi (fun j hj hjn e => by
    have := rises_path hr hj hi e
    omega) rfl
  have hle : (fs.eraseIdx i).length + 1 = fs.length := by rw [List.length_eraseIdx_of_lt hi]; omega
  have e1 : remE fs fs[i].1 = (0, none) := by
    unfold remE
    rw [if_neg (by simpa using h), hfi, if_neg (by omega)]
  have hno : ∀ j (hj : j < (fs.eraseIdx i).length), (fs.eraseIdx i)[j].1 ≠ fs[i].1 := fun j hj e => by
    have hall : ∀ g ∈ fs.eraseIdx i, g.1 ≠ fs[i].1 := fun g hg => by
      rw [← b1, List.mem_filter] at hg
      exact of_decide_eq_true hg.2
    exact hall _ (List.getElem_mem hj) e
  have hd : (listE (fs.eraseIdx i)).1 = 0 := listE_ok.2 ⟨by omega, rises_sub hr (List.eraseIdx_sublist _ _)⟩
  obtain ⟨e2, e3⟩ := add_free (f := fs[i]) hd (hr.1 _ (List.getElem_mem _)).1 hno (by omega)
  refine ⟨e1, ?_, hle, by rw [findF_no hno]; decide, e2, by rw [e3, b2]⟩
  unfold remL
  rw [e1, if_pos rfl]
  exact b1

set_option maxRecDepth 100000 in
set_option maxHeartbeats 16000000 in
theorem listAny_any (q : Option Addr) (cap : Nat) (fs : List Fl) (at_ : Int) (w : World) (a : Nat → Addr) (EL : World → Prop) (K : ListK a EL) (h : EL w) (hx : FlsAt w (.slice q fs.length cap) fs) (hl : fs.length ≤ maxLen) (hsz : ∀ g ∈ fs, g.1.size ≤ maxLen ∧ g.2.1.size ≤ maxLen) :
    Calls Tryd.prog 3 #[.slice q fs.length cap, .int .i64 at_] w fun e w' => e = .returned (.bool true) ∧ Below w.heap.size w w' := by
  have HL : Hid (∀ W, Below w.heap.size w W → EL W) := fun W hb => K.below _ _ h hb
  have HX : Hid (∀ W, Below w.heap.size w W → FlsAt W (.slice q fs.length cap) fs) := fun W hb => hx.below hb
  have hd1 := listed_any w a EL K h
  have hlo := fun W (hb : Below w.heap.size w W) => longFiles_any (.slice q fs.length cap) fs W (HX.out W hb) hl hsz
  unfold maxLen at hl
  cases hlb : longFs fs
  case true =>
    simp only [hlb, if_true] at hlo
    generalize fs.length = L at hl hlo hx HX ⊢
    go_enter Tryd.func3, Tryd.ntmps3
    go_wp2_with fail
    refine hd1.mono ?_
    rintro e w1 ⟨rfl, hb1⟩
    have hl1 := hlo w1 hb1
    clear hd1 hlo
    go_wp2_with fail
    refine hl1.mono ?_
    rintro e w2 ⟨rfl, hb2⟩
    clear hl1
    go_wp2
    go_ret
    exact ⟨rfl, hb1.trans (hb2.mono hb1.size)⟩
  case false =>
  obtain ⟨hl61, hsh⟩ := longFs_no hlb
  simp only [hlb, Bool.false_eq_true, if_false] at hlo
  by_cases hat : at_ < 0
  · generalize fs.length = L at hl hlo hx HX hl61 ⊢
    go_enter Tryd.func3, Tryd.ntmps3
    go_wp2_with fail
    refine hd1.mono ?_
    rintro e w1 ⟨rfl, hb1⟩
    have hl1 := hlo w1 hb1
    clear hd1 hlo
    go_wp2_with fail
    refine hl1.mono ?_
    rintro e w2 ⟨rfl, hb2⟩
    clear hl1
    go_wp2
    go_ret
    exact ⟨rfl, hb1.trans (hb2.mono hb1.size)⟩
  have how := fun W (hb : Below w.heap.size w W) => ownFiles_any (.slice q fs.length cap) fs W (HX.out W hb) (by omega)
  have HCK : Hid (∀ W v, Below w.heap.size w W → FlsAt W v fs → Calls Tryd.prog 7 #[v] W fun e w' => ∃ ev, e = .returned ev ∧ ToldE w' a ev (listE fs) ∧ Below W.heap.size W w') := fun W v hb hv => K.check W v fs (HL.out W hb) hv (by omega) hsh
  have HSM : Hid (∀ W v, FlsAt W v fs → Below w.heap.size w W → Calls Tryd.prog 9 #[v, .slice q fs.length cap] W fun e w' => e = .returned (.bool true) ∧ Below W.heap.size W w') := fun W v hv hb => sameFiles_yes _ _ fs W hv (HX.out W hb) (by omega)
  have HAD : Hid ((listE fs).1 = 0 → ∀ j (hj : j < fs.length) W v, Below w.heap.size w W → FlsAt W v (fs.drop (j + 1)) → Calls Tryd.prog 8 #[v, flV fs[j]] W fun e w' => ∃ v', e = .returned (.tuple #[v', .nilIface]) ∧ FlsAt w' v' (fs.drop j) ∧ Below W.heap.size W w') := fun h0 j hj W v hb hv => by
    obtain ⟨e1, e2⟩ := add_front h0 hj
    have h' := K.add W v (fs.drop (j + 1)) fs[j] (HL.out W hb) hv (by rw [List.length_drop]; omega) (fun g hg => hsh g (List.mem_of_mem_drop hg)) (hsh _ (List.getElem_mem _)).1 (hsh _ (List.getElem_mem _)).2
    rw [e1, e2] at h'
    refine h'.mono ?_
    rintro e w' ⟨v', ev, he, hv', ht, hb'⟩
    obtain rfl : ev = .nilIface := ht
    exact ⟨v', he, hv', hb'⟩
  have HRM : Hid ((listE fs).1 = 0 → ∀ i (hi : i < fs.length) W v, Below w.heap.size w W →
      (FlsAt W v fs → Calls Tryd.prog 10 #[v, .string fs[i].1] W fun e w' => ∃ v', e = .returned (.tuple #[v', .nilIface]) ∧ FlsAt w' v' (fs.eraseIdx i) ∧ Below W.heap.size W w') ∧
      (FlsAt W v (fs.eraseIdx i) → Calls Tryd.prog 11 #[v, .string fs[i].1] W fun e w' => e = .returned (.int .i64 (findF (fs.eraseIdx i) fs[i].1)) ∧ Below W.heap.size W w') ∧
      (FlsAt W v (fs.eraseIdx i) → Calls Tryd.prog 8 #[v, flV fs[i]] W fun e w' => ∃ v', e = .returned (.tuple #[v', .nilIface]) ∧ FlsAt w' v' fs ∧ Below W.heap.size W w')) := fun h0 i hi W v hb => by
    obtain ⟨e1, e2, e3, e4, e5, e6⟩ := out_in h0 hi
    have hs' : Short (fs.eraseIdx i) := fun g hg => hsh g ((List.eraseIdx_sublist _ _).subset hg)
    have hi30 := hsh fs[i] (List.getElem_mem _)
    refine ⟨fun hv => ?_, fun hv => K.find W v _ _ (HL.out W hb) hv (by omega), fun hv => ?_⟩
    · have h' := K.remove W v fs fs[i].1 (HL.out W hb) hv (by omega) hsh hi30.1
      rw [e1, e2] at h'
      refine h'.mono ?_
      rintro e w' ⟨v', ev, he, hv', ht, hb'⟩
      obtain rfl : ev = .nilIface := ht
      exact ⟨v', he, hv', hb'⟩
    · have h' := K.add W v (fs.eraseIdx i) fs[i] (HL.out W hb) hv (by omega) hs' hi30.1 hi30.2
      rw [e5, e6] at h'
      refine h'.mono ?_
      rintro e w' ⟨v', ev, he, hv', ht, hb'⟩
      obtain rfl : ev = .nilIface := ht
      exact ⟨v', he, hv', hb'⟩
  have HOI : Hid ((listE fs).1 = 0 → ∀ i (hi : i < fs.length), (fs.eraseIdx i).length + 1 = fs.length ∧ findF (fs.eraseIdx i) fs[i].1 < 0) := fun h0 i hi => by
    obtain ⟨e1, e2, e3, e4, e5, e6⟩ := out_in h0 hi
    exact ⟨e3, e4⟩
  obtain ⟨L, hL⟩ : ∃ L, fs.length = L := ⟨_, rfl⟩
  rw [hL] at hl hlo how HSM HX ⊢
  have HLE : Hid (fs.length = L) := hL
  have hL61 : L ≤ 61 := by rw [← hL]; exact hl61
  clear hL hx hl61 hlb hsz hsh
  go_enter Tryd.func3, Tryd.ntmps3
  go_wp2_with fail
  refine hd1.mono ?_
  rintro e w1 ⟨rfl, hB1⟩
  have hl1 := hlo w1 hB1
  clear hd1 hlo
  go_wp2_with fail
  refine hl1.mono ?_
  rintro e w2 ⟨rfl, hb2⟩
  clear hl1
  have hB2 : Below w.heap.size w w2 := hB1.trans (hb2.mono hB1.size)
  have ho2 := how w2 hB2
  clear how hb2 hB1
  go_wp2_with fail
  refine ho2.mono ?_
  rintro e w3 ⟨v3, rfl, ow3, hb3⟩
  clear ho2
  have hv3 := (flsAt_of_own ow3).1
  have hB3 : Below w.heap.size w w3 := hB2.trans (hb3.mono hB2.size)
  have hc3 := HCK.out w3 v3 hB3 hv3
  clear ow3 hb3 hB2 HCK
  go_wp2_with fail
  refine hc3.mono ?_
  rintro e w4 ⟨ev4, rfl, ht4, hb4⟩
  clear hc3
  have hB4 : Below w.heap.size w w4 := hB3.trans (hb4.mono hB3.size)
  have hv4 := hv3.below hb4
  clear hv3 hb4 hB3
  by_cases hok : (listE fs).1 = 0
  · obtain rfl := ht4.ok hok
    have HAD0 := HAD.out hok
    have HRM0 := HRM.out hok
    have HOI0 := HOI.out hok
    have HA : Hid (∀ j (hj : j < fs.length) W v, Below w.heap.size w W → FlsAt W v (fs.drop (j + 1)) → Calls Tryd.prog 8 #[v, flV fs[j]] W fun e w' => ∃ v', e = .returned (.tuple #[v', .nilIface]) ∧ FlsAt w' v' (fs.drop j) ∧ Below W.heap.size W w') := HAD0
    clear HAD HRM HOI ht4 HAD0
    have hwL : IntKind.i64.wrap ((L : Int) - 1) = (L : Int) - 1 := IntWalk.i64_in _ (by omega)
    go_wp2
    go_loopw [7, 8] (fun v k wr => ∃ m : Nat, m ≤ L ∧ k = .int .i64 ((m : Int) - 1) ∧ FlsAt wr v (fs.drop m) ∧ FlsAt wr v3 fs ∧ Below w.heap.size w wr) (fun _ k _ => ((intOf k) + 1).toNat)
    case atStart => exact ⟨L, by omega, by first | rfl | rw [hwL], Or.inl ⟨none, 0, rfl, fun _ => rfl, List.drop_eq_nil_of_le (by rw [HLE.out]; exact Nat.le_refl _)⟩, hv4, hB4⟩
    case round =>
      clear hv4 hB4
      obtain ⟨m, hm, hk, hv, hu, hb⟩ := hrel
      cases m with
      | succ j =>
        have hk' : u8 = .int .i64 (j : Int) := by rw [hk]; congr 1; omega
        subst hk'
        clear hk
        have hjx : j < fs.length := by rw [HLE.out]; omega
        obtain ⟨b, o, hq, hc⟩ := (HX.out wr hb).cells (fun e => by rw [e] at hjx; simp at hjx)
        subst hq
        obtain ⟨c0, c1, c2, c3, c4, c5⟩ := hc j hjx
        have ha := HA.out j hjx wr u7 hb hv
        have hi : (j : Int) < (L : Int) := by omega
        have hi0' : (0 : Int) ≤ (j : Int) := by omega
        have hwj : IntKind.i64.wrap ((j : Int) - 1) = (j : Int) - 1 := IntWalk.i64_in _ (by omega)
        unfold flV at ha
        generalize fs[j] = f at c0 c1 c2 c3 c4 c5 ha
        obtain ⟨fp, fq, fn, flo, fhi, fseq⟩ := f
        dsimp only at c0 c1 c2 c3 c4 c5 ha
        clear hc hjx
        go_wp2_with fail
        refine ha.mono ?_
        rintro e w5 ⟨v5, rfl, hv5, hb5⟩
        clear ha c0 c1 c2 c3 c4 c5
        have hB5 : Below w.heap.size w w5 := hb.trans (hb5.mono hb.size)
        have hu5 := hu.below hb5
        go_wp2
        go_roundw
        case rel => exact ⟨j, by omega, by first | rfl | rw [hwj], hv5, hu5, hB5⟩
        case measure => simp [intOf] <;> omega
      | zero =>
        have hk' : u8 = .int .i64 (-1) := by rw [hk]; rfl
        subst hk'
        clear hk
        rw [List.drop_zero] at hv
        have hs := HSM.out wr u7 hv hb
        go_wp2_with fail
        refine hs.mono ?_
        rintro e w5 ⟨rfl, hb5⟩
        clear hs hv
        have hB5 : Below w.heap.size w w5 := hb.trans (hb5.mono hb.size)
        have hu5 := hu.below hb5
        clear hu hb hb5
        by_cases hge : (L : Int) ≤ at_
        · go_wp2
          go_ret
          exact ⟨rfl, hB5⟩
        · obtain ⟨i, rfl⟩ : ∃ i : Nat, at_ = i := ⟨at_.toNat, by omega⟩
          have hiL : i < L := by omega
          have hix : i < fs.length := by rw [HLE.out]; exact hiL
          obtain ⟨b, o, hq, hc⟩ := (HX.out w5 hB5).cells (fun e => by rw [e] at hix; simp at hix)
          subst hq
          have HC : Hid (∀ W, Below w5.heap.size w5 W → FlCells W b o fs) := fun W hb' => hc.below hb'
          have hrm := HRM0 i hix
          obtain ⟨hel, hfn⟩ := HOI0 i hix
          rw [HLE.out] at hel
          have c0 := (hc i hix).1
          have HC2 : Hid (∀ W, Below w5.heap.size w5 W → W.cell? ⟨b, o + i * 6, none⟩ = some (.string fs[i].1) ∧ W.cell? ⟨b, o + i * 6 + 1, none⟩ = some (.string fs[i].2.1) ∧ W.cell? ⟨b, o + i * 6 + 2, none⟩ = some (.int .i64 fs[i].2.2.1) ∧ W.cell? ⟨b, o + i * 6 + 3, none⟩ = some (.int .i64 fs[i].2.2.2.1) ∧ W.cell? ⟨b, o + i * 6 + 4, none⟩ = some (.int .i64 fs[i].2.2.2.2.1) ∧ W.cell? ⟨b, o + i * 6 + 5, none⟩ = some (.int .i64 fs[i].2.2.2.2.2)) := fun W hb' => HC.out W hb' i hix
          have i1 : (i : Int) < (L : Int) := by omega
          have i2 : (0 : Int) ≤ (i : Int) := by omega
          have i3 : ¬ (i : Int) < 0 := by omega
          unfold flV at hrm
          generalize fs[i] = f at c0 hrm hfn HC2
          obtain ⟨fp, fq, fn, flo, fhi, fseq⟩ := f
          dsimp only at c0 hrm hfn HC2
          generalize findF (fs.eraseIdx i) fp = FN at hrm hfn
          generalize fs.eraseIdx i = ER at hrm hel
          have hr5 := (hrm w5 v3 hB5).1 hu5
          clear hc HC hix hge
          go_wp2_with fail
          refine hr5.mono ?_
          rintro e w6 ⟨v6, rfl, hv6, hb6⟩
          clear hr5 c0
          have hB6 : Below w.heap.size w w6 := hB5.trans (hb6.mono hB5.size)
          have h56 : Below w5.heap.size w5 w6 := hb6
          have c0 := (HC2.out w6 h56).1
          have hf6 := (hrm w6 v6 hB6).2.1 hv6
          obtain ⟨q6, c6, e6⟩ := hv6.form
          obtain ⟨N, hN⟩ : ∃ N, L = N + 1 := ⟨L - 1, by omega⟩
          have hEN : ER.length = N := by omega
          rw [hEN] at e6
          subst e6
          subst hN
          have hwN : ((N : Int) == (N : Int)) = true := by simp
          have hnn : ¬ (0 : Int) ≤ FN := by omega
          clear hb6
          go_wp2_with fail
          refine hf6.mono ?_
          rintro e w7 ⟨rfl, hb7⟩
          clear hf6 c0
          have hB7 : Below w.heap.size w w7 := hB6.trans (hb7.mono hB6.size)
          have h57 : Below w5.heap.size w5 w7 := h56.trans (hb7.mono h56.size)
          obtain ⟨c0, c1, c2, c3, c4, c5⟩ := HC2.out w7 h57
          have hv7 := hv6.below hb7
          have ha7 := (hrm w7 _ hB7).2.2 hv7
          clear hv6 hb7 hB6 h56 hrm
          go_wp2_with fail
          refine ha7.mono ?_
          rintro e w8 ⟨v8, rfl, hv8, hb8⟩
          clear ha7 c0 c1 c2 c3 c4 c5 hv7
          have hB8 : Below w.heap.size w w8 := hB7.trans (hb8.mono hB7.size)
          have hs8 := HSM.out w8 v8 hv8 hB8
          clear hv8
          go_wp2_with fail
          refine hs8.mono ?_
          rintro e w9 ⟨rfl, hb9⟩
          clear hs8
          go_wp2
          go_ret
          exact ⟨rfl, hB8.trans (hb9.mono hB8.size)⟩
  · obtain ⟨t4, x4, rfl⟩ := ht4.bad hok
    clear ht4 HAD HRM HOI HSM
    go_wp2
    go_ret
    exact ⟨rfl, hB4⟩
end Go.Proofs.YtpkoefpdpoikkaaDoor
namespace Go.Proofs.YtpkoefpdpoikkaaDoor
open Go.ChangeShapes Go.WideShapes Go.ChangeAt Go.RowKit Go.Deep

theorem Tryd.cellsInt : Tryd.prog.cellsOf 3 = 1 := by kernel_rfl
theorem Tryd.cellsString : Tryd.prog.cellsOf 9 = 1 := by kernel_rfl

theorem addr_none {W : World} {a : Addr} {v : Value} (h : W.cell? a = some v) : a.spot = none := by
  unfold World.cell? at h
  split at h
  · split at h
    · cases h
    · rename_i hs; simpa using hs
  · cases h

section
variable {H : Type} {enc : TypeId × Value → H} {W : World} {base : Nat} {spare : Nat → Bool} {held : Bool}

end

theorem returns_and_shaped {H : Type} {enc : TypeId × Value → H} {a : Assume} {C : Checked} {os : Os} {f : FuncId} {fn : Func} {s : ChangeSpec} {conds : List PathCond} {apart fresh handsOn again : Bool} {X : World → Array Value → Prop}
    (hX : ∀ (w w' : World) (args : Array Value), w.heap = w'.heap → X w args → X w' args)
    (own : ownKnob C.prog.godebug = none) (started : os.Started) (noInit : C.prog.inits.idxOf? f = none) (hfn : C.prog.funcs[f]? = some fn)
    (witness : ∃ (w : World) (tape : Tape) (i : Input), w.os = os ∧ (w.forCall tape i).Shaped C.prog ∧ i.vars = [] ∧ Input.okWide C.prog (w.forCall tape i) .any w.heap.size f i ∧
      ((s.pre enc C.prog fn conds apart (w.forCall tape i).memory i.args ∧ X (w.forCall tape i).memory i.args) ∧ sizedMet enc C.prog fn (OpenSpec.ofChange s) apart (w.forCall tape i).memory i.args) ∧ a.holds C.prog (lone (Frame.enter C.prog f i.args .normal) [] (w.forCall tape i)))
    (contract : ∀ (W : World) (base : Nat) (args : Array Value) (ds gs : List (DataW H)) (before : List MemPlace),
      (∀ (j : Nat) t v, fn.params[j]? = some t → args[j]? = some v → Value.okWide C.prog W .any base t v) →
      DataW.Whole enc C.prog fn.params.toList s.vars apart W args.toList ds gs before → W.ShapedOpen C.prog → X W args →
      Calls C.prog f args W fun e W' => ∃ v, e = .returned v ∧ s.post enc C.prog fn apart fresh handsOn again W args v W') :
    ReturnsInHanded a C os f .any (fun w args => (s.pre enc C.prog fn conds apart w args ∧ X w args) ∧ sizedMet enc C.prog fn (OpenSpec.ofChange s) apart w args) (s.post enc C.prog fn apart fresh handsOn again) := by
  refine returnsInHanded_of_calls own started noInit witness fun w tape i _ hsh _ hok hpre _ => ?_
  obtain ⟨_, _, _, fn', hfn', _, _, _, _, hval⟩ := hok
  cases Option.some.inj (hfn'.symm.trans hfn)
  obtain ⟨⟨⟨ds, gs, before, hw, _⟩, hx⟩, _⟩ := hpre
  have hw' := DataW.Whole.of_heap (w' := w.forCall tape i) (by rfl) hw
  have hx' := hX _ (w.forCall tape i) _ (by rfl) hx
  refine (contract (w.forCall tape i) w.heap.size i.args ds gs before hval hw' hsh hx').mono fun e W' ⟨v, he, hp⟩ => ?_
  subst he
  exact ChangeSpec.post_blind hp
end Go.Proofs.YtpkoefpdpoikkaaDoor
namespace Go.Proofs.YtpkoefpdpoikkaaDoor
open Go.ChangeShapes Go.WideShapes Go.ChangeAt Go.RowKit Go.Lib Go.Shelf

theorem Tryd.cellsFile : Tryd.prog.cellsOf 32 = 6 := by kernel_rfl

theorem list6 {α : Type} {l : List α} (h : l.length = 6) : ∃ a b c d e f, l = [a, b, c, d, e, f] := by
  match l, h with
  | [a, b, c, d, e, f], _ => exact ⟨a, b, c, d, e, f, rfl⟩

section
variable {H : Type} {enc : TypeId × Value → H} {W : World} {base : Nat} {spare : Nat → Bool} {held : Bool}

end
end Go.Proofs.YtpkoefpdpoikkaaDoor
namespace Go.Proofs.YtpkoefpdpoikkaaDoor
open Go.ChangeShapes Go.WideShapes Go.ChangeAt Go.RowKit Go.Deep Go.Lib Go.Shelf

section
variable {H : Type} {enc : TypeId × Value → H} {W : World} {base : Nat} {spare : Nat → Bool} {held : Bool}

set_option maxRecDepth 100000 in
theorem open_six {fuel : Nat} {cs : List Value} {x : DataW H × List MemPlace} (h : DataW.trod enc Tryd.prog W base spare held fuel 32 cs = some x) :
    ∃ f : Fl, cs = encF f ∧ f.1.size ≤ maxLen ∧ f.2.1.size ≤ maxLen := by
  obtain ⟨xs, n, _, _, hl, hlen, hfs⟩ := DataW.trod_struct Tryd.underlying32 h
  obtain ⟨c0, c1, c2, c3, c4, c5, rfl⟩ := list6 (hl.trans Tryd.cellsFile)
  obtain ⟨y0, y1, y2, y3, y4, y5, rfl⟩ := list6 (show xs.length = 6 from hlen)
  have f0 : DataW.trod enc Tryd.prog W base spare held n 9 [c0] = some y0 := by simpa [Tryd.cellsString] using hfs 0 _ rfl
  have f1 : DataW.trod enc Tryd.prog W base spare held n 9 [c1] = some y1 := by simpa [Tryd.cellsString] using hfs 1 _ rfl
  have f2 : DataW.trod enc Tryd.prog W base spare held n 3 [c2] = some y2 := by simpa [Tryd.cellsInt] using hfs 2 _ rfl
  have f3 : DataW.trod enc Tryd.prog W base spare held n 3 [c3] = some y3 := by simpa [Tryd.cellsInt] using hfs 3 _ rfl
  have f4 : DataW.trod enc Tryd.prog W base spare held n 3 [c4] = some y4 := by simpa [Tryd.cellsInt] using hfs 4 _ rfl
  have f5 : DataW.trod enc Tryd.prog W base spare held n 3 [c5] = some y5 := by simpa [Tryd.cellsInt] using hfs 5 _ rfl
  obtain ⟨s0, e0, _, h0⟩ := DataW.trod_string Tryd.underlying9 f0
  obtain ⟨s1, e1, _, h1⟩ := DataW.trod_string Tryd.underlying9 f1
  obtain ⟨k2, e2, _, _⟩ := DataW.trod_int Tryd.underlying3 f2
  obtain ⟨k3, e3, _, _⟩ := DataW.trod_int Tryd.underlying3 f3
  obtain ⟨k4, e4, _, _⟩ := DataW.trod_int Tryd.underlying3 f4
  obtain ⟨k5, e5, _, _⟩ := DataW.trod_int Tryd.underlying3 f5
  simp only [List.cons.injEq, and_true] at e0 e1 e2 e3 e4 e5
  exact ⟨(s0, s1, k2, k3, k4, k5), by rw [e0, e1, e2, e3, e4, e5]; rfl, h0, h1⟩

theorem open_files {fuel : Nat} {v : Value} {x : DataW H × List MemPlace} (h : DataW.trod enc Tryd.prog W base spare held fuel 22 [v] = some x) :
    ∃ fs : List Fl, FlsAt W v fs ∧ fs.length ≤ maxLen ∧ ∀ g ∈ fs, g.1.size ≤ maxLen ∧ g.2.1.size ≤ maxLen := by
  rcases open_slice Tryd.underlying22 h with ⟨e, _⟩ | ⟨a, len, cap, m, n, D, Pl, e, _, hl, hm, hmm, _, hx⟩
  · simp only [List.cons.injEq, and_true] at e
    exact ⟨[], Or.inl ⟨none, 0, e, fun _ => rfl, rfl⟩, by decide, fun _ h => by cases h⟩
  · simp only [List.cons.injEq, and_true] at e
    rw [Tryd.cellsFile] at hx
    have hlm : len ≤ m := by rw [hmm]; split <;> omega
    have each : ∀ i, i < len → ∃ f : Fl, (∀ c u, (encF f)[c]? = some u → W.cell? (a.add (i * 6 + c)) = some u) ∧ f.1.size ≤ maxLen ∧ f.2.1.size ≤ maxLen := fun i hi => by
      obtain ⟨cs', h1, h2⟩ := hx i (by omega)
      obtain ⟨_, _, hcell⟩ := World.cells?_some h1
      obtain ⟨f, hr, hk⟩ := open_six h2
      subst hr
      refine ⟨f, fun c u hu => ?_, hk⟩
      have hc : c < 6 := by
        rcases Nat.lt_or_ge c 6 with h' | h'
        · exact h'
        · rw [List.getElem?_eq_none (by rw [encF_len]; exact h')] at hu; cases hu
      have e0 := hcell c hc
      rw [add_add] at e0
      rw [e0]
      exact hu
    obtain ⟨f, hf⟩ := choose_lt each
    rcases Nat.eq_zero_or_pos len with h0 | hpos
    · subst h0
      exact ⟨[], Or.inl ⟨_, _, e, fun h => (nomatch h), rfl⟩, by decide, fun _ h => by cases h⟩
    · have hsp := addr_none ((hf 0 hpos).1 0 _ rfl)
      have hsp' : a.spot = none := by
        cases a with | mk b o spt => cases spt <;> simp [Addr.add] at hsp ⊢
      obtain ⟨b, o, spt⟩ := a
      simp only at hsp'
      subst hsp'
      refine ⟨(List.range len).map f, Or.inr ⟨b, o, cap, by simpa using e, by simpa using hl, flCells_of fun t u hu => ?_⟩, by simp; omega, fun r hr => ?_⟩
      · have ht : t < (flatF ((List.range len).map f)).length := by
          rcases Nat.lt_or_ge t (flatF ((List.range len).map f)).length with h' | h'
          · exact h'
          · rw [List.getElem?_eq_none h'] at hu; cases hu
        rw [flatF_len, List.length_map, List.length_range] at ht
        have hj : t / 6 < len := by omega
        have et : t = t / 6 * 6 + t % 6 := by omega
        rw [et, flatF_get _ (t / 6) (t % 6) (by simpa using hj) (by omega), List.getElem_map, List.getElem_range] at hu
        have h' := (hf (t / 6) hj).1 (t % 6) u hu
        rw [Addr.add_lit, ← et] at h'
        exact h'
      · simp only [List.mem_map, List.mem_range] at hr
        obtain ⟨i, hi, rfl⟩ := hr
        exact (hf i hi).2
end
end Go.Proofs.YtpkoefpdpoikkaaDoor
