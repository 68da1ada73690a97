/-
  The contract of list.place: a place is sought by halves.
-/
import Derived.Test.YtgffkkijfmoooacDoorListTold
import Derived.Test.YtgffkkijfmoooacDoorListOrd
namespace Go.Proofs.YtgffkkijfmoooacDoor
open Go.RowKit Go.Extern.Stop Go.Stop Go.Extern Go.Sort Go.Shelf Go.Lib

set_option maxRecDepth 100000 in
set_option maxHeartbeats 1000000 in
theorem place1_any (f : Fl) (p : ByteArray) (w : World) (a : Nat → Addr) (h : EnvN w a) (hf : f.1.size ≤ 100000) (hp : p.size ≤ 100000) (hfo : pathO f.1.data.toList ≠ none) (hpo : pathO p.data.toList ≠ none) :
    Calls Tryd.prog 30 #[flV f, .string p] w fun e w' => e = .returned (.int .i64 (Lib.compareInt (fk f) (pk p.data.toList))) ∧ Below w.heap.size w w' := by
  have hal : Below w.heap.size w (w.alloc (.cells #[.string f.1, .string f.2.1, .int .i64 f.2.2.1, .int .i64 f.2.2.2.1, .int .i64 f.2.2.2.2.1, .int .i64 f.2.2.2.2.2] 32)) := (Below.refl _ _).alloc (Nat.le_refl _) _
  have z0 := (FlAt.new w f).cells.1
  have hod : Calls Tryd.prog 28 #[.string f.1, .string p] _ fun e w' => e = .returned (.int .i64 (Lib.compareInt (fk f) (pk p.data.toList))) ∧ Below _ _ w' := lorder_any f.1 p _ a (h.below hal) hf hp hfo hpo
  generalize Lib.compareInt (fk f) (pk p.data.toList) = C at hod ⊢
  unfold flV
  obtain ⟨fp, fq, fn, flo, fhi, fseq⟩ := f
  dsimp only at hal z0 hod ⊢
  clear hf hp hfo hpo
  go_enter Tryd.func30, Tryd.ntmps30
  go_upto_region 1 with fail
  generalize w.alloc (.cells #[.string fp, .string fq, .int .i64 fn, .int .i64 flo, .int .i64 fhi, .int .i64 fseq] 32) = WA at hal z0 hod ⊢
  go_wp2_with fail
  refine hod.mono ?_
  rintro e w1 ⟨rfl, hb1⟩
  clear hod
  go_wp2
  go_ret
  exact ⟨rfl, hal.trans (hb1.mono hal.size)⟩

/-- Where a place is among files that rise: the files ahead, and whether it is taken. -/
def PlaceAt (fs : List Fl) (z : Int) (n : Nat) (t : Bool) : Prop := n ≤ fs.length ∧ (∀ j (h : j < fs.length), j < n → fk fs[j] < z) ∧ (∀ j (h : j < fs.length), n ≤ j → z ≤ fk fs[j]) ∧ (t = true ↔ ∃ h : n < fs.length, fk fs[n] = z)

/-- What is handed back. -/
def PlacePost (fs : List Fl) (z : Int) (W : World) (e : Ending) (w' : World) : Prop := ∃ (n : Nat) (t : Bool), e = .returned (.tuple #[.int .i64 n, .bool t]) ∧ PlaceAt fs z n t ∧ Below W.heap.size W w'

set_option maxRecDepth 100000 in
set_option maxHeartbeats 8000000 in
theorem searchF_any (v : Value) (fs : List Fl) (p : ByteArray) (w : World) (a : Nat → Addr) (h : EnvN w a) (hx : FlsAt w v fs) (hl : fs.length ≤ 20000) (hr : fs.Pairwise fun f g => fk f < fk g) (hsz : ∀ g ∈ fs, g.1.size ≤ 100000 ∧ pathO g.1.data.toList ≠ none) (hp : p.size ≤ 100000) (hpo : pathO p.data.toList ≠ none) :
    Calls Tryd.prog 29 #[v, .string p, .func (.func 30) #[] #[]] w (PlacePost fs (pk p.data.toList) w) := by
  have eg : ∀ args w, (callFunc 30 args).run Tryd.prog w = .ok (.enter 30 args) w := enters_of Tryd.func30 (by kernel_rfl) rfl
  obtain ⟨q, cap, rfl⟩ := hx.form
  have HFX : Hid (FlsAt w (.slice q fs.length cap) fs) := hx
  have HCM : Hid (∀ W, Below w.heap.size w W → ∀ j (hj : j < fs.length), Calls Tryd.prog 30 #[flV fs[j], .string p] W fun e w' => e = .returned (.int .i64 (Lib.compareInt (fk fs[j]) (pk p.data.toList))) ∧ Below W.heap.size W w') := fun W hb j hj => place1_any fs[j] p W a (h.below hb) (hsz _ (List.getElem_mem _)).1 hp (hsz _ (List.getElem_mem _)).2 hpo
  have HPW : Hid (fs.Pairwise fun f g => fk f < fk g) := hr
  obtain ⟨L, hL⟩ : ∃ L, fs.length = L := ⟨_, rfl⟩
  have HX : Hid (fs.length = L) := hL
  rw [hL] at hl ⊢
  generalize pk p.data.toList = Z at HCM ⊢
  clear hL hx hr hsz hp hpo h
  have HLT : Hid (∀ i j (hi : i < fs.length) (hj : j < fs.length), i < j → fk fs[i] < fk fs[j]) := fun i j hi hj hij => List.pairwise_iff_getElem.1 HPW.out i j hi hj hij
  clear HPW
  go_enter Tryd.func29, Tryd.ntmps29
  go_wp2
  go_loopw [9, 10] (fun s9 s10 wr => ∃ lo hi : Nat, s9 = .int .i64 lo ∧ s10 = .int .i64 hi ∧ lo ≤ hi ∧ hi ≤ L ∧ (∀ j (h : j < fs.length), j < lo → fk fs[j] < Z) ∧ (∀ j (h : j < fs.length), hi ≤ j → Z ≤ fk fs[j]) ∧ Below w.heap.size w wr) (fun s9 s10 _ => (intOf s10).toNat - (intOf s9).toNat)
  case atStart => exact ⟨0, L, rfl, rfl, Nat.zero_le _, Nat.le_refl _, fun j h h' => absurd h' (Nat.not_lt_zero _), fun j h h' => by rw [HX.out] at h; omega, Below.refl _ _⟩
  case round =>
    obtain ⟨lo, hi, rfl, rfl, hlh, hhL, hlow, hhigh, hb⟩ := hrel
    have HLO : Hid (∀ j (h : j < fs.length), j < lo → fk fs[j] < Z) := hlow
    have HHI : Hid (∀ j (h : j < fs.length), hi ≤ j → Z ≤ fk fs[j]) := hhigh
    clear hlow hhigh
    by_cases hlt : lo < hi
    · obtain ⟨m, hm⟩ : ∃ m, (lo + hi) / 2 = m := ⟨_, rfl⟩
      have hm1 : lo ≤ m ∧ m < hi := by omega
      have hmi : ((lo : Int) + (hi : Int)) / 2 = (m : Int) := by omega
      have hmx : m < fs.length := by rw [HX.out]; omega
      obtain ⟨b, o, hq, hc⟩ := (HFX.out.below hb).cells (fun e => by rw [e] at hmx; simp at hmx)
      subst hq
      obtain ⟨c0, c1, c2, c3, c4, c5⟩ := hc m hmx
      have hcl := HCM.out wr hb m hmx
      have hcm := cmpI_lt (fk fs[m]) Z
      have HUP : Hid (fk fs[m] < Z → ∀ j (h : j < fs.length), j < m + 1 → fk fs[j] < Z) := fun e j hj hjm => by
        by_cases e' : j = m
        · subst e'; exact e
        · have := HLT.out j m hj hmx (by omega)
          omega
      have HDN : Hid (¬ fk fs[m] < Z → ∀ j (h : j < fs.length), m ≤ j → Z ≤ fk fs[j]) := fun e j hj hjm => by
        by_cases e' : j = m
        · subst e'; omega
        · have := HLT.out m j hmx hj (by omega)
          omega
      generalize fk fs[m] = ZM at hcl hcm HUP HDN
      generalize Lib.compareInt ZM Z = C at hcl hcm
      unfold flV at hcl
      generalize fs[m] = f at c0 c1 c2 c3 c4 c5 hcl
      obtain ⟨fp, fq, fn, flo, fhi, fseq⟩ := f
      dsimp only at c0 c1 c2 c3 c4 c5 hcl
      have i0 : (m : Int) < (L : Int) := by omega
      have i1 : (0 : Int) ≤ (m : Int) := by omega
      have i2 : (lo : Int) < (hi : Int) := by omega
      clear hc hmx
      by_cases hz : ZM < Z
      · have hC : C < 0 := hcm.2 hz
        have HU : Hid (∀ j (h : j < fs.length), j < m + 1 → fk fs[j] < Z) := HUP.out hz
        clear HUP HDN hcm
        go_wp2_with (go_at_fn 30; refine hcl.mono ?_; rintro e w2 ⟨rfl, hb2⟩)
        have hb3 : Below w.heap.size w w2 := hb.trans (hb2.mono hb.size)
        go_roundw
        case rel => exact ⟨m + 1, hi, by first | go_num | (rw [hmi]; go_num), rfl, by omega, hhL, HU.out, HHI.out, hb3⟩
        case measure => simp [intOf]; omega
      · have hC : ¬ C < 0 := fun e => hz (hcm.1 e)
        have HD : Hid (∀ j (h : j < fs.length), m ≤ j → Z ≤ fk fs[j]) := HDN.out hz
        clear HUP HDN hcm
        go_wp2_with (go_at_fn 30; refine hcl.mono ?_; rintro e w2 ⟨rfl, hb2⟩)
        have hb3 : Below w.heap.size w w2 := hb.trans (hb2.mono hb.size)
        go_roundw
        case rel => exact ⟨lo, m, rfl, by first | go_num | rw [hmi], by omega, by omega, HLO.out, HD.out, hb3⟩
        case measure => simp [intOf]; omega
    · obtain rfl : hi = lo := by omega
      have i2 : ¬ (hi : Int) < (hi : Int) := by omega
      by_cases hn : hi < L
      · have hmx : hi < fs.length := by rw [HX.out]; exact hn
        obtain ⟨b, o, hq, hc⟩ := (HFX.out.below hb).cells (fun e => by rw [e] at hmx; simp at hmx)
        subst hq
        obtain ⟨c0, c1, c2, c3, c4, c5⟩ := hc hi hmx
        have hcl := HCM.out wr hb hi hmx
        have hcm := cmpI_zero (fk fs[hi]) Z
        have HPA : Hid (∀ t : Bool, (t = true ↔ fk fs[hi] = Z) → PlaceAt fs Z hi t) := fun t ht => ⟨by rw [HX.out]; omega, HLO.out, HHI.out, ht.trans ⟨fun e => ⟨hmx, e⟩, fun ⟨_, e⟩ => e⟩⟩
        generalize fk fs[hi] = ZM at hcl hcm HPA
        generalize Lib.compareInt ZM Z = C at hcl hcm
        unfold flV at hcl
        generalize fs[hi] = f at c0 c1 c2 c3 c4 c5 hcl
        obtain ⟨fp, fq, fn, flo, fhi, fseq⟩ := f
        dsimp only at c0 c1 c2 c3 c4 c5 hcl
        have i0 : (hi : Int) < (L : Int) := by omega
        have i1 : (0 : Int) ≤ (hi : Int) := by omega
        clear hc hmx
        by_cases hz : C = 0
        · subst hz
          have HPT : Hid (PlaceAt fs Z hi true) := HPA.out true ⟨fun _ => hcm.1 rfl, fun _ => rfl⟩
          clear HPA hcm
          go_wp2_with (go_at_fn 30; refine hcl.mono ?_; rintro e w2 ⟨rfl, hb2⟩)
          go_ret2
          exact ⟨hi, true, rfl, HPT.out, hb.trans (hb2.mono hb.size)⟩
        · have hC : (C == 0) = false := beq_eq_false_iff_ne.2 hz
          have HPT : Hid (PlaceAt fs Z hi false) := HPA.out false ⟨fun e => (nomatch e), fun e => absurd (hcm.2 e) hz⟩
          clear HPA hcm
          go_wp2_with (go_at_fn 30; refine hcl.mono ?_; rintro e w2 ⟨rfl, hb2⟩)
          go_ret2
          exact ⟨hi, false, rfl, HPT.out, hb.trans (hb2.mono hb.size)⟩
      · obtain rfl : hi = L := by omega
        have HPT : Hid (PlaceAt fs Z hi false) := ⟨by rw [HX.out]; exact Nat.le_refl _, HLO.out, HHI.out, ⟨fun e => (nomatch e), fun ⟨h', _⟩ => by rw [HX.out] at h'; omega⟩⟩
        go_wp2
        go_ret2
        exact ⟨hi, false, rfl, HPT.out, hb⟩

set_option maxRecDepth 100000 in
set_option maxHeartbeats 1000000 in
theorem place_any (v : Value) (fs : List Fl) (p : ByteArray) (w : World) (a : Nat → Addr) (h : EnvN w a) (hx : FlsAt w v fs) (hl : fs.length ≤ 20000) (hr : fs.Pairwise fun f g => fk f < fk g) (hsz : ∀ g ∈ fs, g.1.size ≤ 100000 ∧ pathO g.1.data.toList ≠ none) (hp : p.size ≤ 100000) (hpo : pathO p.data.toList ≠ none) :
    Calls Tryd.prog 17 #[v, .string p] w (PlacePost fs (pk p.data.toList) w) := by
  have hse := searchF_any v fs p w a h hx hl hr hsz hp hpo
  obtain ⟨q, cap, rfl⟩ := hx.form
  generalize fs.length = L at hse ⊢
  clear hx hl hr hsz hp hpo h
  go_enter Tryd.func17, Tryd.ntmps17
  go_wp2_with fail
  refine hse.mono ?_
  rintro e w1 ⟨n, t, rfl, hpa, hb1⟩
  have HPA : Hid (PlaceAt fs (pk p.data.toList) n t) := hpa
  clear hse hpa
  go_wp2
  go_ret2
  exact ⟨n, t, rfl, HPA.out, hb1⟩
end Go.Proofs.YtgffkkijfmoooacDoor
