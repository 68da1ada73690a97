/-
  The contract of snap.Rows.
  All that the statements ask of the program's functions on snaps.
-/
import Derived.Test.YtpiagofhgalklacGreatDoorSnapTold
import Derived.Test.YtpiagofhgalklacGreatDoorSnapLaw
import Derived.Test.YtpiagofhgalklacGreatDoorSnapRd
namespace Go.Proofs.YtpiagofhgalklacGreatDoor
open Go.RowKit Go.Extern.Stop Go.Stop Go.Extern Go.Sort Go.Shelf Go.Lib

set_option maxRecDepth 100000 in
set_option maxHeartbeats 8000000 in
theorem srows_any (s : Sn) (vf : Value) (w : World) (a : Nat → Addr) (h : EnvL w a) (hx : FlsAt w vf s.2.2.2.2.2.2) (hl : s.2.2.2.2.2.2.length ≤ 100) (hsz : Short s.2.2.2.2.2.2) :
    Calls Tryz.prog 36 #[snV s vf] w fun e w' => e = .returned (.tuple #[.int .i64 (rkS s).1, .int .i64 (rkS s).2]) ∧ Below w.heap.size w w' := by
  have hck := fun W (hb : Below w.heap.size w W) => scheck_any s vf W a (h.below hb) (hx.below hb) hl hsz
  by_cases hok : (snapE s).1 = 0
  case neg =>
    have hR : rkS s = (0, 0) := by unfold rkS; rw [if_neg hok]
    rw [hR]
    clear hR
    obtain ⟨id, par, seq, day, idx, op, fs⟩ := s
    unfold snV at hck ⊢
    dsimp only at *
    generalize snapE (id, par, seq, day, idx, op, fs) = R at hck hok
    have hal : Below w.heap.size w (w.alloc (.cells #[.int .i64 id, .int .i64 par, .int .i64 seq, .int .i64 day, .int .i64 idx, .string op, vf] 52)) := (Below.refl _ _).alloc (Nat.le_refl _) _
    have hck1 := hck _ hal
    clear hck
    go_enter Tryz.func36, Tryz.ntmps36
    go_wp2_with fail
    generalize w.alloc (.cells #[.int .i64 id, .int .i64 par, .int .i64 seq, .int .i64 day, .int .i64 idx, .string op, vf] 52) = WA at hal hck1 ⊢
    refine hck1.mono ?_
    rintro e w1 ⟨ev, rfl, ht, hb1⟩
    clear hck1
    obtain ⟨t, u, rfl⟩ := ht.bad hok
    clear ht
    go_wp2
    go_ret2
    exact ⟨rfl, hal.trans (hb1.mono hal.size)⟩
  case pos =>
  have hR : rkS s = rk s.2.2.2.2.2.2 0 0 := by unfold rkS; rw [if_pos hok]
  have hle := (snap_good hok).2.2.1
  have HOK : Hid (∀ f ∈ s.2.2.2.2.2.2, fileE f = 0) := fun f hf => ((listE_ok.1 hle).2.1 f hf).1
  rw [hR]
  generalize hRe : snapE s = RE at hck
  have HE0 : Hid (RE.1 = 0) := by show _ = _; rw [← hRe]; exact hok
  have HXX : Hid (FlsAt w vf s.2.2.2.2.2.2) := hx
  have HSZ : Hid (Short s.2.2.2.2.2.2) := hsz
  have HEN : Hid (∀ W, Below w.heap.size w W → EnvL W a) := fun W hb => h.below hb
  clear hRe hok hR hle hx hsz h
  obtain ⟨id, par, seq, day, idx, op, fs⟩ := s
  unfold snV at hck ⊢
  dsimp only at *
  obtain ⟨P, hP⟩ : ∃ P, rk fs 0 0 = P := ⟨_, rfl⟩
  have HP : Hid (rk fs 0 0 = P) := hP
  rw [hP]
  clear hP
  obtain ⟨q, cap, hvf⟩ := HXX.out.form
  subst hvf
  obtain ⟨L, hL⟩ : ∃ L, fs.length = L := ⟨_, rfl⟩
  have HL : Hid (fs.length = L) := hL
  rw [hL] at hl hck ⊢
  clear hL
  have hal : Below w.heap.size w (w.alloc (.cells #[.int .i64 id, .int .i64 par, .int .i64 seq, .int .i64 day, .int .i64 idx, .string op, .slice q L cap] 52)) := (Below.refl _ _).alloc (Nat.le_refl _) _
  have hsn : SnAt (w.alloc (.cells #[.int .i64 id, .int .i64 par, .int .i64 seq, .int .i64 day, .int .i64 idx, .string op, .slice q L cap] 52)) w.heap.size (id, par, seq, day, idx, op, fs) (.slice q L cap) := SnAt.new w (id, par, seq, day, idx, op, fs) (.slice q L cap)
  have hck1 := hck _ hal
  clear hck
  go_enter Tryz.func36, Tryz.ntmps36
  go_wp2_with fail
  generalize w.alloc (.cells #[.int .i64 id, .int .i64 par, .int .i64 seq, .int .i64 day, .int .i64 idx, .string op, .slice q L cap] 52) = WA at hal hsn hck1 ⊢
  refine hck1.mono ?_
  rintro e w1 ⟨ev, rfl, ht, hb1⟩
  clear hck1
  obtain rfl := ht.ok HE0.out
  clear ht
  have hB1 : Below w.heap.size w w1 := hal.trans (hb1.mono hal.size)
  have z6 := (hsn.below hb1).cells.2.2.2.2.2.2
  clear hal hsn hb1
  go_wp2
  go_loopw [4, 5, 17] (fun x y k wr => ∃ (n : Nat) (xr yr : Int), n ≤ L ∧ x = .int .i64 xr ∧ y = .int .i64 yr ∧ k = .int .i64 n ∧ RkLeft fs n xr yr ∧ Below w.heap.size w wr) (fun _ _ k _ => L - (intOf k).toNat)
  case atStart => exact ⟨0, 0, 0, by omega, rfl, rfl, rfl, rkL_zero fs, hB1⟩
  case round =>
    clear hB1 z6
    obtain ⟨n, xr, yr, hn, rfl, rfl, rfl, hrk, hb⟩ := hrel
    have HRK : Hid (RkLeft fs n xr yr) := hrk
    obtain ⟨-, hx0, hx1, hy0, hy1⟩ := hrk
    by_cases hlt : n < L
    · have hltx : n < fs.length := by rw [HL.out]; exact hlt
      obtain ⟨b, o, hq, hc⟩ := (HXX.out.below hb).cells (fun e => by rw [e] at hltx; simp at hltx)
      subst hq
      obtain ⟨c0, c1, c2, c3, c4, c5⟩ := hc n hltx
      obtain ⟨k0, k1, g, pn, hpo, hgp⟩ := file_kind (HOK.out fs[n] (List.getElem_mem _))
      have hnum := fun W (hW : EnvL W a) => fnumber_n fs[n].1 W a hW.file.env (by have := (HSZ.out fs[n] (List.getElem_mem _)).1; omega)
      rw [pathR_some hpo] at hnum
      have hgo := fun e => rkL_gone HRK.out hltx e k0 k1
      have hda := fun e => rkL_data HRK.out hltx e k0 k1
      generalize fs[n] = f at c0 c1 c2 c3 c4 c5 hnum hgo hda hgp k0 k1 hpo
      have hfb := boxW_at wr f
      have hbb := boxW_below wr f
      unfold boxW at hfb hbb
      obtain ⟨fp, fq, fn, flo, fhi, fseq⟩ := f
      dsimp only at c0 c1 c2 c3 c4 c5 hnum hgo hda hgp k0 k1 hfb hbb
      have hiL : (n : Int) < (L : Int) := by omega
      have hi0' : (0 : Int) ≤ (n : Int) := by omega
      have hwx : IntKind.i64.wrap (xr + fn) = xr + fn := IntWalk.i64_in _ (by omega)
      have hwy : IntKind.i64.wrap (yr + fn) = yr + fn := IntWalk.i64_in _ (by omega)
      clear hc hltx hpo HRK
      go_upto_region 7 with fail
      clear c0 c1 c2 c3 c4 c5
      generalize wr.alloc (.cells #[.string fp, .string fq, .int .i64 fn, .int .i64 flo, .int .i64 fhi, .int .i64 fseq] 24) = W5 at hfb hbb ⊢
      have hB5 : Below w.heap.size w W5 := hb.trans (hbb.mono hb.size)
      have z0 := hfb.cells.1
      dsimp only at z0
      have hn5 := hnum W5 (HEN.out W5 hB5)
      clear hnum
      go_wp2_with fail
      refine hn5.mono ?_
      rintro e w6 ⟨rfl, hb6⟩
      clear hn5 z0
      have hB6 : Below w.heap.size w w6 := hB5.trans (hb6.mono hB5.size)
      have z2 := (hfb.below hb6).cells.2.2.1
      dsimp only at z2
      clear hfb hbb hb6 hB5
      cases g
      · have d1 := eqB_of (s := bytesOf (kindL false)) (l := [100, 97, 116, 97]) (by rw [bytes_data]; rfl)
        generalize bytesOf (kindL false) = kB at d1
        have HNX : Hid (RkLeft fs (n + 1) (xr + fn) yr) := hda (fun e => by simpa using hgp.2 e)
        clear hgo hda hgp
        go_wp2
        go_roundw
        case rel => exact ⟨n + 1, xr + fn, yr, by omega, rfl, rfl, by go_num, HNX.out, hB6⟩
        case measure => simp [intOf]; omega
      · have d1 := neB_of (s := bytesOf (kindL true)) (l := [100, 97, 116, 97]) (by rw [bytes_data]; decide)
        generalize bytesOf (kindL true) = kB at d1
        have HNX : Hid (RkLeft fs (n + 1) xr (yr + fn)) := hgo (hgp.1 rfl)
        clear hgo hda hgp
        go_wp2
        go_roundw
        case rel => exact ⟨n + 1, xr, yr + fn, by omega, rfl, rfl, by go_num, HNX.out, hB6⟩
        case measure => simp [intOf]; omega
    · obtain rfl : n = L := by omega
      have HPP : Hid (P = (xr, yr)) := by
        show _ = _
        have h' := HRK.out
        rw [← HL.out] at h'
        rw [← HP.out]
        exact rkL_all h'
      go_wp2
      go_ret2
      refine ⟨?_, hb⟩
      rw [HPP.out]
      rfl
end Go.Proofs.YtpiagofhgalklacGreatDoor
namespace Go.Proofs.YtpiagofhgalklacGreatDoor
open Go.RowKit Go.Extern.Stop Go.Stop Go.Extern Go.Sort Go.Shelf Go.Lib

theorem snapK (a : Nat → Addr) : SnapK a (fun W => EnvP W a) where
  below := fun _ _ h hb => h.below hb
  check := fun W s vf h hx hl hs => scheck_any s vf W a h.text.list hx hl hs
  text := fun W s vf h hx hl hs => stext_any s vf W a h.text hx hl hs
  read := fun W s h hs => sread_any s W a h hs
  first := fun W => first_any W

theorem snapR (a : Nat → Addr) : SnapR a (fun W => EnvP W a) where
  core := snapK a
  rows := fun W s vf h hx hl hs => srows_any s vf W a h.text.list hx hl hs
end Go.Proofs.YtpiagofhgalklacGreatDoor
