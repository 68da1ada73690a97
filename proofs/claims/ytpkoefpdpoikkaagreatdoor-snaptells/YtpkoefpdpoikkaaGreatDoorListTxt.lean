/-
  The contract of list.Text.
-/
import Derived.Test.YtpkoefpdpoikkaaGreatDoorListChk
namespace Go.Proofs.YtpkoefpdpoikkaaGreatDoor
open Go.RowKit Go.Extern.Stop Go.Stop Go.Extern Go.Sort Go.Shelf Go.Lib

def upB (n m : Int) : Bool := decide (0 ≤ n) && decide (n ≤ m)

theorem upTo_any (n m : Int) (w : World) : Calls Tryz.prog 145 #[.int .i64 n, .int .i64 m] w fun e w' => e = .returned (.bool (upB n m)) ∧ w' = w := by
  by_cases h1 : 0 ≤ n
  · by_cases h2 : n ≤ m
    · have hr : upB n m = true := by simp [upB, h1, h2]
      rw [hr]
      go_enter Tryz.func145, Tryz.ntmps145
      go_wp2
      go_ret
      exact ⟨rfl, rfl⟩
    · have hr : upB n m = false := by simp [upB, h2]
      rw [hr]
      go_enter Tryz.func145, Tryz.ntmps145
      go_wp2
      go_ret
      exact ⟨rfl, rfl⟩
  · have hr : upB n m = false := by simp [upB, h1]
    rw [hr]
    go_enter Tryz.func145, Tryz.ntmps145
    go_wp2
    go_ret
    exact ⟨rfl, rfl⟩

theorem sbnd_up (s : Sn) : sbndB s = (decide (1 ≤ s.1) && (decide (s.1 ≤ 1073741824) && (decide (0 ≤ s.2.1) && (decide (s.2.1 < s.1) && (upB s.2.2.1 1073741824 && (upB s.2.2.2.1 100000 && upB s.2.2.2.2.1 1073741824)))))) := by
  unfold sbndB upB
  simp only [Bool.and_assoc]

set_option maxRecDepth 100000 in
set_option maxHeartbeats 4000000 in
theorem numbersRight_any (s : Sn) (vf : Value) (w : World) :
    Calls Tryz.prog 108 #[snV s vf] w fun e w' => e = .returned (.bool (sbndB s)) ∧ Below w.heap.size w w' := by
  have hsb := sbnd_up s
  generalize sbndB s = SB at hsb ⊢
  obtain ⟨id, par, seq, day, idx, op, fs⟩ := s
  unfold snV
  dsimp only at hsb ⊢
  have hal : Below w.heap.size w (w.alloc (.cells #[.int .i64 id, .int .i64 par, .int .i64 seq, .int .i64 day, .int .i64 idx, .string op, vf] 74)) := (Below.refl _ _).alloc (Nat.le_refl _) _
  have h5 := fun W => upTo_any seq 1073741824 W
  have h6 := fun W => upTo_any day 100000 W
  have h7 := fun W => upTo_any idx 1073741824 W
  by_cases c0 : 1 ≤ id
  case neg =>
    obtain rfl : SB = false := by rw [hsb]; simp [c0]
    clear hsb h5 h6 h7
    go_enter Tryz.func108, Tryz.ntmps108
    go_wp2
    go_ret
    exact ⟨rfl, hal⟩
  by_cases c1 : id ≤ 1073741824
  case neg =>
    obtain rfl : SB = false := by rw [hsb]; simp [c1]
    clear hsb h5 h6 h7
    go_enter Tryz.func108, Tryz.ntmps108
    go_wp2
    go_ret
    exact ⟨rfl, hal⟩
  by_cases c2 : 0 ≤ par
  case neg =>
    obtain rfl : SB = false := by rw [hsb]; simp [c2]
    clear hsb h5 h6 h7
    go_enter Tryz.func108, Tryz.ntmps108
    go_wp2
    go_ret
    exact ⟨rfl, hal⟩
  by_cases c3 : par < id
  case neg =>
    obtain rfl : SB = false := by rw [hsb]; simp [c3]
    clear hsb h5 h6 h7
    go_enter Tryz.func108, Tryz.ntmps108
    go_wp2
    go_ret
    exact ⟨rfl, hal⟩
  cases u0 : upB seq 1073741824
  case false =>
    obtain rfl : SB = false := by rw [hsb]; simp [u0]
    rw [u0] at h5
    clear hsb
    go_enter Tryz.func108, Tryz.ntmps108
    go_wp2_with (go_at_call 145; first | (with_reducible refine (h5 _).mono ?_; rintro e w1 ⟨rfl, rfl⟩))
    go_ret
    exact ⟨rfl, hal⟩
  rw [u0] at h5
  cases u1 : upB day 100000
  case false =>
    obtain rfl : SB = false := by rw [hsb]; simp [u1]
    rw [u1] at h6
    clear hsb
    go_enter Tryz.func108, Tryz.ntmps108
    go_wp2_with (go_at_call 145; first | (with_reducible refine (h5 _).mono ?_; rintro e w1 ⟨rfl, rfl⟩) | (with_reducible refine (h6 _).mono ?_; rintro e w1 ⟨rfl, rfl⟩))
    go_ret
    exact ⟨rfl, hal⟩
  rw [u1] at h6
  cases u2 : upB idx 1073741824
  case false =>
    obtain rfl : SB = false := by rw [hsb]; simp [u2]
    rw [u2] at h7
    clear hsb
    go_enter Tryz.func108, Tryz.ntmps108
    go_wp2_with (go_at_call 145; first | (with_reducible refine (h5 _).mono ?_; rintro e w1 ⟨rfl, rfl⟩) | (with_reducible refine (h6 _).mono ?_; rintro e w1 ⟨rfl, rfl⟩) | (with_reducible refine (h7 _).mono ?_; rintro e w1 ⟨rfl, rfl⟩))
    go_ret
    exact ⟨rfl, hal⟩
  rw [u2] at h7
  obtain rfl : SB = true := by rw [hsb]; simp [c0, c1, c2, c3, u0, u1, u2]
  clear hsb
  go_enter Tryz.func108, Tryz.ntmps108
  go_wp2_with (go_at_call 145; first | (with_reducible refine (h5 _).mono ?_; rintro e w1 ⟨rfl, rfl⟩) | (with_reducible refine (h6 _).mono ?_; rintro e w1 ⟨rfl, rfl⟩) | (with_reducible refine (h7 _).mono ?_; rintro e w1 ⟨rfl, rfl⟩))
  go_ret
  exact ⟨rfl, hal⟩

set_option maxRecDepth 100000 in
set_option maxHeartbeats 2000000 in
theorem opRight_any (op : ByteArray) (w : World) :
    Calls Tryz.prog 109 #[.string op] w fun e w' => e = .returned (.bool (opB op.data.toList)) ∧ w' = w := by
  by_cases e0 : op.data.toList = kStart
  · have hr : opB op.data.toList = true := by simp [opB, e0]
    rw [hr]
    have d0 := eqB_of e0
    simp only [kStart] at d0
    clear hr e0
    go_enter Tryz.func109, Tryz.ntmps109
    go_wp2
    go_ret
    exact ⟨rfl, rfl⟩
  have d0 := neB_of e0
  simp only [kStart] at d0
  by_cases e1 : op.data.toList = kAppend
  · have hr : opB op.data.toList = true := by simp [opB, e1]
    rw [hr]
    have d1 := eqB_of e1
    simp only [kAppend] at d1
    clear hr e1
    go_enter Tryz.func109, Tryz.ntmps109
    go_wp2
    go_ret
    exact ⟨rfl, rfl⟩
  have d1 := neB_of e1
  simp only [kAppend] at d1
  by_cases e2 : op.data.toList = kDelete
  · have hr : opB op.data.toList = true := by simp [opB, e2]
    rw [hr]
    have d2 := eqB_of e2
    simp only [kDelete] at d2
    clear hr e2
    go_enter Tryz.func109, Tryz.ntmps109
    go_wp2
    go_ret
    exact ⟨rfl, rfl⟩
  have d2 := neB_of e2
  simp only [kDelete] at d2
  by_cases e3 : op.data.toList = kRewrite
  · have hr : opB op.data.toList = true := by simp [opB, e3]
    rw [hr]
    have d3 := eqB_of e3
    simp only [kRewrite] at d3
    clear hr e3
    go_enter Tryz.func109, Tryz.ntmps109
    go_wp2
    go_ret
    exact ⟨rfl, rfl⟩
  have d3 := neB_of e3
  simp only [kRewrite] at d3
  have hr : opB op.data.toList = false := by simp [opB, e0, e1, e2, e3]
  rw [hr]
  clear hr e0 e1 e2 e3
  go_enter Tryz.func109, Tryz.ntmps109
  go_wp2
  go_ret
  exact ⟨rfl, rfl⟩

set_option maxRecDepth 100000 in
set_option maxHeartbeats 8000000 in
theorem scheck_any (s : Sn) (vf : Value) (w : World) (a : Nat → Addr) (h : EnvL w a) (hx : FlsAt w vf s.2.2.2.2.2.2) (hl : s.2.2.2.2.2.2.length ≤ 100) (hsz : Short s.2.2.2.2.2.2) :
    Calls Tryz.prog 52 #[snV s vf] w fun e w' => ∃ ev, e = .returned ev ∧ ToldE w' a ev (snapE s) ∧ Below w.heap.size w w' := by
  have hrs := @snapE_rest s
  have hub : sbndB s = false → snapE s = (2, none) := fun e => by unfold snapE; rw [if_pos e]
  have hnr := fun W => numbersRight_any s vf W
  have hop := fun W => opRight_any s.2.2.2.2.2.1 W
  have hlc := fun W (hb : Below w.heap.size w W) => lcheck_any vf s.2.2.2.2.2.2 W a (h.below hb) (hx.below hb) hl hsz
  have HEN : Hid (∀ W, Below w.heap.size w W → EnvL W a) := fun W hb => h.below hb
  have HXX : Hid (FlsAt w vf s.2.2.2.2.2.2) := hx
  obtain ⟨id, par, seq, day, idx, op, fs⟩ := s
  unfold snV at hnr ⊢
  dsimp only at hrs hub hnr hop hlc HXX hl ⊢
  generalize hR : snapE (id, par, seq, day, idx, op, fs) = R at hrs hub ⊢
  generalize hSB : sbndB (id, par, seq, day, idx, op, fs) = SB at hrs hub hnr
  generalize hOB : opB op.data.toList = OB at hrs hop
  generalize hLE : listE fs = LE at hrs hlc
  clear hR hSB hOB hLE hx hsz h
  have hal : Below w.heap.size w (w.alloc (.cells #[.int .i64 id, .int .i64 par, .int .i64 seq, .int .i64 day, .int .i64 idx, .string op, vf] 74)) := (Below.refl _ _).alloc (Nat.le_refl _) _
  have hsn : SnAt (w.alloc (.cells #[.int .i64 id, .int .i64 par, .int .i64 seq, .int .i64 day, .int .i64 idx, .string op, vf] 74)) w.heap.size (id, par, seq, day, idx, op, fs) vf := SnAt.new w (id, par, seq, day, idx, op, fs) vf
  have hnr1 := hnr (w.alloc (.cells #[.int .i64 id, .int .i64 par, .int .i64 seq, .int .i64 day, .int .i64 idx, .string op, vf] 74))
  go_enter Tryz.func52, Tryz.ntmps52
  go_wp2_with fail
  generalize w.alloc (.cells #[.int .i64 id, .int .i64 par, .int .i64 seq, .int .i64 day, .int .i64 idx, .string op, vf] 74) = WA at hal hsn hnr1 ⊢
  refine hnr1.mono ?_
  rintro e w1 ⟨rfl, hb1⟩
  clear hnr hnr1
  have hB1 : Below w.heap.size w w1 := hal.trans (hb1.mono hal.size)
  have hsn1 := hsn.below hb1
  clear hsn hb1 hal
  cases SB
  case false =>
    obtain rfl := hub rfl
    have et := (HEN.out w1 hB1).file.env.bound
    clear hub hrs hop hlc
    go_wp2
    go_ret
    exact ⟨_, rfl, rfl, hB1⟩
  case true =>
  clear hub
  replace hrs := hrs rfl
  have z5 := hsn1.cells.2.2.2.2.2.1
  dsimp only at z5
  have hop1 := hop w1
  clear hop
  go_wp2_with fail
  refine hop1.mono ?_
  rintro e w2 ⟨rfl, rfl⟩
  clear hop1 z5
  cases OB
  case false =>
    obtain rfl := hrs.1 rfl
    have et := (HEN.out w2 hB1).file.kind
    clear hrs hlc
    go_wp2
    go_ret
    exact ⟨_, rfl, rfl, hB1⟩
  case true =>
  obtain ⟨hl1, hl2⟩ := hrs.2 rfl
  clear hrs
  have z6 := hsn1.cells.2.2.2.2.2.2
  have hlc1 := hlc w2 hB1
  clear hlc
  obtain ⟨qf, cf, hvf⟩ := HXX.out.form
  subst hvf
  obtain ⟨L, hL⟩ : ∃ L, fs.length = L := ⟨_, rfl⟩
  have HL : Hid (fs.length = L) := hL
  rw [hL] at hlc1 z6 hl hsn1
  clear hL
  go_wp2_with fail
  refine hlc1.mono ?_
  rintro e w3 ⟨ev, rfl, ht, hb3⟩
  clear hlc1 z6
  have hB3 : Below w.heap.size w w3 := hB1.trans (hb3.mono hB1.size)
  have hsn3 := hsn1.below hb3
  clear hsn1 hb3 hB1
  by_cases hE : LE.1 = 0
  case neg =>
    obtain rfl := hl1 hE
    obtain ⟨t, u, rfl⟩ := ht.bad hE
    have HT : Hid (ToldE w3 a (.iface t u) R) := ht
    clear ht hl1 hl2 hsn3
    go_wp2
    go_ret
    exact ⟨_, rfl, HT.out, hB3⟩
  case pos =>
  obtain rfl := ht.ok hE
  have HRE : Hid (R = seqG seq fs 0) := hl2 hE
  clear ht hl1 hl2 hE
  have z6 := hsn3.cells.2.2.2.2.2.2
  go_wp2
  go_loopw [24] (fun k wr => ∃ n : Nat, n ≤ L ∧ k = .int .i64 n ∧ SeqLeft seq fs n ∧ Below w.heap.size w wr ∧ SnAt wr w.heap.size (id, par, seq, day, idx, op, fs) (.slice qf L cf)) (fun k _ => L - (intOf k).toNat)
  case atStart => exact ⟨0, by omega, rfl, seqL_zero seq fs, hB3, hsn3⟩
  case round =>
    clear hB3 hsn3 z6
    obtain ⟨n, hn, rfl, hsl, hb, hsn⟩ := hrel
    have HSL : Hid (SeqLeft seq fs n) := hsl
    have HSN : Hid (SnAt wr w.heap.size (id, par, seq, day, idx, op, fs) (.slice qf L cf)) := hsn
    clear hsl hsn
    by_cases hlt : n < L
    · have hltx : n < fs.length := by rw [HL.out]; exact hlt
      obtain ⟨b, o, hq, hc⟩ := (HXX.out.below hb).cells (fun e => by rw [e] at hltx; simp at hltx)
      subst hq
      obtain ⟨c0, c1, c2, c3, c4, c5⟩ := hc n hltx
      have hbad := fun e => seqL_bad HSL.out hltx e
      have hnxt := fun e => seqL_succ HSL.out hltx e
      generalize fs[n] = f at c0 c1 c2 c3 c4 c5 hbad hnxt
      have hfb := boxW_at wr f
      have hbb := boxW_below wr f
      unfold boxW at hfb hbb
      obtain ⟨fp, fq, fn, flo, fhi, fseq⟩ := f
      dsimp only at c0 c1 c2 c3 c4 c5 hbad hnxt hfb hbb
      have hiL : (n : Int) < (L : Int) := by omega
      have hi0' : (0 : Int) ≤ (n : Int) := by omega
      clear hc hltx
      go_upto_region 11 with fail
      clear c0 c1 c2 c3 c4 c5
      generalize wr.alloc (.cells #[.string fp, .string fq, .int .i64 fn, .int .i64 flo, .int .i64 fhi, .int .i64 fseq] 23) = W5 at hfb hbb ⊢
      have hB5 : Below w.heap.size w W5 := hb.trans (hbb.mono hb.size)
      have hsn5 := HSN.out.below hbb
      have HS5 : Hid (SnAt W5 w.heap.size (id, par, seq, day, idx, op, fs) (.slice (some ⟨b, o, none⟩) L cf)) := hsn5
      have z5 := hfb.cells.2.2.2.2.2.1
      have y2 := hsn5.cells.2.2.1
      dsimp only at z5 y2
      clear hsn5 hfb hbb
      by_cases hz : seq < fseq
      · have HRR : Hid (R = (9, some n)) := by
          show _ = _
          rw [HRE.out]; exact hbad hz
        have et := (HEN.out W5 hB5).order
        have hal : Below W5.heap.size W5 (W5.alloc (.cells #[.int .i64 n, .iface 289 (.pointer (some (a 8)))] 110)) := (Below.refl _ _).alloc (Nat.le_refl _) _
        clear hbad hnxt
        go_wp2
        go_ret
        refine ⟨_, rfl, ?_, hB5.trans (hal.mono hB5.size)⟩
        rw [HRR.out]
        exact ⟨by simp, W5.heap.size, rfl, by simp, by simp [errV]⟩
      · have HNX : Hid (SeqLeft seq fs (n + 1)) := hnxt hz
        clear hbad hnxt
        go_wp2
        go_roundw
        case rel => exact ⟨n + 1, by omega, by go_num, HNX.out, hB5, HS5.out⟩
        case measure => simp [intOf]; omega
    · obtain rfl : n = L := by omega
      have HRR : Hid (R = (0, none)) := by
        show _ = _
        rw [HRE.out]
        have h' := HSL.out
        rw [← HL.out] at h'
        exact seqL_all h'
      go_wp2
      go_ret
      refine ⟨_, rfl, ?_, hb⟩
      rw [HRR.out]
      rfl
end Go.Proofs.YtpkoefpdpoikkaaGreatDoor
namespace Go.Proofs.YtpkoefpdpoikkaaGreatDoor
open Go.RowKit Go.Extern.Stop Go.Stop Go.Extern Go.Sort Go.Shelf Go.Lib

set_option maxRecDepth 100000 in
set_option maxHeartbeats 8000000 in
theorem ltext_any (v : Value) (fs : List Fl) (w : World) (a : Nat → Addr) (h : EnvL w a) (hx : FlsAt w v fs) (hl : fs.length ≤ 100) (hsz : Short fs) :
    Calls Tryz.prog 28 #[v] w fun e w' => ∃ ev, e = .returned (.tuple #[.string (if (listE fs).1 = 0 then bytesOf (listL fs) else ⟨#[]⟩), ev]) ∧ ToldE w' a ev (listE fs) ∧ Below w.heap.size w w' := by
  obtain ⟨q, cap, rfl⟩ := hx.form
  have hck := lcheck_any (.slice q fs.length cap) fs w a h hx hl hsz
  have HFX : Hid (FlsAt w (.slice q fs.length cap) fs) := hx
  have HSZ : Hid (Short fs) := hsz
  have HEN : Hid (∀ W, Below w.heap.size w W → EnvL W a) := fun W hb => h.below hb
  obtain ⟨L, hL⟩ : ∃ L, fs.length = L := ⟨_, rfl⟩
  have HX : Hid (fs.length = L) := hL
  rw [hL] at hl hck ⊢
  clear hL hx hsz
  by_cases hok : (listE fs).1 = 0
  · rw [if_pos hok]
    have HOK : Hid (∀ f ∈ fs, fileE f = 0) := fun f hf => ((listE_ok.1 hok).2.1 f hf).1
    have HRE : Hid ((listE fs).1 = 0) := hok
    generalize hR : listE fs = R at hck ⊢
    have HR : Hid (R.1 = 0) := by show _ = _; rw [← hR]; exact hok
    clear hR hok
    obtain ⟨TT, hTT⟩ : ∃ TT, bytesOf (listL fs) = TT := ⟨_, rfl⟩
    have HTT : Hid (bytesOf (listL fs) = TT) := hTT
    rw [hTT]
    clear hTT
    go_enter Tryz.func28, Tryz.ntmps28
    go_wp2_with fail
    refine hck.mono ?_
    rintro e w1 ⟨ev, rfl, ht, hb1⟩
    clear hck
    obtain rfl := ht.ok HR.out
    have HT0 : Hid (∀ W, ToldE W a .nilIface R) := fun W => by
      obtain ⟨n, o⟩ := R
      have h0 : n = 0 := HR.out
      subst h0
      cases o with
      | none => rfl
      | some j => exact absurd rfl ht.1
    clear ht
    have hbn : w1.heap.size ≤ w1.heap.size := Nat.le_refl _
    have hal : Below w1.heap.size w1 (w1.alloc (.cells #[.pointer none, .slice none 0 0] 130)) := (Below.refl _ _).alloc (Nat.le_refl _) _
    have hBl : Below w.heap.size w (w1.alloc (.cells #[.pointer none, .slice none 0 0] 130)) := hb1.trans (hal.mono hb1.size)
    have hbld : Lib.IsBuilder 130 5 w1.heap.size w1.heap.size (Lib.byteCells (listL ([] : List Fl))) (w1.alloc (.cells #[.pointer none, .slice none 0 0] 130)) :=
      Or.inl ⟨Nat.le_refl _, .slice none 0 0, heap_alloc_new _ _, World.ownsRow_nil _ _ _ _, by simp [Value.ownBlock]⟩
    have hw1 := hb1.size
    go_wp2
    generalize w1.heap.size = B at hbld hw1 ⊢
    go_loopw [15] (fun k wr => ∃ n : Nat, n ≤ L ∧ k = .int .i64 n ∧ Below w.heap.size w wr ∧ B < wr.heap.size ∧ Lib.IsBuilder 130 5 B B (Lib.byteCells (listL (fs.take n))) wr) (fun k _ => L - (intOf k).toNat)
    case atStart => exact ⟨0, by omega, rfl, hBl, by rcases hbld with hB | hB <;> exact hB.lt, by simpa using hbld⟩
    case round =>
      clear hal hbld hBl
      obtain ⟨n, hn, rfl, hb, hBr, hB⟩ := hrel
      by_cases hlt : n < L
      · have hltx : n < fs.length := by rw [HX.out]; exact hlt
        obtain ⟨b, o, hq, hc⟩ := (HFX.out.below hb).cells (fun e => by rw [e] at hltx; simp at hltx)
        subst hq
        obtain ⟨c0, c1, c2, c3, c4, c5⟩ := hc n hltx
        obtain ⟨k1, k2⟩ := HSZ.out fs[n] (List.getElem_mem _)
        have k0 := HOK.out fs[n] (List.getElem_mem _)
        have htx := fun W (hW : EnvL W a) => ftext_any fs[n] W a hW.file (by omega) (by omega)
        have hfb' : fileB fs[n] = bytesOf (fileL fs[n]) := by unfold fileB; rw [if_pos k0]
        have hfl := fl_len k0
        have hln := listL_len (fs.take n) (fun f hf => by
          have hm := List.mem_of_mem_take hf
          have := HSZ.out f hm
          exact ⟨HOK.out f hm, by omega, by omega⟩)
        rw [List.length_take] at hln
        have hlen : (Lib.byteCells (listL (fs.take n))).length ≤ 30000 := by rw [Lib.byteCells_length]; omega
        have hsf : (bytesOf (fileL fs[n])).size ≤ 300 := by rw [bytes_len]; omega
        have HTB : Hid ((bytesOf (fileL fs[n])).data.toList = fileL fs[n]) := by show _ = _; simp [bytesOf]
        have HT : Hid (listL (fs.take (n + 1)) = listL (fs.take n) ++ (fileL fs[n] ++ [10])) := listL_take fs n hltx
        rw [hfb'] at htx
        generalize listL (fs.take n) = acc at hB HT hlen
        generalize bytesOf (fileL fs[n]) = tb at htx HTB hsf
        generalize fileL fs[n] = tl at HTB HT
        unfold flV at htx
        generalize fs[n] = f at c0 c1 c2 c3 c4 c5 htx
        have hfb := boxW_at wr f
        have hbb := boxW_below wr f
        unfold boxW at hfb hbb
        obtain ⟨fp, fq, fn, flo, fhi, fseq⟩ := f
        dsimp only at c0 c1 c2 c3 c4 c5 htx hfb hbb
        have hiL : (n : Int) < (L : Int) := by omega
        have hi0' : (0 : Int) ≤ (n : Int) := by omega
        clear hc hltx hln hfl hfb' k0 k1 k2
        go_upto_region 8 with fail
        clear c0 c1 c2 c3 c4 c5
        generalize wr.alloc (.cells #[.string fp, .string fq, .int .i64 fn, .int .i64 flo, .int .i64 fhi, .int .i64 fseq] 23) = W5 at hfb hbb ⊢
        have hB5 : Below w.heap.size w W5 := hb.trans (hbb.mono hb.size)
        obtain ⟨z0, z1, z2, z3, z4, z5, -⟩ := hfb.cells
        dsimp only at z0 z1 z2 z3 z4 z5
        have htx5 := htx W5 (HEN.out W5 hB5)
        clear htx
        go_wp2_with fail
        refine htx5.mono ?_
        rintro e w6 ⟨rfl, hb6⟩
        clear htx5 z0 z1 z2 z3 z4 z5 hfb
        have hB6 : Below w.heap.size w w6 := hB5.trans (hb6.mono hB5.size)
        have hw6 : Below wr.heap.size wr w6 := hbb.trans (hb6.mono hbb.size)
        have hBu := isBuilder_below hB hw6
        have hs6 : B < w6.heap.size := Nat.lt_of_lt_of_le hBr hw6.size
        clear hB hbb hb6 hB5
        have hws := writeString_any B B _ tb w6 hBu (by omega) (Nat.le_of_lt hs6)
        clear hBu
        go_wp2_with fail
        refine hws.mono ?_
        rintro e w7 ⟨rfl, hB7, hb7⟩
        clear hws
        have hBB7 : Below w.heap.size w w7 := hB6.trans (hb7.mono hw1)
        have hs7 : B < w7.heap.size := Nat.lt_of_lt_of_le hs6 hb7.size
        have hws := writeString_any B B _ ⟨#[10]⟩ w7 (Or.inr hB7) (by rw [List.length_append, Lib.strCells_length]; have : (⟨#[10]⟩ : ByteArray).size = 1 := rfl; omega) (Nat.le_of_lt hs7)
        clear hB7
        go_wp2_with fail
        refine hws.mono ?_
        rintro e w8 ⟨rfl, hB8, hb8⟩
        clear hws
        have hBB8 : Below w.heap.size w w8 := hBB7.trans (hb8.mono hw1)
        have hs8 : B < w8.heap.size := Nat.lt_of_lt_of_le hs7 hb8.size
        have HB8 : Hid (Lib.IsBuilder 130 5 B B (Lib.byteCells (listL (fs.take (n + 1)))) w8) := by
          show Lib.IsBuilder _ _ _ _ _ _
          rw [HT.out, Lib.byteCells_append, Lib.byteCells_append, ← HTB.out, ← List.append_assoc]
          exact Or.inr hB8
        clear hB8
        go_wp2
        go_roundw
        case rel => exact ⟨n + 1, by omega, by go_num, hBB8, hs8, HB8.out⟩
        case measure => simp [intOf]; omega
      · obtain rfl : n = L := by omega
        have hta : fs.take n = fs := List.take_of_length_le (by rw [HX.out]; exact Nat.le_refl _)
        rw [hta] at hB
        have hst := Tryz.Builder_String_any B B (listL fs) wr hB (Nat.le_of_lt hBr)
        have eS : (⟨(listL fs).toArray⟩ : ByteArray) = bytesOf (listL fs) := rfl
        rw [eS, HTT.out] at hst
        clear hta hB eS
        go_wp2_with fail
        refine hst.mono ?_
        rintro e w2 ⟨rfl, hb2⟩
        clear hst
        go_wp2
        go_ret2
        exact ⟨_, rfl, HT0.out _, hb.trans (hb2.mono hw1)⟩
  · rw [if_neg hok]
    generalize listE fs = R at hck hok ⊢
    go_enter Tryz.func28, Tryz.ntmps28
    go_wp2_with fail
    refine hck.mono ?_
    rintro e w1 ⟨ev, rfl, ht, hb1⟩
    clear hck
    obtain ⟨t, u, rfl⟩ := ht.bad hok
    have HTT : Hid (ToldE w1 a (.iface t u) R) := ht
    clear ht
    go_wp2
    go_ret2
    exact ⟨_, rfl, HTT.out, hb1⟩
end Go.Proofs.YtpkoefpdpoikkaaGreatDoor
