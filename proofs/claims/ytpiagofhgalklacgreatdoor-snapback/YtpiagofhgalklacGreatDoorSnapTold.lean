/-
  The first snap; the rows and the keys of a snap's files; what reading one hands back.
  The contracts of snap.upTo, numbersRight, opRight and Check.
-/
import Derived.Test.YtpiagofhgalklacGreatDoorSnapMem
import Derived.Test.YtpiagofhgalklacGreatDoorRefList1
import Derived.Test.YtpiagofhgalklacGreatDoorListOrd
namespace Go.Proofs.YtpiagofhgalklacGreatDoor
open Go.RowKit Go.Extern.Stop Go.Stop Go.Extern Go.Sort Go.Shelf Go.Lib

/-- The first snap. -/
def firstS : Sn := (1, 0, 0, 0, 0, ⟨#[115, 116, 97, 114, 116]⟩, [])

/-- What Read hands back. -/
def SReadP (w : World) (a : Nat → Addr) (R : Sn × Nat × Option Nat) (e : Ending) (w' : World) : Prop := ∃ vf ev, e = .returned (.tuple #[snV R.1 vf, ev]) ∧ FlsAt w' vf R.1.2.2.2.2.2.2 ∧ ToldE w' a ev R.2 ∧ Below w.heap.size w w'

/-- The sums of the rows, and of the keys. -/
def rk : List Fl → Int → Int → Int × Int
  | [], x, y => (x, y)
  | f :: r, x, y => if f.2.1.data.toList = [45] then rk r x (y + f.2.2.1) else rk r (x + f.2.2.1) y

/-- Of a snap that is right; else none. -/
def rkS (s : Sn) : Int × Int := if (snapE s).1 = 0 then rk s.2.2.2.2.2.2 0 0 else (0, 0)

/-- What is left to be counted. -/
def RkLeft (fs : List Fl) (n : Nat) (x y : Int) : Prop := rk fs 0 0 = rk (fs.drop n) x y ∧ 0 ≤ x ∧ x ≤ 40 * n ∧ 0 ≤ y ∧ y ≤ 40 * n
theorem rkL_zero (fs : List Fl) : RkLeft fs 0 0 0 := ⟨rfl, by omega, by omega, by omega, by omega⟩
theorem rkL_all {fs : List Fl} {x y : Int} (h : RkLeft fs fs.length x y) : rk fs 0 0 = (x, y) := by
  rw [h.1, List.drop_length]; rfl
theorem rkL_gone {fs : List Fl} {n : Nat} {x y : Int} (h : RkLeft fs n x y) (hn : n < fs.length) (e : fs[n].2.1.data.toList = [45]) (h1 : 0 ≤ fs[n].2.2.1) (h2 : fs[n].2.2.1 ≤ 40) : RkLeft fs (n + 1) x (y + fs[n].2.2.1) := by
  obtain ⟨h0, a, b, c, d⟩ := h
  refine ⟨?_, a, by omega, by omega, by omega⟩
  rw [h0, List.drop_eq_getElem_cons hn]
  conv => lhs; unfold rk
  rw [if_pos e]
theorem rkL_data {fs : List Fl} {n : Nat} {x y : Int} (h : RkLeft fs n x y) (hn : n < fs.length) (e : fs[n].2.1.data.toList ≠ [45]) (h1 : 0 ≤ fs[n].2.2.1) (h2 : fs[n].2.2.1 ≤ 40) : RkLeft fs (n + 1) (x + fs[n].2.2.1) y := by
  obtain ⟨h0, a, b, c, d⟩ := h
  refine ⟨?_, by omega, by omega, c, by omega⟩
  rw [h0, List.drop_eq_getElem_cons hn]
  conv => lhs; unfold rk
  rw [if_neg e]

/-- A right file: its kind by its Part, its count. -/
theorem file_kind {f : Fl} (h : fileE f = 0) : 0 ≤ f.2.2.1 ∧ f.2.2.1 ≤ 40 ∧ ∃ g n, pathO f.1.data.toList = some (g, n) ∧ (g = true ↔ f.2.1.data.toList = [45]) := by
  obtain ⟨g, n, hp, hq, hb⟩ := file_good h
  have hb' := hb
  unfold bndB at hb'
  simp only [Bool.and_eq_true, decide_eq_true_eq] at hb'
  refine ⟨by omega, by omega, g, n, hp, ?_⟩
  unfold partB at hq
  cases g
  · simp only [Bool.false_eq_true, if_false, false_iff] at hq ⊢
    intro e
    rw [e] at hq
    revert hq
    decide
  · simp only [if_true, decide_eq_true_eq, true_iff] at hq ⊢
    exact hq

theorem readL_60 (b : List UInt8) : (readL b).1.length ≤ 60 := by
  obtain ⟨c, hc⟩ : ∃ c, (if (pieces 10 b).getLastD [] = [] then (pieces 10 b).length - 1 else (pieces 10 b).length) = c := ⟨_, rfl⟩
  have hle : (pieces 10 b).length - 1 ≤ c := by rw [← hc]; split <;> omega
  unfold readL
  rw [hc]
  by_cases h1 : 60 < c
  · rw [if_pos h1]; exact Nat.zero_le _
  · rw [if_neg h1]
    by_cases h2 : (rowsG fileK (pieces 10 b) 0 []).2.1 = 0
    · rw [if_neg (by simpa using h2)]
      have hp := pieces_count 10 b
      have hne : pieces 10 b ≠ [] := by intro e; rw [e] at hp; simp at hp
      have := rowsG_len fileK (pieces 10 b) 0 [] hne h2
      simp only [List.length_nil] at this
      show (rowsG fileK (pieces 10 b) 0 []).1.length ≤ _
      omega
    · rw [if_pos h2]; exact Nat.zero_le _

theorem readS_60 (l : List UInt8) : (readS l).1.2.2.2.2.2.2.length ≤ 60 := by
  unfold readS
  split
  · exact Nat.zero_le _
  · split
    · exact Nat.zero_le _
    · split
      · exact Nat.zero_le _
      · split
        · exact Nat.zero_le _
        · split
          · exact Nat.zero_le _
          · split
            · exact Nat.zero_le _
            · exact readL_60 _
end Go.Proofs.YtpiagofhgalklacGreatDoor
namespace Go.Proofs.YtpiagofhgalklacGreatDoor
open Go.RowKit Go.Extern.Stop Go.Stop Go.Extern Go.Sort Go.Shelf Go.Lib

/-- From 0 to a number. -/
def upB (n m : Int) : Bool := decide (0 ≤ n) && decide (n ≤ m)

theorem upTo_any (n m : Int) (w : World) : Calls Tryz.prog 99 #[.int .i64 n, .int .i64 m] w fun e w' => e = .returned (.bool (upB n m)) ∧ w' = w := by
  by_cases h1 : 0 ≤ n
  · by_cases h2 : n ≤ m
    · have hr : upB n m = true := by simp [upB, h1, h2]
      rw [hr]
      go_enter Tryz.func99, Tryz.ntmps99
      go_wp2
      go_ret
      exact ⟨rfl, rfl⟩
    · have hr : upB n m = false := by simp [upB, h2]
      rw [hr]
      go_enter Tryz.func99, Tryz.ntmps99
      go_wp2
      go_ret
      exact ⟨rfl, rfl⟩
  · have hr : upB n m = false := by simp [upB, h1]
    rw [hr]
    go_enter Tryz.func99, Tryz.ntmps99
    go_wp2
    go_ret
    exact ⟨rfl, rfl⟩

theorem sbnd_up (s : Sn) : sbndB s = (decide (1 ≤ s.1) && (decide (s.1 ≤ 1073741824) && (decide (0 ≤ s.2.1) && (decide (s.2.1 < s.1) && (upB s.2.2.1 1073741824 && (upB s.2.2.2.1 100000 && upB s.2.2.2.2.1 1073741824)))))) := by
  unfold sbndB upB
  simp only [Bool.and_assoc]

set_option maxRecDepth 100000 in
set_option maxHeartbeats 4000000 in
theorem numbersRight_any (s : Sn) (vf : Value) (w : World) :
    Calls Tryz.prog 68 #[snV s vf] w fun e w' => e = .returned (.bool (sbndB s)) ∧ Below w.heap.size w w' := by
  have hsb := sbnd_up s
  generalize sbndB s = SB at hsb ⊢
  obtain ⟨id, par, seq, day, idx, op, fs⟩ := s
  unfold snV
  dsimp only at hsb ⊢
  have hal : Below w.heap.size w (w.alloc (.cells #[.int .i64 id, .int .i64 par, .int .i64 seq, .int .i64 day, .int .i64 idx, .string op, vf] 52)) := (Below.refl _ _).alloc (Nat.le_refl _) _
  have h5 := fun W => upTo_any seq 1073741824 W
  have h6 := fun W => upTo_any day 100000 W
  have h7 := fun W => upTo_any idx 1073741824 W
  by_cases c0 : 1 ≤ id
  case neg =>
    obtain rfl : SB = false := by rw [hsb]; simp [c0]
    clear hsb h5 h6 h7
    go_enter Tryz.func68, Tryz.ntmps68
    go_wp2
    go_ret
    exact ⟨rfl, hal⟩
  by_cases c1 : id ≤ 1073741824
  case neg =>
    obtain rfl : SB = false := by rw [hsb]; simp [c1]
    clear hsb h5 h6 h7
    go_enter Tryz.func68, Tryz.ntmps68
    go_wp2
    go_ret
    exact ⟨rfl, hal⟩
  by_cases c2 : 0 ≤ par
  case neg =>
    obtain rfl : SB = false := by rw [hsb]; simp [c2]
    clear hsb h5 h6 h7
    go_enter Tryz.func68, Tryz.ntmps68
    go_wp2
    go_ret
    exact ⟨rfl, hal⟩
  by_cases c3 : par < id
  case neg =>
    obtain rfl : SB = false := by rw [hsb]; simp [c3]
    clear hsb h5 h6 h7
    go_enter Tryz.func68, Tryz.ntmps68
    go_wp2
    go_ret
    exact ⟨rfl, hal⟩
  cases u0 : upB seq 1073741824
  case false =>
    obtain rfl : SB = false := by rw [hsb]; simp [u0]
    rw [u0] at h5
    clear hsb
    go_enter Tryz.func68, Tryz.ntmps68
    go_wp2_with (go_at_call 99; first | (with_reducible refine (h5 _).mono ?_; rintro e w1 ⟨rfl, rfl⟩))
    go_ret
    exact ⟨rfl, hal⟩
  rw [u0] at h5
  cases u1 : upB day 100000
  case false =>
    obtain rfl : SB = false := by rw [hsb]; simp [u1]
    rw [u1] at h6
    clear hsb
    go_enter Tryz.func68, Tryz.ntmps68
    go_wp2_with (go_at_call 99; first | (with_reducible refine (h5 _).mono ?_; rintro e w1 ⟨rfl, rfl⟩) | (with_reducible refine (h6 _).mono ?_; rintro e w1 ⟨rfl, rfl⟩))
    go_ret
    exact ⟨rfl, hal⟩
  rw [u1] at h6
  cases u2 : upB idx 1073741824
  case false =>
    obtain rfl : SB = false := by rw [hsb]; simp [u2]
    rw [u2] at h7
    clear hsb
    go_enter Tryz.func68, Tryz.ntmps68
    go_wp2_with (go_at_call 99; first | (with_reducible refine (h5 _).mono ?_; rintro e w1 ⟨rfl, rfl⟩) | (with_reducible refine (h6 _).mono ?_; rintro e w1 ⟨rfl, rfl⟩) | (with_reducible refine (h7 _).mono ?_; rintro e w1 ⟨rfl, rfl⟩))
    go_ret
    exact ⟨rfl, hal⟩
  rw [u2] at h7
  obtain rfl : SB = true := by rw [hsb]; simp [c0, c1, c2, c3, u0, u1, u2]
  clear hsb
  go_enter Tryz.func68, Tryz.ntmps68
  go_wp2_with (go_at_call 99; first | (with_reducible refine (h5 _).mono ?_; rintro e w1 ⟨rfl, rfl⟩) | (with_reducible refine (h6 _).mono ?_; rintro e w1 ⟨rfl, rfl⟩) | (with_reducible refine (h7 _).mono ?_; rintro e w1 ⟨rfl, rfl⟩))
  go_ret
  exact ⟨rfl, hal⟩

set_option maxRecDepth 100000 in
set_option maxHeartbeats 2000000 in
theorem opRight_any (op : ByteArray) (w : World) :
    Calls Tryz.prog 69 #[.string op] w fun e w' => e = .returned (.bool (opB op.data.toList)) ∧ w' = w := by
  by_cases e0 : op.data.toList = kStart
  · have hr : opB op.data.toList = true := by simp [opB, e0]
    rw [hr]
    have d0 := eqB_of e0
    simp only [kStart] at d0
    clear hr e0
    go_enter Tryz.func69, Tryz.ntmps69
    go_wp2
    go_ret
    exact ⟨rfl, rfl⟩
  have d0 := neB_of e0
  simp only [kStart] at d0
  by_cases e1 : op.data.toList = kAppend
  · have hr : opB op.data.toList = true := by simp [opB, e1]
    rw [hr]
    have d1 := eqB_of e1
    simp only [kAppend] at d1
    clear hr e1
    go_enter Tryz.func69, Tryz.ntmps69
    go_wp2
    go_ret
    exact ⟨rfl, rfl⟩
  have d1 := neB_of e1
  simp only [kAppend] at d1
  by_cases e2 : op.data.toList = kDelete
  · have hr : opB op.data.toList = true := by simp [opB, e2]
    rw [hr]
    have d2 := eqB_of e2
    simp only [kDelete] at d2
    clear hr e2
    go_enter Tryz.func69, Tryz.ntmps69
    go_wp2
    go_ret
    exact ⟨rfl, rfl⟩
  have d2 := neB_of e2
  simp only [kDelete] at d2
  by_cases e3 : op.data.toList = kRewrite
  · have hr : opB op.data.toList = true := by simp [opB, e3]
    rw [hr]
    have d3 := eqB_of e3
    simp only [kRewrite] at d3
    clear hr e3
    go_enter Tryz.func69, Tryz.ntmps69
    go_wp2
    go_ret
    exact ⟨rfl, rfl⟩
  have d3 := neB_of e3
  simp only [kRewrite] at d3
  have hr : opB op.data.toList = false := by simp [opB, e0, e1, e2, e3]
  rw [hr]
  clear hr e0 e1 e2 e3
  go_enter Tryz.func69, Tryz.ntmps69
  go_wp2
  go_ret
  exact ⟨rfl, rfl⟩

set_option maxRecDepth 100000 in
set_option maxHeartbeats 8000000 in
theorem scheck_any (s : Sn) (vf : Value) (w : World) (a : Nat → Addr) (h : EnvL w a) (hx : FlsAt w vf s.2.2.2.2.2.2) (hl : s.2.2.2.2.2.2.length ≤ 100) (hsz : Short s.2.2.2.2.2.2) :
    Calls Tryz.prog 34 #[snV s vf] w fun e w' => ∃ ev, e = .returned ev ∧ ToldE w' a ev (snapE s) ∧ Below w.heap.size w w' := by
  have hrs := @snapE_rest s
  have hub : sbndB s = false → snapE s = (2, none) := fun e => by unfold snapE; rw [if_pos e]
  have hnr := fun W => numbersRight_any s vf W
  have hop := fun W => opRight_any s.2.2.2.2.2.1 W
  have hlc := fun W (hb : Below w.heap.size w W) => lcheck_any vf s.2.2.2.2.2.2 W a (h.below hb) (hx.below hb) hl hsz
  have HEN : Hid (∀ W, Below w.heap.size w W → EnvL W a) := fun W hb => h.below hb
  have HXX : Hid (FlsAt w vf s.2.2.2.2.2.2) := hx
  obtain ⟨id, par, seq, day, idx, op, fs⟩ := s
  unfold snV at hnr ⊢
  dsimp only at hrs hub hnr hop hlc HXX hl ⊢
  generalize hR : snapE (id, par, seq, day, idx, op, fs) = R at hrs hub ⊢
  generalize hSB : sbndB (id, par, seq, day, idx, op, fs) = SB at hrs hub hnr
  generalize hOB : opB op.data.toList = OB at hrs hop
  generalize hLE : listE fs = LE at hrs hlc
  clear hR hSB hOB hLE hx hsz h
  have hal : Below w.heap.size w (w.alloc (.cells #[.int .i64 id, .int .i64 par, .int .i64 seq, .int .i64 day, .int .i64 idx, .string op, vf] 52)) := (Below.refl _ _).alloc (Nat.le_refl _) _
  have hsn : SnAt (w.alloc (.cells #[.int .i64 id, .int .i64 par, .int .i64 seq, .int .i64 day, .int .i64 idx, .string op, vf] 52)) w.heap.size (id, par, seq, day, idx, op, fs) vf := SnAt.new w (id, par, seq, day, idx, op, fs) vf
  have hnr1 := hnr (w.alloc (.cells #[.int .i64 id, .int .i64 par, .int .i64 seq, .int .i64 day, .int .i64 idx, .string op, vf] 52))
  go_enter Tryz.func34, Tryz.ntmps34
  go_wp2_with fail
  generalize w.alloc (.cells #[.int .i64 id, .int .i64 par, .int .i64 seq, .int .i64 day, .int .i64 idx, .string op, vf] 52) = WA at hal hsn hnr1 ⊢
  refine hnr1.mono ?_
  rintro e w1 ⟨rfl, hb1⟩
  clear hnr hnr1
  have hB1 : Below w.heap.size w w1 := hal.trans (hb1.mono hal.size)
  have hsn1 := hsn.below hb1
  clear hsn hb1 hal
  cases SB
  case false =>
    obtain rfl := hub rfl
    have et := (HEN.out w1 hB1).file.env.bound
    clear hub hrs hop hlc
    go_wp2
    go_ret
    exact ⟨_, rfl, rfl, hB1⟩
  case true =>
  clear hub
  replace hrs := hrs rfl
  have z5 := hsn1.cells.2.2.2.2.2.1
  dsimp only at z5
  have hop1 := hop w1
  clear hop
  go_wp2_with fail
  refine hop1.mono ?_
  rintro e w2 ⟨rfl, rfl⟩
  clear hop1 z5
  cases OB
  case false =>
    obtain rfl := hrs.1 rfl
    have et := (HEN.out w2 hB1).file.kind
    clear hrs hlc
    go_wp2
    go_ret
    exact ⟨_, rfl, rfl, hB1⟩
  case true =>
  obtain ⟨hl1, hl2⟩ := hrs.2 rfl
  clear hrs
  have z6 := hsn1.cells.2.2.2.2.2.2
  have hlc1 := hlc w2 hB1
  clear hlc
  obtain ⟨qf, cf, hvf⟩ := HXX.out.form
  subst hvf
  obtain ⟨L, hL⟩ : ∃ L, fs.length = L := ⟨_, rfl⟩
  have HL : Hid (fs.length = L) := hL
  rw [hL] at hlc1 z6 hl hsn1
  clear hL
  go_wp2_with fail
  refine hlc1.mono ?_
  rintro e w3 ⟨ev, rfl, ht, hb3⟩
  clear hlc1 z6
  have hB3 : Below w.heap.size w w3 := hB1.trans (hb3.mono hB1.size)
  have hsn3 := hsn1.below hb3
  clear hsn1 hb3 hB1
  by_cases hE : LE.1 = 0
  case neg =>
    obtain rfl := hl1 hE
    obtain ⟨t, u, rfl⟩ := ht.bad hE
    have HT : Hid (ToldE w3 a (.iface t u) R) := ht
    clear ht hl1 hl2 hsn3
    go_wp2
    go_ret
    exact ⟨_, rfl, HT.out, hB3⟩
  case pos =>
  obtain rfl := ht.ok hE
  have HRE : Hid (R = seqG seq fs 0) := hl2 hE
  clear ht hl1 hl2 hE
  have z6 := hsn3.cells.2.2.2.2.2.2
  go_wp2
  go_loopw [24] (fun k wr => ∃ n : Nat, n ≤ L ∧ k = .int .i64 n ∧ SeqLeft seq fs n ∧ Below w.heap.size w wr ∧ SnAt wr w.heap.size (id, par, seq, day, idx, op, fs) (.slice qf L cf)) (fun k _ => L - (intOf k).toNat)
  case atStart => exact ⟨0, by omega, rfl, seqL_zero seq fs, hB3, hsn3⟩
  case round =>
    clear hB3 hsn3 z6
    obtain ⟨n, hn, rfl, hsl, hb, hsn⟩ := hrel
    have HSL : Hid (SeqLeft seq fs n) := hsl
    have HSN : Hid (SnAt wr w.heap.size (id, par, seq, day, idx, op, fs) (.slice qf L cf)) := hsn
    clear hsl hsn
    by_cases hlt : n < L
    · have hltx : n < fs.length := by rw [HL.out]; exact hlt
      obtain ⟨b, o, hq, hc⟩ := (HXX.out.below hb).cells (fun e => by rw [e] at hltx; simp at hltx)
      subst hq
      obtain ⟨c0, c1, c2, c3, c4, c5⟩ := hc n hltx
      have hbad := fun e => seqL_bad HSL.out hltx e
      have hnxt := fun e => seqL_succ HSL.out hltx e
      generalize fs[n] = f at c0 c1 c2 c3 c4 c5 hbad hnxt
      have hfb := boxW_at wr f
      have hbb := boxW_below wr f
      unfold boxW at hfb hbb
      obtain ⟨fp, fq, fn, flo, fhi, fseq⟩ := f
      dsimp only at c0 c1 c2 c3 c4 c5 hbad hnxt hfb hbb
      have hiL : (n : Int) < (L : Int) := by omega
      have hi0' : (0 : Int) ≤ (n : Int) := by omega
      clear hc hltx
      go_upto_region 11 with fail
      clear c0 c1 c2 c3 c4 c5
      generalize wr.alloc (.cells #[.string fp, .string fq, .int .i64 fn, .int .i64 flo, .int .i64 fhi, .int .i64 fseq] 24) = W5 at hfb hbb ⊢
      have hB5 : Below w.heap.size w W5 := hb.trans (hbb.mono hb.size)
      have hsn5 := HSN.out.below hbb
      have HS5 : Hid (SnAt W5 w.heap.size (id, par, seq, day, idx, op, fs) (.slice (some ⟨b, o, none⟩) L cf)) := hsn5
      have z5 := hfb.cells.2.2.2.2.2.1
      have y2 := hsn5.cells.2.2.1
      dsimp only at z5 y2
      clear hsn5 hfb hbb
      by_cases hz : seq < fseq
      · have HRR : Hid (R = (9, some n)) := by
          show _ = _
          rw [HRE.out]; exact hbad hz
        have et := (HEN.out W5 hB5).order
        have hal : Below W5.heap.size W5 (W5.alloc (.cells #[.int .i64 n, .iface 217 (.pointer (some (a 8)))] 87)) := (Below.refl _ _).alloc (Nat.le_refl _) _
        clear hbad hnxt
        go_wp2
        go_ret
        refine ⟨_, rfl, ?_, hB5.trans (hal.mono hB5.size)⟩
        rw [HRR.out]
        exact ⟨by simp, W5.heap.size, rfl, by simp, by simp [errV]⟩
      · have HNX : Hid (SeqLeft seq fs (n + 1)) := hnxt hz
        clear hbad hnxt
        go_wp2
        go_roundw
        case rel => exact ⟨n + 1, by omega, by go_num, HNX.out, hB5, HS5.out⟩
        case measure => simp [intOf]; omega
    · obtain rfl : n = L := by omega
      have HRR : Hid (R = (0, none)) := by
        show _ = _
        rw [HRE.out]
        have h' := HSL.out
        rw [← HL.out] at h'
        exact seqL_all h'
      go_wp2
      go_ret
      refine ⟨_, rfl, ?_, hb⟩
      rw [HRR.out]
      rfl
end Go.Proofs.YtpiagofhgalklacGreatDoor
