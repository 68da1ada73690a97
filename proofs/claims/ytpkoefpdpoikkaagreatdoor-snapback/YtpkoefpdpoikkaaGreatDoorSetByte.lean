/-
  A text's bytes, one of them another, and a text again.
-/
import Derived.Test.YtpkoefpdpoikkaaGreatDoorSnapHd
import Derived.Test.YtpkoefpdpoikkaaGreatDoorListRd
import Derived.Laws.AppendOwn
import Derived.Laws.IdiomStrings
namespace Go.Proofs.YtpkoefpdpoikkaaGreatDoor
open Go.RowKit Go.Extern.Stop Go.Stop Go.Extern Go.Sort Go.Shelf Go.Lib

def SReadN (w : World) (a : Nat → Addr) (R : Sn × Nat × Option Nat) (e : Ending) (w' : World) : Prop := ∃ vf ev, e = .returned (.tuple #[snV R.1 vf, ev]) ∧ FlsAt w' vf R.1.2.2.2.2.2.2 ∧ ToldE w' a ev R.2 ∧ Below w.heap.size w w' ∧ NewL w vf
theorem sread_zero {w w' : World} {a : Nat → Addr} {ev : Value} {c : Nat × Option Nat} (h : ToldE w' a ev c) (hb : Below w.heap.size w w') : SReadN w a (zeroS, c) (.returned (.tuple #[(.agg #[.int .i64 0, .int .i64 0, .int .i64 0, .int .i64 0, .int .i64 0, .string ⟨#[]⟩, .slice none 0 0]), ev])) w' :=
  ⟨.slice none 0 0, ev, rfl, Or.inl ⟨none, 0, rfl, fun _ => rfl, rfl⟩, h, hb, newL_nil _⟩

set_option maxRecDepth 100000 in
set_option maxHeartbeats 16000000 in
theorem sread_new (s : ByteArray) (w : World) (a : Nat → Addr) (h : EnvP w a) (hs : s.size ≤ maxLen) :
    Calls Tryz.prog 48 #[.string s] w (SReadN w a (readS s.data.toList)) := by
  unfold maxLen at hs
  have hszl := size_list s
  have hal : Below w.heap.size w (w.alloc (.cells #[.int .i64 0, .int .i64 0, .int .i64 0, .int .i64 0, .int .i64 0, .string ⟨#[]⟩, .slice none 0 0] 74)) := (Below.refl _ _).alloc (Nat.le_refl _) _
  have hz0 : SnAt (w.alloc (.cells #[.int .i64 0, .int .i64 0, .int .i64 0, .int .i64 0, .int .i64 0, .string ⟨#[]⟩, .slice none 0 0] 74)) w.heap.size zeroS (.slice none 0 0) := SnAt.new w zeroS (.slice none 0 0)
  generalize hR : readS s.data.toList = R
  have HR : Hid (readS s.data.toList = R) := hR
  clear hR
  by_cases hbig : 20000 < s.size
  · have hRR : R = (zeroS, 2, none) := by rw [← HR.out]; exact readS_big (by omega)
    subst hRR
    have hb' : (20000 : Int) < (s.size : Int) := by omega
    clear HR
    go_enter Tryz.func48, Tryz.ntmps48
    go_upto_region 1 with fail
    generalize w.alloc (.cells #[.int .i64 0, .int .i64 0, .int .i64 0, .int .i64 0, .int .i64 0, .string ⟨#[]⟩, .slice none 0 0] 74) = WA at hal hz0 ⊢
    have et := (h.below hal).text.list.file.env.bound
    obtain ⟨y0, y1, y2, y3, y4, y5, y6, yf⟩ := hz0.zero
    have s0 := setCell_self y0
    have s1 := setCell_self y1
    have s2 := setCell_self y2
    have s3 := setCell_self y3
    have s4 := setCell_self y4
    have s5 := setCell_self y5
    have s6 := setCell_self y6
    go_wp2
    go_region
    all_goals go_wp2
    all_goals exact bodyPost_ret (v := .tuple #[(.agg #[.int .i64 0, .int .i64 0, .int .i64 0, .int .i64 0, .int .i64 0, .string ⟨#[]⟩, .slice none 0 0]), .iface 289 (.pointer (some (a 1)))]) (by simp [results, Tryz.results48, go_sem, y0, y1, y2, y3, y4, y5, y6]) rfl (sread_zero rfl hal.drew)
  have hb' : ¬ (20000 : Int) < (s.size : Int) := by omega
  obtain ⟨m, hm⟩ := (h.below hal).text.list.file.env.base.maxl
  have hcut := Tryz.strings_Cut s ⟨#[10]⟩ m _ (by omega) hm
  have e10 : (⟨#[10]⟩ : ByteArray).data.toList = [10] := rfl
  dsimp only at hcut
  have hcs : (Lib.cut s.data.toList [10]).1.length ≤ 20000 ∧ (Lib.cut s.data.toList [10]).2.1.length ≤ 20000 := by
    rcases cut_cases 10 s.data.toList with ⟨_, hc⟩ | ⟨x, y, hxy, _, hc⟩
    · rw [hc]; simp; omega
    · rw [hc]
      have : s.data.toList.length = x.length + 1 + y.length := by rw [hxy]; simp; omega
      dsimp only
      omega
  have hD := readS_all (l := s.data.toList) (by omega)
  rw [HR.out] at hD
  have eK : (⟨(Lib.cut s.data.toList [10]).1.toArray⟩ : ByteArray) = bytesOf (Lib.cut s.data.toList [10]).1 := rfl
  have eW : (⟨(Lib.cut s.data.toList [10]).2.1.toArray⟩ : ByteArray) = bytesOf (Lib.cut s.data.toList [10]).2.1 := rfl
  rw [eK, eW] at hcut
  clear eK eW hm
  generalize Lib.cut s.data.toList [10] = C at hcut hcs hD
  obtain ⟨fL, bL, found⟩ := C
  dsimp only at hcut hcs hD
  obtain ⟨hcs1, hcs2⟩ := hcs
  have hrh := fun W (hW : Env0 W a) => readHd_any (bytesOf fL) W a hW (by rw [bytes_len]; exact hcs1)
  have hsu := fun W => sum_any (bytesOf bL) W (by rw [bytes_len]; unfold maxLen; omega)
  have hrl := fun W (hW : EnvT W a) => lread_new (bytesOf bL) W a hW (by rw [bytes_len]; exact hcs2)
  rw [bytes_data] at hrh hsu hrl
  have HSH : Hid (Short (readL bL).1 ∧ (readL bL).1.length ≤ 60) := ⟨readL_short bL, readL_60 bL⟩
  have hsl := sumL_lt bL
  have hwS : IntKind.i64.wrap ((sumL bL : Nat) : Int) = ((sumL bL : Nat) : Int) := IntWalk.i64_in _ (by omega)
  have HD : Hid (R = if found = false then (zeroS, 1, none) else match snapO fL with
    | none => (zeroS, 1, none)
    | some (x1, x2, x3, x4, x5, op, g) => if g ≠ sumL bL then (zeroS, 10, none) else
      if (readL bL).2.1 ≠ 0 then (zeroS, (readL bL).2) else
      if (snapE (x1, x2, x3, x4, x5, bytesOf op, (readL bL).1)).1 ≠ 0 then (zeroS, snapE (x1, x2, x3, x4, x5, bytesOf op, (readL bL).1)) else
      ((x1, x2, x3, x4, x5, bytesOf op, (readL bL).1), 0, none)) := hD
  clear hD HR hcs1 hcs2 hszl hsl
  generalize bytesOf fL = fB at hcut hrh
  generalize bytesOf bL = bB at hcut hsu hrl
  generalize sumL bL = SM at hsu hwS HD
  generalize readL bL = RL at hrl HD HSH
  obtain ⟨fs, LE⟩ := RL
  dsimp only at hrl HD HSH
  go_enter Tryz.func48, Tryz.ntmps48
  go_wp2_with fail
  generalize w.alloc (.cells #[.int .i64 0, .int .i64 0, .int .i64 0, .int .i64 0, .int .i64 0, .string ⟨#[]⟩, .slice none 0 0] 74) = WA at hal hz0 hcut ⊢
  refine hcut.mono ?_
  rintro e w1 ⟨rfl, q, rfl⟩
  clear hcut
  have hb1 : Below WA.heap.size WA (WA.drewN q) := below_drewN (Below.refl _ _) q
  have hB1 : Below w.heap.size w (WA.drewN q) := hal.trans (hb1.mono hal.size)
  have hz1 := hz0.below hb1
  generalize WA.drewN q = w1 at hb1 hB1 hz1 ⊢
  have hrh1 := hrh w1 (h.below hB1).text.weak
  clear hz0 hal hb1 hrh
  go_wp2_with fail
  refine hrh1.mono ?_
  rintro e w2 ⟨hb2, hres⟩
  clear hrh1
  have hB2 : Below w.heap.size w w2 := hB1.trans (hb2.mono hB1.size)
  have hz2 := hz1.below hb2
  clear hz1 hB1 hb2
  generalize hSO : snapO fL = SO at hres HD
  clear hSO
  cases SO with
  | none =>
    obtain rfl : e = .returned (.tuple #[(.agg #[.int .i64 0, .int .i64 0, .int .i64 0, .int .i64 0, .int .i64 0, .string ⟨#[]⟩, .slice none 0 0]), .int .i64 0, .bool false]) := hres
    have hRR : R = (zeroS, 1, none) := by
      rw [HD.out]
      split <;> rfl
    subst hRR
    clear HD hsu hrl hwS
    have hal2 : Below w2.heap.size w2 (w2.alloc (.cells #[.int .i64 0, .int .i64 0, .int .i64 0, .int .i64 0, .int .i64 0, .string ⟨#[]⟩, .slice none 0 0] 74)) := (Below.refl _ _).alloc (Nat.le_refl _) _
    have hB3 : Below w.heap.size w (w2.alloc (.cells #[.int .i64 0, .int .i64 0, .int .i64 0, .int .i64 0, .int .i64 0, .string ⟨#[]⟩, .slice none 0 0] 74)) := hB2.trans (hal2.mono hB2.size)
    have hz3 := hz2.below hal2
    cases found
    · go_upto_region 5 with fail
      generalize w2.alloc (.cells #[.int .i64 0, .int .i64 0, .int .i64 0, .int .i64 0, .int .i64 0, .string ⟨#[]⟩, .slice none 0 0] 74) = w3 at hB3 hz3 ⊢
      have et := (h.below hB3).text.text
      obtain ⟨y0, y1, y2, y3, y4, y5, y6, yf⟩ := hz3.zero
      have s0 := setCell_self y0
      have s1 := setCell_self y1
      have s2 := setCell_self y2
      have s3 := setCell_self y3
      have s4 := setCell_self y4
      have s5 := setCell_self y5
      have s6 := setCell_self y6
      go_wp2
      go_region
      all_goals go_wp2
      all_goals exact bodyPost_ret (v := .tuple #[(.agg #[.int .i64 0, .int .i64 0, .int .i64 0, .int .i64 0, .int .i64 0, .string ⟨#[]⟩, .slice none 0 0]), .iface 289 (.pointer (some (a 0)))]) (by simp [results, Tryz.results48, go_sem, y0, y1, y2, y3, y4, y5, y6]) rfl (sread_zero rfl hB3.drew)
    · go_upto_region 5 with fail
      generalize w2.alloc (.cells #[.int .i64 0, .int .i64 0, .int .i64 0, .int .i64 0, .int .i64 0, .string ⟨#[]⟩, .slice none 0 0] 74) = w3 at hB3 hz3 ⊢
      have et := (h.below hB3).text.text
      obtain ⟨y0, y1, y2, y3, y4, y5, y6, yf⟩ := hz3.zero
      have s0 := setCell_self y0
      have s1 := setCell_self y1
      have s2 := setCell_self y2
      have s3 := setCell_self y3
      have s4 := setCell_self y4
      have s5 := setCell_self y5
      have s6 := setCell_self y6
      go_wp2
      go_region
      all_goals go_wp2
      all_goals exact bodyPost_ret (v := .tuple #[(.agg #[.int .i64 0, .int .i64 0, .int .i64 0, .int .i64 0, .int .i64 0, .string ⟨#[]⟩, .slice none 0 0]), .iface 289 (.pointer (some (a 0)))]) (by simp [results, Tryz.results48, go_sem, y0, y1, y2, y3, y4, y5, y6]) rfl (sread_zero rfl hB3.drew)
  | some X =>
  obtain ⟨x1, x2, x3, x4, x5, op, g⟩ := X
  dsimp only at hres HD
  unfold snV at hres
  dsimp only at hres
  subst hres
  generalize bytesOf op = T6 at HD ⊢
  have hal2 : Below w2.heap.size w2 (w2.alloc (.cells #[.int .i64 x1, .int .i64 x2, .int .i64 x3, .int .i64 x4, .int .i64 x5, .string T6, .slice none 0 0] 74)) := (Below.refl _ _).alloc (Nat.le_refl _) _
  have hB3 : Below w.heap.size w (w2.alloc (.cells #[.int .i64 x1, .int .i64 x2, .int .i64 x3, .int .i64 x4, .int .i64 x5, .string T6, .slice none 0 0] 74)) := hB2.trans (hal2.mono hB2.size)
  have hz3 := hz2.below hal2
  have hx3 : SnAt (w2.alloc (.cells #[.int .i64 x1, .int .i64 x2, .int .i64 x3, .int .i64 x4, .int .i64 x5, .string T6, .slice none 0 0] 74)) w2.heap.size (x1, x2, x3, x4, x5, T6, []) (.slice none 0 0) := SnAt.new w2 (x1, x2, x3, x4, x5, T6, []) (.slice none 0 0)
  have hXR : w.heap.size < w2.heap.size := hz2.lt
  clear hal2 hz2 hB2
  go_upto_region 5 with fail
  generalize w2.alloc (.cells #[.int .i64 x1, .int .i64 x2, .int .i64 x3, .int .i64 x4, .int .i64 x5, .string T6, .slice none 0 0] 74) = w3 at hB3 hz3 hx3 ⊢
  generalize w2.heap.size = X at hx3 hXR ⊢
  cases found
  · have hRR : R = (zeroS, 1, none) := by rw [HD.out, if_pos rfl]
    subst hRR
    clear HD hsu hrl hwS hx3
    have et := (h.below hB3).text.text
    obtain ⟨y0, y1, y2, y3, y4, y5, y6, yf⟩ := hz3.zero
    have s0 := setCell_self y0
    have s1 := setCell_self y1
    have s2 := setCell_self y2
    have s3 := setCell_self y3
    have s4 := setCell_self y4
    have s5 := setCell_self y5
    have s6 := setCell_self y6
    go_wp2
    go_region
    all_goals go_wp2
    all_goals exact bodyPost_ret (v := .tuple #[(.agg #[.int .i64 0, .int .i64 0, .int .i64 0, .int .i64 0, .int .i64 0, .string ⟨#[]⟩, .slice none 0 0]), .iface 289 (.pointer (some (a 0)))]) (by simp [results, Tryz.results48, go_sem, y0, y1, y2, y3, y4, y5, y6]) rfl (sread_zero rfl hB3.drew)
  have HD2 : Hid (R = if g ≠ (SM : Nat) then (zeroS, 10, none) else
      if LE.1 ≠ 0 then (zeroS, LE) else
      if (snapE (x1, x2, x3, x4, x5, T6, fs)).1 ≠ 0 then (zeroS, snapE (x1, x2, x3, x4, x5, T6, fs)) else
      ((x1, x2, x3, x4, x5, T6, fs), 0, none)) := by
    show _ = _
    rw [HD.out, if_neg (by simp)]
  clear HD
  have hsu1 := hsu w3
  clear hsu
  go_wp2_with fail
  refine hsu1.mono ?_
  rintro e w4 ⟨rfl, hb4⟩
  clear hsu1
  have hB4 : Below w.heap.size w w4 := hB3.trans (hb4.mono hB3.size)
  have hz4 := hz3.below hb4
  have hx4 := hx3.below hb4
  clear hB3 hz3 hx3 hb4
  by_cases hg : g = (SM : Nat)
  case neg =>
    have hRR : R = (zeroS, 10, none) := by rw [HD2.out, if_pos hg]
    subst hRR
    clear HD2 hrl hx4
    have et := (h.below hB4).sum
    obtain ⟨y0, y1, y2, y3, y4, y5, y6, yf⟩ := hz4.zero
    have s0 := setCell_self y0
    have s1 := setCell_self y1
    have s2 := setCell_self y2
    have s3 := setCell_self y3
    have s4 := setCell_self y4
    have s5 := setCell_self y5
    have s6 := setCell_self y6
    go_wp2
    go_region
    all_goals go_wp2
    all_goals exact bodyPost_ret (v := .tuple #[(.agg #[.int .i64 0, .int .i64 0, .int .i64 0, .int .i64 0, .int .i64 0, .string ⟨#[]⟩, .slice none 0 0]), .iface 289 (.pointer (some (a 9)))]) (by simp [results, Tryz.results48, go_sem, y0, y1, y2, y3, y4, y5, y6]) rfl (sread_zero rfl hB4.drew)
  case pos =>
  have HD3 : Hid (R = if LE.1 ≠ 0 then (zeroS, LE) else
      if (snapE (x1, x2, x3, x4, x5, T6, fs)).1 ≠ 0 then (zeroS, snapE (x1, x2, x3, x4, x5, T6, fs)) else
      ((x1, x2, x3, x4, x5, T6, fs), 0, none)) := by
    show _ = _
    rw [HD2.out, if_neg (by simpa using hg)]
  clear HD2
  subst hg
  have hrl1 := hrl w4 (h.below hB4).text
  clear hrl
  go_wp2_with fail
  refine hrl1.mono ?_
  rintro e w5 ⟨v5, ev, rfl, hv5, ht, hb5, hn5⟩
  have HNW : Hid (NewL w v5) := fun k hk => Nat.le_trans hB4.size (hn5 k hk)
  clear hrl1 hwS hn5
  have hB5 : Below w.heap.size w w5 := hB4.trans (hb5.mono hB4.size)
  have hz5 := hz4.below hb5
  have hx5 := hx4.below hb5
  clear hB4 hz4 hx4 hb5
  by_cases hE : LE.1 = 0
  case neg =>
    have hRR : R = (zeroS, LE) := by rw [HD3.out, if_pos hE]
    subst hRR
    obtain ⟨t, u, rfl⟩ := ht.bad hE
    have HT : Hid (ToldE w5 a (.iface t u) LE) := ht
    clear HD3 ht hx5 hv5
    obtain ⟨y0, y1, y2, y3, y4, y5, y6, yf⟩ := hz5.zero
    have s0 := setCell_self y0
    have s1 := setCell_self y1
    have s2 := setCell_self y2
    have s3 := setCell_self y3
    have s4 := setCell_self y4
    have s5 := setCell_self y5
    have s6 := setCell_self y6
    go_wp2
    exact bodyPost_ret (v := .tuple #[(.agg #[.int .i64 0, .int .i64 0, .int .i64 0, .int .i64 0, .int .i64 0, .string ⟨#[]⟩, .slice none 0 0]), .iface t u]) (by simp [results, Tryz.results48, go_sem, y0, y1, y2, y3, y4, y5, y6]) rfl (sread_zero HT.out hB5)
  case pos =>
  obtain rfl := ht.ok hE
  have HD4 : Hid (R = if (snapE (x1, x2, x3, x4, x5, T6, fs)).1 ≠ 0 then (zeroS, snapE (x1, x2, x3, x4, x5, T6, fs)) else
      ((x1, x2, x3, x4, x5, T6, fs), 0, none)) := by
    show _ = _
    rw [HD3.out, if_neg (by simpa using hE)]
  clear HD3 ht hE
  obtain ⟨qv, cv, hq⟩ := hv5.form
  subst hq
  have hoX := off_of hx5 hv5
  have hv6 := hv5.set_off hoX 6 (.slice qv fs.length cv)
  have hx6 : SnAt (w5.setCell ⟨X, 6, none⟩ (.slice qv fs.length cv)) X (x1, x2, x3, x4, x5, T6, fs) (.slice qv fs.length cv) := by
    have := hx5
    unfold SnAt at *
    rw [heap_setCell_same _ _ _ _ _ _ this]; rfl
  have hz6 := sn_other hz5 (show X ≠ w.heap.size by omega) 6 (.slice qv fs.length cv)
  have hB6 : Below w.heap.size w (w5.setCell ⟨X, 6, none⟩ (.slice qv fs.length cv)) := hB5.setCell (Nat.le_of_lt hXR) _
  have fX := hx5.fz
  have x6 := hx5.cells.2.2.2.2.2.2
  have hck6 := scheck_any (x1, x2, x3, x4, x5, T6, fs) (.slice qv fs.length cv) _ a (h.below hB6).text.list hv6 (by have := HSH.out.2; dsimp only; omega) HSH.out.1
  unfold snV at hck6
  dsimp only at hck6
  have HXE : Hid (X ≠ w.heap.size) := by show _ ≠ _; omega
  generalize hSE : snapE (x1, x2, x3, x4, x5, T6, fs) = XE at hck6 HD4
  clear hSE hx5 hv5 hz5 hB5 hoX
  obtain ⟨L, hL⟩ : ∃ L, fs.length = L := ⟨_, rfl⟩
  rw [hL] at hv6 hx6 hz6 hB6 hck6 ⊢
  clear hL
  go_upto_region 13 with fail
  generalize w5.setCell ⟨X, 6, none⟩ (.slice qv L cv) = w6 at hv6 hx6 hz6 hB6 hck6 ⊢
  obtain ⟨p0, p1, p2, p3, p4, p5, p6⟩ := hx6.cells
  dsimp only at p0 p1 p2 p3 p4 p5
  clear fX x6
  go_wp2_with fail
  refine hck6.mono ?_
  rintro e w7 ⟨ev, rfl, ht, hb7⟩
  clear hck6 p0 p1 p2 p3 p4 p5 p6
  have hB7 : Below w.heap.size w w7 := hB6.trans (hb7.mono hB6.size)
  have hz7 := hz6.below hb7
  have hx7 := hx6.below hb7
  have hv7 := hv6.below hb7
  clear hv6 hx6 hz6 hB6 hb7
  by_cases hE : XE.1 = 0
  case neg =>
    have hRR : R = (zeroS, XE) := by rw [HD4.out, if_pos hE]
    subst hRR
    obtain ⟨t, u, rfl⟩ := ht.bad hE
    have HT : Hid (ToldE w7 a (.iface t u) XE) := ht
    clear HD4 ht hx7 hv7
    obtain ⟨y0, y1, y2, y3, y4, y5, y6, yf⟩ := hz7.zero
    have s0 := setCell_self y0
    have s1 := setCell_self y1
    have s2 := setCell_self y2
    have s3 := setCell_self y3
    have s4 := setCell_self y4
    have s5 := setCell_self y5
    have s6 := setCell_self y6
    go_wp2
    exact bodyPost_ret (v := .tuple #[(.agg #[.int .i64 0, .int .i64 0, .int .i64 0, .int .i64 0, .int .i64 0, .string ⟨#[]⟩, .slice none 0 0]), .iface t u]) (by simp [results, Tryz.results48, go_sem, y0, y1, y2, y3, y4, y5, y6]) rfl (sread_zero HT.out hB7)
  case pos =>
  obtain rfl := ht.ok hE
  have hRR : R = ((x1, x2, x3, x4, x5, T6, fs), 0, none) := by rw [HD4.out, if_neg (by simpa using hE)]
  subst hRR
  clear HD4 ht hE
  obtain ⟨p0, p1, p2, p3, p4, p5, p6⟩ := hx7.cells
  dsimp only at p0 p1 p2 p3 p4 p5
  obtain ⟨y0, y1, y2, y3, y4, y5, y6, yf⟩ := hz7.zero
  have hoR := off_of hz7 hv7
  have HVF : Hid (FlsAt (((((((w7.setCell ⟨w.heap.size, 0, none⟩ (.int .i64 x1)).setCell ⟨w.heap.size, 1, none⟩ (.int .i64 x2)).setCell ⟨w.heap.size, 2, none⟩ (.int .i64 x3)).setCell ⟨w.heap.size, 3, none⟩ (.int .i64 x4)).setCell ⟨w.heap.size, 4, none⟩ (.int .i64 x5)).setCell ⟨w.heap.size, 5, none⟩ (.string T6)).setCell ⟨w.heap.size, 6, none⟩ (.slice qv L cv)) (.slice qv L cv) fs) := (((((((hv7.set_off hoR 0 _).set_off hoR 1 _).set_off hoR 2 _).set_off hoR 3 _).set_off hoR 4 _).set_off hoR 5 _).set_off hoR 6 _)
  obtain ⟨u0, u1, u2, u3, u4, u5, u6⟩ := (hz7.set (x1, x2, x3, x4, x5, T6, fs) (.slice qv L cv)).cells
  have hB8 := snSet_below (s := (x1, x2, x3, x4, x5, T6, fs)) (vf := .slice qv L cv) hB7 (Nat.le_refl w.heap.size)
  unfold snSet at u0 u1 u2 u3 u4 u5 u6 hB8
  dsimp only at u0 u1 u2 u3 u4 u5 hB8
  clear hz7 hx7 hv7 hoR
  go_wp2
  refine bodyPost_ret (v := .tuple #[.agg #[.int .i64 x1, .int .i64 x2, .int .i64 x3, .int .i64 x4, .int .i64 x5, .string T6, .slice qv L cv], .nilIface]) (by simp [results, Tryz.results48, go_sem, u0, u1, u2, u3, u4, u5, u6]) rfl ?_
  exact ⟨.slice qv L cv, .nilIface, rfl, HVF.out, rfl, hB8, fun k hk => HNW.out k (by cases qv <;> exact hk)⟩
theorem sread_any (s : ByteArray) (w : World) (a : Nat → Addr) (h : EnvP w a) (hs : s.size ≤ maxLen) :
    Calls Tryz.prog 48 #[.string s] w (SReadP w a (readS s.data.toList)) := (sread_new s w a h hs).mono fun _ _ ⟨v, ev, h1, h2, h3, h4, _⟩ => ⟨v, ev, h1, h2, h3, h4⟩
end Go.Proofs.YtpkoefpdpoikkaaGreatDoor
namespace Go.Proofs.YtpkoefpdpoikkaaGreatDoor
open Go.RowKit Go.Extern.Stop Go.Stop Go.Extern Go.Sort Go.Shelf Go.Lib

theorem snapK (a : Nat → Addr) : SnapK a (fun W => EnvP W a) where
  below := fun _ _ h hb => h.below hb
  check := fun W s vf h hx hl hs => scheck_any s vf W a h.text.list hx hl hs
  text := fun W s vf h hx hl hs => stext_any s vf W a h.text hx hl hs
  read := fun W s h hs => sread_any s W a h hs
  first := fun W => first_any W

end Go.Proofs.YtpkoefpdpoikkaaGreatDoor
namespace Go.Proofs.YtpkoefpdpoikkaaGreatDoor
open Go.RowKit Go.Extern.Stop Go.Stop Go.Extern Go.Sort Go.Shelf Go.Lib

theorem set_byte (s : ByteArray) (n : Nat) (hn : n < s.size) (c : UInt8) (w : World) : ∃ (C : Nat) (W1 : World) (v0 : Value),
    (convert 9 81 (.string s)).run Tryz.prog w = .ok (.slice (some ⟨w.heap.size, 0, none⟩) s.size C) W1 ∧ W1.cell? ⟨w.heap.size, n, none⟩ = some v0 ∧ W1.frozen? ⟨w.heap.size, n, none⟩ = false ∧
    (convert 81 9 (.slice (some ⟨w.heap.size, 0, none⟩) s.size C)).run Tryz.prog (W1.setCell ⟨w.heap.size, n, none⟩ (.int .u8 c.toNat)) = .ok (.string (bytesOf (s.data.toList.set n c))) (W1.setCell ⟨w.heap.size, n, none⟩ (.int .u8 c.toNat)) ∧
    Below w.heap.size w (W1.setCell ⟨w.heap.size, n, none⟩ (.int .u8 c.toNat)) := by
  have hconv := run_bytes_of_string (P := Tryz.prog) w 9 81 5 s Tryz.underlying9 Tryz.underlying81 Tryz.underlying5
  have hnd : n < s.data.size := hn
  generalize grownCap w s.size 0 5 = C at hconv
  have hsz : n < (bytesRow s C).size := by simp [bytesRow]; omega
  have hcell : ∀ j (hj : j < s.data.size), (w.drew.alloc (.cells (bytesRow s C) 5 ((bytesRow s C).size, (bytesRow s C).size + 1))).cell? ⟨w.heap.size, j, none⟩ = some (.int .u8 (s.data[j].toNat : Int)) := fun j hj => by
    have := World.cell?_alloc_mark w.drew (bytesRow s C) 5 ((bytesRow s C).size, (bytesRow s C).size + 1) j
    rw [bytesRow_at s C j hj] at this
    exact this
  have hz : (w.drew.alloc (.cells (bytesRow s C) 5 ((bytesRow s C).size, (bytesRow s C).size + 1))).frozen? ⟨w.heap.size, n, none⟩ = false := by
    have := World.frozen?_alloc_mark w.drew (bytesRow s C) 5 (bytesRow s C).size ((bytesRow s C).size + 1) n
    refine Eq.trans this ?_
    simp
    omega
  have hlow : Below w.heap.size w (w.drew.alloc (.cells (bytesRow s C) 5 ((bytesRow s C).size, (bytesRow s C).size + 1))) := (Below.refl w.heap.size w).drew.alloc (Nat.le_refl _) _
  generalize w.drew.alloc (.cells (bytesRow s C) 5 ((bytesRow s C).size, (bytesRow s C).size + 1)) = W1 at hconv hcell hz hlow
  refine ⟨C, W1, _, hconv, hcell n hnd, hz, ?_, hlow.setCell (Nat.le_refl _) _⟩
  have hlen : (s.data.toList.set n c).length = s.size := by rw [List.length_set, size_list]
  have := run_convert_bytes_back (P := Tryz.prog) (W1.setCell ⟨w.heap.size, n, none⟩ (.int .u8 c.toNat)) 81 9 5 ⟨w.heap.size, 0, none⟩ C (s.data.toList.set n c) Tryz.underlying81 Tryz.underlying5 Tryz.underlying9 (fun j hj => by
    rw [hlen] at hj
    have hjd : j < s.data.size := hj
    rw [add_plain]
    by_cases e : j = n
    · subst e
      have := World.cell?_setCell_same W1 ⟨w.heap.size, j, none⟩ (.int .u8 (c.toNat : Int)) (hcell j hjd)
      simpa using this
    · rw [World.cell?_setCell_other _ _ _ _ (by simp)]
      have := hcell j hjd
      simp only [Nat.zero_add]
      rw [this, List.getElem_set_ne (by omega)]
      simp)
  rw [hlen] at this
  exact this
end Go.Proofs.YtpkoefpdpoikkaaGreatDoor
