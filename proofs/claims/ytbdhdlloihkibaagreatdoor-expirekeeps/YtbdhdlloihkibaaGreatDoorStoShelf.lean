/-
  The contracts of the library that this seat takes, in plain words.
-/
import Derived.Test.YtbdhdlloihkibaaGreatDoorRefExp2
import Derived.Shelf.SlIter.Nil
import Derived.Ground.GgzProg
namespace Go.Proofs.YtbdhdlloihkibaaGreatDoor
open Go.RowKit Go.Extern.Stop Go.Stop Go.Extern Go.Sort Go.Shelf Go.Lib

theorem kmax_run (x y : Int) (w : World) : (Builtin.max_ #[3, 3] 3 #[.int .i64 x, .int .i64 y]).run Tryz.prog w = .ok (.int .i64 (max x y)) w := by
  have e : max x y = if y > x then y else x := by split <;> omega
  rw [e]
  simp [Builtin.max_, Builtin.max2]
theorem kmin_run (x y : Int) (w : World) : (Builtin.min_ #[3, 3] 3 #[.int .i64 x, .int .i64 y]).run Tryz.prog w = .ok (.int .i64 (min x y)) w := by
  have e : min x y = if y < x then y else x := by split <;> omega
  rw [e]
  simp [Builtin.min_, Builtin.min2]

theorem keeper1_any (i d last : Int) (b9 : Nat) (W : World) (h9 : W.cell? ⟨b9, 0, none⟩ = some (.int .i64 last)) :
    Calls Tryz.prog 60 #[.int .i64 i, .int .i64 d, .pointer (some ⟨b9, 0, none⟩)] W fun e W' => e = .returned (.bool (i == last)) ∧ W' = W := by
  go_enter Tryz.func60, Tryz.ntmps60
  go_wp2
  go_ret
  exact ⟨rfl, rfl⟩

theorem keeper2_any (i d last first least : Int) (b9 b10 b11 : Nat) (W : World) (h9 : W.cell? ⟨b9, 0, none⟩ = some (.int .i64 last)) (h10 : W.cell? ⟨b10, 0, none⟩ = some (.int .i64 least)) (h11 : W.cell? ⟨b11, 0, none⟩ = some (.int .i64 first)) :
    Calls Tryz.prog 61 #[.int .i64 i, .int .i64 d, .pointer (some ⟨b9, 0, none⟩), .pointer (some ⟨b11, 0, none⟩), .pointer (some ⟨b10, 0, none⟩)] W fun e W' => e = .returned (.bool ((i == last) || (decide (first ≤ i) || decide (least ≤ d)))) ∧ W' = W := by
  by_cases ha : i = last
  · have e1 : (i == last) = true := by simp [ha]
    rw [e1]
    clear ha
    go_enter Tryz.func61, Tryz.ntmps61
    go_wp2
    go_ret
    exact ⟨rfl, rfl⟩
  · have e1 : (i == last) = false := by simp [ha]
    rw [e1]
    clear ha
    by_cases hb : first ≤ i
    · rw [decide_eq_true hb]
      go_enter Tryz.func61, Tryz.ntmps61
      go_wp2
      go_ret
      exact ⟨rfl, rfl⟩
    · rw [decide_eq_false hb]
      by_cases hc : least ≤ d
      · rw [decide_eq_true hc]
        go_enter Tryz.func61, Tryz.ntmps61
        go_wp2
        go_ret
        exact ⟨rfl, rfl⟩
      · rw [decide_eq_false hc]
        go_enter Tryz.func61, Tryz.ntmps61
        go_wp2
        go_ret
        exact ⟨rfl, rfl⟩

theorem keeper_far (n : Nat) (day age count : Int) (w : World) (hn : n ≤ 900) (h : inNum day = false ∨ inNum age = false) :
    Calls Tryz.prog 27 #[.int .i64 n, .int .i64 day, .int .i64 age, .int .i64 count] w fun e w' => e = .returned (.func (.func 60) #[] #[.pointer (some ⟨w.heap.size, 0, none⟩)]) ∧ w' = w.alloc (.cells #[.int .i64 ((n : Int) - 1)] 3) := by
  have h1 := inBounds_any day
  have h2 := inBounds_any age
  have hn1 : (0 : Int) ≤ (n : Int) := by omega
  have hn2 : (n : Int) ≤ 900 := by omega
  by_cases hd : inNum day = false
  · rw [hd] at h1
    clear h h2 hn hd
    go_enter Tryz.func27, Tryz.ntmps27
    go_wp2_with fail
    refine (h1 _).mono ?_
    rintro e w1 ⟨rfl, rfl⟩
    clear h1
    go_wp2
    go_ret
    exact ⟨rfl, rfl⟩
  · have ha : inNum age = false := h.resolve_left hd
    rw [ha] at h2
    have hd' : inNum day = true := by
      cases hx : inNum day
      · exact absurd hx hd
      · rfl
    rw [hd'] at h1
    clear hd'
    clear h hn hd ha
    go_enter Tryz.func27, Tryz.ntmps27
    go_wp2_with fail
    refine (h1 _).mono ?_
    rintro e w1 ⟨rfl, rfl⟩
    clear h1
    go_wp2_with fail
    refine (h2 _).mono ?_
    rintro e w1 ⟨rfl, rfl⟩
    clear h2
    go_wp2
    go_ret
    exact ⟨rfl, rfl⟩

def fstK (n : Nat) (count : Int) : Int := (n : Int) - min (max count 0) (n : Int)
theorem keeper_near (n : Nat) (day age count : Int) (w : World) (hn : n ≤ 900) (hd : inNum day = true) (ha : inNum age = true) :
    Calls Tryz.prog 27 #[.int .i64 n, .int .i64 day, .int .i64 age, .int .i64 count] w fun e w' => e = .returned (.func (.func 61) #[] #[.pointer (some ⟨w.heap.size, 0, none⟩), .pointer (some ⟨w.heap.size + 1 + 1, 0, none⟩), .pointer (some ⟨w.heap.size + 1, 0, none⟩)]) ∧ w' = ((w.alloc (.cells #[.int .i64 ((n : Int) - 1)] 3)).alloc (.cells #[.int .i64 (day - age)] 3)).alloc (.cells #[.int .i64 (fstK n count)] 3) := by
  have h1 := inBounds_any day
  have h2 := inBounds_any age
  have hn1 : (0 : Int) ≤ (n : Int) := by omega
  have hn2 : (n : Int) ≤ 900 := by omega
  have d1 : -1073741824 ≤ day ∧ day ≤ 1073741824 := by simp [inNum] at hd; omega
  have d2 : -1073741824 ≤ age ∧ age ≤ 1073741824 := by simp [inNum] at ha; omega
  obtain ⟨d3, d4⟩ := d1
  obtain ⟨d5, d6⟩ := d2
  rw [hd] at h1
  rw [ha] at h2
  have hmx := fun W => kmax_run count 0 W
  have hmn := fun W => kmin_run (max count 0) n W
  have q1 : (0 : Int) ≤ min (max count 0) (n : Int) := by omega
  have q2 : min (max count 0) (n : Int) ≤ (n : Int) := by omega
  unfold fstK
  generalize min (max count 0) (n : Int) = m at *
  generalize max count 0 = x at *
  clear hn hd ha
  go_enter Tryz.func27, Tryz.ntmps27
  go_wp2_with fail
  refine (h1 _).mono ?_
  rintro e w1 ⟨rfl, rfl⟩
  clear h1
  go_wp2_with fail
  refine (h2 _).mono ?_
  rintro e w1 ⟨rfl, rfl⟩
  clear h2
  go_wp2
  go_ret
  exact ⟨rfl, rfl⟩

def AskK (g : Nat) (lb : Array Value) (day age count : Int) (ss : List Sn) (w : World) : Prop := ∀ n (h : n < ss.length) W, Below w.heap.size w W → Calls Tryz.prog g (#[.int .i64 (n : Int), .int .i64 ss[n].2.2.2.1] ++ lb) W fun e W' => e = .returned (.bool (keepB day age count (ss.length - 1 - n) ss[n])) ∧ W' = W
theorem keeper_any (ss : List Sn) (day age count : Int) (w : World) (hl : ss.length ≤ 900) :
    Calls Tryz.prog 27 #[.int .i64 ss.length, .int .i64 day, .int .i64 age, .int .i64 count] w fun e w' => ∃ g lb, e = .returned (.func (.func g) #[] lb) ∧ (∀ args w, (callFunc g args).run Tryz.prog w = .ok (.enter g args) w) ∧ AskK g lb day age count ss w' ∧ Below w.heap.size w w' := by
  by_cases h : inNum day = true ∧ inNum age = true
  · refine (keeper_near ss.length day age count w hl h.1 h.2).mono ?_
    rintro e w' ⟨rfl, rfl⟩
    have hal1 : Below w.heap.size w (w.alloc (.cells #[.int .i64 ((ss.length : Int) - 1)] 3)) := (Below.refl _ _).alloc (Nat.le_refl _) _
    have hal2 : Below w.heap.size w ((w.alloc (.cells #[.int .i64 ((ss.length : Int) - 1)] 3)).alloc (.cells #[.int .i64 (day - age)] 3)) := hal1.alloc hal1.size _
    have hal3 : Below w.heap.size w (((w.alloc (.cells #[.int .i64 ((ss.length : Int) - 1)] 3)).alloc (.cells #[.int .i64 (day - age)] 3)).alloc (.cells #[.int .i64 (fstK ss.length count)] 3)) := hal2.alloc hal2.size _
    refine ⟨_, _, rfl, enters_of Tryz.func61 (by kernel_rfl) rfl, fun n hn W hW => ?_, hal3⟩
    have a1 : (w.alloc (.cells #[.int .i64 ((ss.length : Int) - 1)] 3)).cell? ⟨w.heap.size, 0, none⟩ = some (.int .i64 ((ss.length : Int) - 1)) := by rw [cell_of_row _ _ _ _ _ _ (heap_alloc_new _ _)]; rfl
    have s1 : (w.alloc (.cells #[.int .i64 ((ss.length : Int) - 1)] 3)).heap.size = w.heap.size + 1 := by simp
    generalize w.alloc (.cells #[.int .i64 ((ss.length : Int) - 1)] 3) = X1 at *
    have a2 : (X1.alloc (.cells #[.int .i64 (day - age)] 3)).cell? ⟨X1.heap.size, 0, none⟩ = some (.int .i64 (day - age)) := by rw [cell_of_row _ _ _ _ _ _ (heap_alloc_new _ _)]; rfl
    have s2 : (X1.alloc (.cells #[.int .i64 (day - age)] 3)).heap.size = w.heap.size + 1 + 1 := by rw [← s1]; simp
    have b2 : Below X1.heap.size X1 (X1.alloc (.cells #[.int .i64 (day - age)] 3)) := (Below.refl _ _).alloc (Nat.le_refl _) _
    generalize X1.alloc (.cells #[.int .i64 (day - age)] 3) = X2 at *
    have a3 : (X2.alloc (.cells #[.int .i64 (fstK ss.length count)] 3)).cell? ⟨X2.heap.size, 0, none⟩ = some (.int .i64 (fstK ss.length count)) := by rw [cell_of_row _ _ _ _ _ _ (heap_alloc_new _ _)]; rfl
    have b3 : Below X2.heap.size X2 (X2.alloc (.cells #[.int .i64 (fstK ss.length count)] 3)) := (Below.refl _ _).alloc (Nat.le_refl _) _
    have c9 := below_keep hW (below_keep b3 (below_keep b2 a1))
    have c10 := below_keep hW (below_keep b3 a2)
    have c11 := below_keep hW a3
    rw [s1] at c10
    rw [s2] at c11
    refine (keeper2_any n ss[n].2.2.2.1 _ _ _ _ _ _ W c9 c10 c11).mono ?_
    rintro e w' ⟨rfl, rfl⟩
    refine ⟨?_, rfl⟩
    congr 2
    unfold keepB farE fstK
    rw [h.1, h.2]
    have e1 : ((n : Int) == (ss.length : Int) - 1) = decide (ss.length - 1 - n = 0) := by
      rw [Bool.eq_iff_iff]; simp; omega
    have e2 : decide ((ss.length : Int) - min (max count 0) (ss.length : Int) ≤ (n : Int)) = decide (((ss.length - 1 - n : Nat) : Int) < count) := by
      rw [decide_eq_decide]; omega
    rw [e1, e2]
    simp
  · have h' : inNum day = false ∨ inNum age = false := by
      cases hd : inNum day
      · exact Or.inl rfl
      · cases ha : inNum age
        · exact Or.inr rfl
        · exact absurd ⟨hd, ha⟩ h
    refine (keeper_far ss.length day age count w hl h').mono ?_
    rintro e w' ⟨rfl, rfl⟩
    have hal1 : Below w.heap.size w (w.alloc (.cells #[.int .i64 ((ss.length : Int) - 1)] 3)) := (Below.refl _ _).alloc (Nat.le_refl _) _
    refine ⟨_, _, rfl, enters_of Tryz.func60 (by kernel_rfl) rfl, fun n hn W hW => ?_, hal1⟩
    have c9 : W.cell? ⟨w.heap.size, 0, none⟩ = some (.int .i64 ((ss.length : Int) - 1)) := below_keep hW (by rw [cell_of_row _ _ _ _ _ _ (heap_alloc_new _ _)]; rfl)
    refine (keeper1_any n ss[n].2.2.2.1 _ _ W c9).mono ?_
    rintro e w' ⟨rfl, rfl⟩
    refine ⟨?_, rfl⟩
    congr 2
    unfold keepB farE
    have e1 : ((n : Int) == (ss.length : Int) - 1) = decide (ss.length - 1 - n = 0) := by
      rw [Bool.eq_iff_iff]; simp; omega
    rw [e1]
    rcases h' with h' | h' <;> rw [h'] <;> simp

set_option maxRecDepth 100000 in
set_option maxHeartbeats 4000000 in
theorem keep_any (v : Value) (ss : List Sn) (day age count : Int) (w : World) (hx : SnsAt w v ss) (hl : ss.length ≤ 900) :
    Calls Tryz.prog 10 #[v, .int .i64 day, .int .i64 age, .int .i64 count] w fun e w' => ∃ v', e = .returned v' ∧ w'.ownsRow w.heap.size 3 1 v' (keepL day age count ss).length ((keepL day age count ss).map (Value.int .i64)) ∧ Below w.heap.size w w' := by
  have HX : Hid (∀ W, Below w.heap.size w W → SnsAt W v ss) := fun W hb => hx.below hb
  have hkp := keeper_any ss day age count w hl
  obtain ⟨q, cap, rfl⟩ := hx.form
  obtain ⟨L, hL⟩ : ∃ L, ss.length = L := ⟨_, rfl⟩
  have HL : Hid (ss.length = L) := hL
  have hL1 : L ≤ 900 := by omega
  have HN0 : Hid (keepN day age count ss L = keepL day age count ss) := by
    show _ = _
    rw [← hL, keepN_all]
  have HNL : Hid (∀ n, n ≤ L → (keepN day age count ss n).length ≤ 900) := fun n hn => Nat.le_trans (keepN_len day age count ss n) (by omega)
  have HN1 : Hid (∀ n (h : n < ss.length), keepN day age count ss (n + 1) = keepN day age count ss n ++ (if keepB day age count (L - 1 - n) ss[n] = true then [ss[n].1] else [])) := fun n h => by rw [keepN_succ h, hL]
  generalize keepL day age count ss = KL at HN0 ⊢
  rw [hL] at HX hkp ⊢
  clear hx hl hL
  go_enter Tryz.func10, Tryz.ntmps10
  go_wp2_with fail
  refine hkp.mono ?_
  rintro e w1 ⟨g, lb, rfl, eg, hask, hb1⟩
  have HASK : Hid (AskK g lb day age count ss w1) := hask
  clear hkp hask
  go_wp2_with fail
  go_loopw [10, 11, 12, 21] (fun o _ _ i wr => ∃ n : Nat, n ≤ L ∧ i = .int .i64 n ∧ wr.ownsRow w1.heap.size 3 1 o (keepN day age count ss n).length ((keepN day age count ss n).map (Value.int .i64)) ∧ Below w1.heap.size w1 wr) (fun _ _ _ i _ => L - (intOf i).toNat)
  case atStart => exact ⟨0, by omega, rfl, World.ownsRow_nil _ _ _ _, Below.refl _ _⟩
  case round =>
  obtain ⟨n, hn, rfl, ho, hb⟩ := hrel
  have HO : Hid (wr.ownsRow w1.heap.size 3 1 u10 (keepN day age count ss n).length ((keepN day age count ss n).map (Value.int .i64))) := ho
  clear ho
  have hbw : Below w.heap.size w wr := hb1.trans (hb.mono hb1.size)
  by_cases hlt : n < L
  case neg =>
    obtain rfl : n = L := by omega
    have HT : Hid (wr.ownsRow w.heap.size 3 1 u10 KL.length (KL.map (Value.int .i64))) := by
      have h' := HO.out
      rw [HN0.out] at h'
      exact World.ownsRow.mono h' hb1.size
    have hii : ¬ (n : Int) < (n : Int) := by omega
    clear HO
    go_wp2
    go_ret
    exact ⟨_, rfl, HT.out, hbw⟩
  case pos =>
  have hltx : n < ss.length := by rw [HL.out]; exact hlt
  obtain ⟨b, o, hq, hc⟩ := (HX.out wr hbw).cells (fun e => by rw [e] at hltx; simp at hltx)
  subst hq
  have hi1 : (n : Int) < (L : Int) := by omega
  have hi0 : (0 : Int) ≤ (n : Int) := by omega
  obtain ⟨c0, c3, vf, c6, hfs, c1, c2, c4, c5⟩ := hc n hltx
  have hcall := HASK.out n hltx
  rw [HL.out] at hcall
  have HK := HN1.out n hltx
  generalize ss[n] = sn at c0 c1 c2 c3 c4 c5 c6 hfs hcall HK
  obtain ⟨g0, g1, g2, g3, g4, g5, fs⟩ := sn
  dsimp only at *
  obtain ⟨fq, fc, rfl⟩ := hfs.form
  generalize fs.length = FL at c6
  obtain ⟨KB, hKB⟩ : ∃ x, keepB day age count (L - 1 - n) (g0, g1, g2, g3, g4, g5, fs) = x := ⟨_, rfl⟩
  rw [hKB] at HK hcall
  have HK2 : Hid (keepN day age count ss (n + 1) = keepN day age count ss n ++ (if KB = true then [g0] else [])) := HK
  clear hc hltx HK hKB hfs
  have hal : Below wr.heap.size wr (wr.alloc (.cells #[.int .i64 g0, .int .i64 g1, .int .i64 g2, .int .i64 g3, .int .i64 g4, .string g5, .slice fq FL fc] 30)) := (Below.refl _ _).alloc (Nat.le_refl _) _
  have hask := hcall _ (hb.trans (hal.mono hb.size))
  have HOA : Hid ((wr.alloc (.cells #[.int .i64 g0, .int .i64 g1, .int .i64 g2, .int .i64 g3, .int .i64 g4, .string g5, .slice fq FL fc] 30)).ownsRow w1.heap.size 3 1 u10 (keepN day age count ss n).length ((keepN day age count ss n).map (Value.int .i64))) := own_but (P := fun _ => False) HO.out (But.of_below hal) (fun _ _ h => h)
  have hbA : Below w1.heap.size w1 (wr.alloc (.cells #[.int .i64 g0, .int .i64 g1, .int .i64 g2, .int .i64 g3, .int .i64 g4, .string g5, .slice fq FL fc] 30)) := hb.trans (hal.mono hb.size)
  clear hcall hal HO
  cases KB
  case false =>
    have HR : Hid (keepN day age count ss (n + 1) = keepN day age count ss n) := by show _ = _; rw [HK2.out]; simp
    clear HK2
    go_wp2_with (go_at_fn g; refine hask.mono ?_; rintro e w' ⟨rfl, rfl⟩)
    go_roundw
    case rel => exact ⟨n + 1, by omega, by go_num, by rw [HR.out]; exact HOA.out, hbA⟩
    case measure => simp [intOf]; omega
  case true =>
    have HS2 : Hid (keepN day age count ss (n + 1) = keepN day age count ss n ++ [g0]) := by show _ = _; rw [HK2.out]; simp
    clear HK2
    obtain ⟨v', W6, hr, ho6, hbut⟩ := int_run HOA.out hbA.size g0 rfl (by have := HNL.out n hn; omega)
    rw [show (wr.alloc (.cells #[.int .i64 g0, .int .i64 g1, .int .i64 g2, .int .i64 g3, .int .i64 g4, .string g5, .slice fq FL fc] 30)).heap.size = wr.heap.size + 1 from by simp] at hr
    have hB6 : Below w1.heap.size w1 W6 := hbA.trans (hbut.below hbA.size (fun k hk => (own_blk HOA.out hk).1))
    have HR : Hid (W6.ownsRow w1.heap.size 3 1 v' (keepN day age count ss (n + 1)).length ((keepN day age count ss (n + 1)).map (Value.int .i64))) := by
      show World.ownsRow _ _ _ _ _ _ _
      rw [HS2.out]
      exact ho6
    clear HS2 ho6 hbut HOA
    go_upto_region 7 with (go_at_fn g; refine hask.mono ?_; rintro e w' ⟨rfl, rfl⟩)
    go_wp2_with (at_builtin; refine wpList_append_run (by rfl) _ _ _ (by rfl) _ _ _ (by rfl) (by rfl) hr ?_)
    go_roundw
    case rel => exact ⟨n + 1, by omega, by go_num, HR.out, hB6⟩
    case measure => simp [intOf]; omega
end Go.Proofs.YtbdhdlloihkibaaGreatDoor
namespace Go.Proofs
open Go.Shelf
def Tryz.laysNm216_ren : Go.Shelf.Ren := ⟨fun | 16 => 52 | n => n, fun | 24 => 24 | 9 => 9 | 4 => 4 | n => n, fun | n => n⟩
theorem Tryz.laysNm216 : Go.Proofs.Lays2.n16 Tryz.prog Tryz.laysNm216_ren := {
  mixed := by kernel_rfl
  f16 := Tryz.func52.trans (congrArg some (by kernel_rfl))
  t4 := Tryz.underlying4
  a4 := Tryz.isAgg4
  z4 := Tryz.sizeOf4
  v4 := Tryz.zeroValue4
  t9 := Tryz.underlying9
  a9 := Tryz.isAgg9
  z9 := Tryz.sizeOf9
  v9 := Tryz.zeroValue9
  t24 := Tryz.underlying24
  a24 := Tryz.isAgg24
  z24 := Tryz.sizeOf24
  v24 := Tryz.zeroValue24
  i9 := by kernel_rfl }
open Go.RowKit Go.Lib in
theorem Tryz.slices_Clone_string (b off n c : Nat) (zs : List ByteArray) (w : World) (hz : n ≤ zs.length) (hbig : n * 16 ≤ 140737488355328) (hc : ∀ j, j < zs.length → w.cell? ⟨b, off + j, none⟩ = some (.string (zs.getD j ByteArray.empty))) :
    Calls Tryz.prog 52 #[.slice (some ⟨b, off, none⟩) n c] w fun e w' => ∃ v', e = .returned v' ∧ w'.ownsRow w.heap.size 9 1 v' n ((zs.take n).map (Value.string)) ∧ v' ≠ .slice none 0 0 ∧ Below w.heap.size w w' := Any.slices_Clone_string Tryz.laysNm216 b off n c zs w hz hbig hc
open Go.RowKit Go.Lib in
theorem Tryz.slices_Clone_string_nil (n c : Nat) (w : World) :
    Calls Tryz.prog 52 #[.slice none n c] w fun e w' => e = .returned (.slice none 0 0) ∧ w' = w := Any.slices_Clone_string_nil Tryz.laysNm216 n c w
open Go.RowKit Go.Lib in
theorem Tryz.slices_Clone_string_zero (a : Addr) (c : Nat) (w : World) :
    Calls Tryz.prog 52 #[.slice (some a) 0 c] w fun e w' => ∃ v', e = .returned v' ∧ w'.ownsRow w.heap.size 9 1 v' 0 [] ∧ v' ≠ .slice none 0 0 ∧ Below w.heap.size w w' := Any.slices_Clone_string_zero Tryz.laysNm216 a c w
def Tryz.lays194_ren : Go.Shelf.Ren := ⟨fun | 194 => 31 | n => n, fun | 31 => 24 | 9 => 9 | 3 => 3 | 4 => 4 | 0 => 0 | n => n, fun | n => n⟩
theorem Tryz.lays194 : Go.Proofs.Lays.n194 Tryz.prog Tryz.lays194_ren := {
  mixed := by kernel_rfl
  f194 := Tryz.func31.trans (congrArg some (by kernel_rfl))
  t0 := Tryz.underlying0
  a0 := Tryz.isAgg0
  z0 := Tryz.sizeOf0
  v0 := Tryz.zeroValue0
  t3 := Tryz.underlying3
  a3 := Tryz.isAgg3
  z3 := Tryz.sizeOf3
  v3 := Tryz.zeroValue3
  t4 := Tryz.underlying4
  a4 := Tryz.isAgg4
  z4 := Tryz.sizeOf4
  v4 := Tryz.zeroValue4
  t9 := Tryz.underlying9
  a9 := Tryz.isAgg9
  z9 := Tryz.sizeOf9
  v9 := Tryz.zeroValue9
  t31 := Tryz.underlying24
  a31 := Tryz.isAgg24
  z31 := Tryz.sizeOf24
  v31 := Tryz.zeroValue24 }
open Go.RowKit Go.Lib Go.Sort in
theorem Tryz.slices_Compact_string (blk off cap : Nat) (zs : List (List UInt8)) (w : World) (hH : Holds encStr w blk off zs.toArray) (hsz : zs.length ≤ 9223372036854775807) (hcap : zs.length ≤ cap) :
    Calls Tryz.prog 31 #[.slice (some ⟨blk, off, none⟩) zs.length cap] w fun e w' => e = .returned (.slice (some ⟨blk, off, none⟩) (Lib.compact zs).length cap) ∧ ∃ q, w' = putRow encStr (Sort.ahead w q) blk off (Lib.compact zs ++ List.replicate (zs.length - (Lib.compact zs).length) []).toArray := Any.slices_Compact_string Tryz.lays194 blk off cap zs w hH hsz hcap
open Go.RowKit Go.Lib Go.Sort in
theorem Tryz.slices_Compact_string_empty (a : Option Addr) (cap : Nat) (w : World) :
    Calls Tryz.prog 31 #[.slice a 0 cap] w fun e w' => e = .returned (.slice a 0 cap) ∧ w' = w := Any.slices_Compact_string_empty Tryz.lays194 a cap w
def Tryz.laysSlH10_f53_ren : Go.Shelf.Ren := ⟨fun | 10 => 53 | 6 => 75 | n => n, fun | 22 => 24 | 23 => 9 | 25 => 92 | 3 => 3 | 4 => 4 | 0 => 0 | n => n, fun | n => n⟩
theorem Tryz.laysSlH10_f53 : Go.Proofs.SlLaysH.n10 Tryz.prog Tryz.laysSlH10_f53_ren := {
  mixed := by kernel_rfl
  f6 := ⟨Tryz.f75.name, by decide, Tryz.func75.trans (congrArg some (by kernel_rfl))⟩
  f10 := ⟨Tryz.f53.name, by decide, Tryz.func53.trans (congrArg some (by kernel_rfl))⟩
  t0 := Tryz.underlying0
  a0 := Tryz.isAgg0
  z0 := Tryz.sizeOf0
  v0 := Tryz.zeroValue0
  t3 := Tryz.underlying3
  a3 := Tryz.isAgg3
  z3 := Tryz.sizeOf3
  v3 := Tryz.zeroValue3
  t4 := Tryz.underlying4
  a4 := Tryz.isAgg4
  z4 := Tryz.sizeOf4
  v4 := Tryz.zeroValue4
  t22 := Tryz.underlying24
  a22 := Tryz.isAgg24
  z22 := Tryz.sizeOf24
  v22 := Tryz.zeroValue24
  a23 := Tryz.isAgg9
  z23 := Tryz.sizeOf9
  t25 := Tryz.underlying92
  a25 := Tryz.isAgg92
  z25 := Tryz.sizeOf92
  v25 := Tryz.zeroValue92 }
open Go.RowKit Go.Lib Go.Sort in
theorem Tryz.slices_DeleteFunc {α : Type} [Inhabited α] (enc : α → Value) (hO : OneCell enc) (p : α → Bool) (g : Nat) (lb : Array Value) (eg : ∀ args w, (callFunc g args).run Tryz.prog w = .ok (.enter g args) w) (zr : α) (v23 : ∀ w, (zeroValue 9).run Tryz.prog w = .ok (enc zr) w) (blk off cap : Nat) (d : Array α) (w : World) (hp : PredAt Tryz.prog g lb enc p w) (hpo : PredOver Tryz.prog g lb enc p blk off d.size w) (hH : Holds enc w blk off d) (hsz : d.size ≤ 9223372036854775807) (hcap : d.size ≤ cap) :
    Calls Tryz.prog 53 #[.slice (some ⟨blk, off, none⟩) d.size cap, .func (.func g) #[] lb] w fun e w' => e = .returned (.slice (some ⟨blk, off, none⟩) (d.toList.filter fun x => !p x).length cap) ∧ ∃ q, w' = putRow enc (Sort.ahead w q) blk off ((d.toList.filter fun x => !p x) ++ List.replicate (d.size - (d.toList.filter fun x => !p x).length) zr).toArray := AnyE.slices_DeleteFunc Tryz.laysSlH10_f53 enc hO p g lb eg zr v23 blk off cap d w hp hpo hH hsz hcap
def Tryz.laysSlH6_f75_ren : Go.Shelf.Ren := ⟨fun | 6 => 75 | n => n, fun | 22 => 24 | 23 => 9 | 25 => 92 | 3 => 3 | 0 => 0 | 4 => 4 | n => n, fun | n => n⟩
theorem Tryz.laysSlH6_f75 : Go.Proofs.SlLaysH.n6 Tryz.prog Tryz.laysSlH6_f75_ren := {
  mixed := by kernel_rfl
  f6 := ⟨Tryz.f75.name, by decide, Tryz.func75.trans (congrArg some (by kernel_rfl))⟩
  t0 := Tryz.underlying0
  a0 := Tryz.isAgg0
  z0 := Tryz.sizeOf0
  v0 := Tryz.zeroValue0
  t3 := Tryz.underlying3
  a3 := Tryz.isAgg3
  z3 := Tryz.sizeOf3
  v3 := Tryz.zeroValue3
  t4 := Tryz.underlying4
  a4 := Tryz.isAgg4
  z4 := Tryz.sizeOf4
  v4 := Tryz.zeroValue4
  t22 := Tryz.underlying24
  a22 := Tryz.isAgg24
  z22 := Tryz.sizeOf24
  v22 := Tryz.zeroValue24
  a23 := Tryz.isAgg9
  z23 := Tryz.sizeOf9
  t25 := Tryz.underlying92
  a25 := Tryz.isAgg92
  z25 := Tryz.sizeOf92
  v25 := Tryz.zeroValue92 }
open Go.RowKit Go.Lib in
theorem Tryz.slices_IndexFunc_empty {α : Type} [Inhabited α] (a : Option Addr) (c : Nat) (fv : Value) (w : World) :
    Calls Tryz.prog 75 #[.slice a 0 c, fv] w fun e w' => e = .returned (.int .i64 (-1)) ∧ w' = w := AnyE.slices_IndexFunc_empty Tryz.laysSlH6_f75 a c fv w
end Go.Proofs
namespace Go.Proofs
open Go.Shelf
def Tryz.keysIt_ren : Go.Shelf.Ren := ⟨fun | 7 => 57 | 10 => 79 | n => n, fun | 23 => 64 | 26 => 9 | 3 => 99 | 28 => 97 | 0 => 0 | 27 => 96 | 33 => 92 | 4 => 4 | n => n, fun | n => n⟩
theorem Tryz.keysIt : Go.Proofs.SlLaysZ.n7 Tryz.prog Tryz.keysIt_ren := {
  mixed := by kernel_rfl
  f7 := ⟨Tryz.f57.name, by decide, Tryz.func57.trans (congrArg some (by kernel_rfl))⟩
  f10 := ⟨Tryz.f79.name, by decide, Tryz.func79.trans (congrArg some (by kernel_rfl))⟩
  t0 := Tryz.underlying0
  a0 := Tryz.isAgg0
  z0 := Tryz.sizeOf0
  v0 := Tryz.zeroValue0
  t4 := Tryz.underlying4
  a4 := Tryz.isAgg4
  z4 := Tryz.sizeOf4
  v4 := Tryz.zeroValue4
  t23 := Tryz.underlying64
  a23 := Tryz.isAgg64
  z23 := Tryz.sizeOf64
  v23 := Tryz.zeroValue64
  t26 := Tryz.underlying9
  a26 := Tryz.isAgg9
  z26 := Tryz.sizeOf9
  v26 := Tryz.zeroValue9
  t27 := Tryz.underlying96
  a27 := Tryz.isAgg96
  z27 := Tryz.sizeOf96
  v27 := Tryz.zeroValue96
  t28 := Tryz.underlying97
  a28 := Tryz.isAgg97
  z28 := Tryz.sizeOf97
  v28 := Tryz.zeroValue97
  t33 := Tryz.underlying92
  a33 := Tryz.isAgg92
  z33 := Tryz.sizeOf92
  v33 := Tryz.zeroValue92 }
def Tryz.sortedIt_ren : Go.Shelf.Ren := ⟨fun | 6 => 56 | 8 => 78 | 9 => 30 | 11 => 98 | 13 => 64 | 12 => 63 | 23 => 89 | 24 => 90 | 14 => 81 | 15 => 82 | 16 => 83 | 17 => 84 | 18 => 85 | 19 => 86 | 20 => 76 | 21 => 87 | 22 => 88 | 25 => 103 | 26 => 104 | 27 => 105 | 28 => 106 | 29 => 107 | 30 => 97 | 31 => 121 | n => n, fun | 26 => 9 | 28 => 97 | 24 => 24 | 0 => 0 | 3 => 3 | 37 => 105 | 48 => 123 | 50 => 125 | 4 => 4 | 40 => 117 | 39 => 116 | 45 => 90 | 5 => 5 | 9 => 9 | 51 => 142 | 55 => 146 | 57 => 170 | 58 => 86 | 33 => 92 | n => n, fun | n => n⟩
theorem Tryz.sortedIt : Go.Proofs.SlLaysZ.n6 Tryz.prog Tryz.sortedIt_ren := {
  mixed := by kernel_rfl
  f6 := ⟨Tryz.f56.name, by decide, Tryz.func56.trans (congrArg some (by kernel_rfl))⟩
  f8 := ⟨Tryz.f78.name, by decide, Tryz.func78.trans (congrArg some (by kernel_rfl))⟩
  f11 := ⟨Tryz.f98.name, by decide, Tryz.func98.trans (congrArg some (by kernel_rfl))⟩
  t0 := Tryz.underlying0
  a0 := Tryz.isAgg0
  z0 := Tryz.sizeOf0
  v0 := Tryz.zeroValue0
  t24 := Tryz.underlying24
  a24 := Tryz.isAgg24
  z24 := Tryz.sizeOf24
  v24 := Tryz.zeroValue24
  t26 := Tryz.underlying9
  a26 := Tryz.isAgg9
  z26 := Tryz.sizeOf9
  v26 := Tryz.zeroValue9
  t28 := Tryz.underlying97
  a28 := Tryz.isAgg97
  z28 := Tryz.sizeOf97
  v28 := Tryz.zeroValue97
  i26 := by kernel_rfl }
def Tryz.sortIt_ren : Go.Shelf.Ren := ⟨fun | 6 => 30 | 8 => 64 | 9 => 63 | 19 => 89 | 20 => 90 | 21 => 81 | 22 => 82 | 23 => 83 | 24 => 84 | 25 => 85 | 26 => 86 | 27 => 76 | 28 => 87 | 29 => 88 | 36 => 103 | 31 => 104 | 32 => 105 | 37 => 106 | 38 => 107 | 39 => 97 | 41 => 121 | n => n, fun | 27 => 24 | 29 => 9 | 3 => 3 | 32 => 105 | 26 => 24 | 0 => 0 | 44 => 123 | 46 => 125 | 4 => 4 | 36 => 117 | 35 => 116 | 41 => 90 | 5 => 5 | 9 => 9 | 53 => 142 | 57 => 146 | 63 => 170 | 64 => 86 | n => n, fun | n => n⟩
theorem Tryz.sortIt : Go.Proofs.SlLaysM.n6 Tryz.prog Tryz.sortIt_ren := {
  mixed := by kernel_rfl
  f6 := ⟨Tryz.f30.name, by decide, Tryz.func30.trans (congrArg some (by kernel_rfl))⟩
  f8 := Tryz.func64.trans (congrArg some (by kernel_rfl))
  f9 := ⟨Tryz.f63.name, by decide, Tryz.func63.trans (congrArg some (by kernel_rfl))⟩
  f19 := Tryz.func89.trans (congrArg some (by kernel_rfl))
  f20 := Tryz.func90.trans (congrArg some (by kernel_rfl))
  f21 := ⟨Tryz.f81.name, by decide, Tryz.func81.trans (congrArg some (by kernel_rfl))⟩
  f22 := ⟨Tryz.f82.name, by decide, Tryz.func82.trans (congrArg some (by kernel_rfl))⟩
  f23 := ⟨Tryz.f83.name, by decide, Tryz.func83.trans (congrArg some (by kernel_rfl))⟩
  f24 := ⟨Tryz.f84.name, by decide, Tryz.func84.trans (congrArg some (by kernel_rfl))⟩
  f25 := ⟨Tryz.f85.name, by decide, Tryz.func85.trans (congrArg some (by kernel_rfl))⟩
  f26 := ⟨Tryz.f86.name, by decide, Tryz.func86.trans (congrArg some (by kernel_rfl))⟩
  f27 := ⟨Tryz.f76.name, by decide, Tryz.func76.trans (congrArg some (by kernel_rfl))⟩
  f28 := ⟨Tryz.f87.name, by decide, Tryz.func87.trans (congrArg some (by kernel_rfl))⟩
  f29 := ⟨Tryz.f88.name, by decide, Tryz.func88.trans (congrArg some (by kernel_rfl))⟩
  f31 := Tryz.func104.trans (congrArg some (by kernel_rfl))
  f32 := Tryz.func105.trans (congrArg some (by kernel_rfl))
  f36 := ⟨Tryz.f103.name, by decide, Tryz.func103.trans (congrArg some (by kernel_rfl))⟩
  f37 := ⟨Tryz.f106.name, by decide, Tryz.func106.trans (congrArg some (by kernel_rfl))⟩
  f38 := ⟨Tryz.f107.name, by decide, Tryz.func107.trans (congrArg some (by kernel_rfl))⟩
  f39 := ⟨Tryz.f97.name, by decide, Tryz.func97.trans (congrArg some (by kernel_rfl))⟩
  f41 := ⟨Tryz.f121.name, by decide, Tryz.func121.trans (congrArg some (by kernel_rfl))⟩
  t0 := Tryz.underlying0
  a0 := Tryz.isAgg0
  z0 := Tryz.sizeOf0
  v0 := Tryz.zeroValue0
  t3 := Tryz.underlying3
  a3 := Tryz.isAgg3
  z3 := Tryz.sizeOf3
  v3 := Tryz.zeroValue3
  t4 := Tryz.underlying4
  a4 := Tryz.isAgg4
  z4 := Tryz.sizeOf4
  v4 := Tryz.zeroValue4
  t5 := Tryz.underlying5
  a5 := Tryz.isAgg5
  z5 := Tryz.sizeOf5
  v5 := Tryz.zeroValue5
  t9 := Tryz.underlying9
  a9 := Tryz.isAgg9
  z9 := Tryz.sizeOf9
  v9 := Tryz.zeroValue9
  t26 := Tryz.underlying24
  a26 := Tryz.isAgg24
  z26 := Tryz.sizeOf24
  v26 := Tryz.zeroValue24
  t27 := Tryz.underlying24
  a27 := Tryz.isAgg24
  z27 := Tryz.sizeOf24
  v27 := Tryz.zeroValue24
  t29 := Tryz.underlying9
  a29 := Tryz.isAgg9
  z29 := Tryz.sizeOf9
  v29 := Tryz.zeroValue9
  t32 := Tryz.underlying105
  a32 := Tryz.isAgg105
  z32 := Tryz.sizeOf105
  v32 := Tryz.zeroValue105
  t35 := Tryz.underlying116
  a35 := Tryz.isAgg116
  z35 := Tryz.sizeOf116
  v35 := Tryz.zeroValue116
  t36 := Tryz.underlying117
  a36 := Tryz.isAgg117
  z36 := Tryz.sizeOf117
  v36 := Tryz.zeroValue117
  t41 := Tryz.underlying90
  a41 := Tryz.isAgg90
  z41 := Tryz.sizeOf90
  v41 := Tryz.zeroValue90
  t44 := Tryz.underlying123
  a44 := Tryz.isAgg123
  z44 := Tryz.sizeOf123
  v44 := Tryz.zeroValue123
  t46 := Tryz.underlying125
  a46 := Tryz.isAgg125
  z46 := Tryz.sizeOf125
  v46 := Tryz.zeroValue125
  t53 := Tryz.underlying142
  a53 := Tryz.isAgg142
  z53 := Tryz.sizeOf142
  v53 := Tryz.zeroValue142
  t57 := Tryz.underlying146
  a57 := Tryz.isAgg146
  z57 := Tryz.sizeOf146
  v57 := Tryz.zeroValue146
  t63 := Tryz.underlying170
  a63 := Tryz.isAgg170
  z63 := Tryz.sizeOf170
  v63 := Tryz.zeroValue170
  t64 := Tryz.underlying86
  a64 := Tryz.isAgg86
  z64 := Tryz.sizeOf86
  v64 := Tryz.zeroValue86 }
end Go.Proofs
