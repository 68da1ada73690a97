/-
  The contracts of cmp.Or at two numbers, list.order and list.behind.
-/
import Derived.Test.YtpkoefpdpoikkaaGreatDoorListLaw
namespace Go.Proofs.YtpkoefpdpoikkaaGreatDoor
open Go.RowKit Go.Extern.Stop Go.Stop Go.Extern Go.Sort Go.Shelf Go.Lib

structure SnapK (a : Nat → Addr) (EP : World → Prop) : Prop where
  below : ∀ W W' : World, EP W → Below W.heap.size W W' → EP W'
  check : ∀ (W : World) (s : Sn) (vf : Value), EP W → FlsAt W vf s.2.2.2.2.2.2 → s.2.2.2.2.2.2.length ≤ 100 → Short s.2.2.2.2.2.2 → Calls Tryz.prog 52 #[snV s vf] W fun e w' => ∃ ev, e = .returned ev ∧ ToldE w' a ev (snapE s) ∧ Below W.heap.size W w'
  text : ∀ (W : World) (s : Sn) (vf : Value), EP W → FlsAt W vf s.2.2.2.2.2.2 → s.2.2.2.2.2.2.length ≤ 100 → Short s.2.2.2.2.2.2 → Calls Tryz.prog 46 #[snV s vf] W fun e w' => ∃ ev, e = .returned (.tuple #[.string (if (snapE s).1 = 0 then bytesOf (snapL s) else ⟨#[]⟩), ev]) ∧ ToldE w' a ev (snapE s) ∧ Below W.heap.size W w'
  read : ∀ (W : World) (s : ByteArray), EP W → s.size ≤ maxLen → Calls Tryz.prog 48 #[.string s] W (SReadP W a (readS s.data.toList))
  first : ∀ W : World, Calls Tryz.prog 56 #[] W fun e w' => e = .returned (snV firstS (.slice none 0 0)) ∧ Below W.heap.size W w'

theorem on_first : snapE firstS = (0, none) := by
  have h1 : sbndB firstS = true := by decide
  have h2 : opB firstS.2.2.2.2.2.1.data.toList = true := by decide
  have h3 : (listE firstS.2.2.2.2.2.2).1 = 0 := by decide
  rw [((snapE_rest h1).2 h2).2 h3]
  rfl
theorem on_sum : sumL [] = 0 := by decide
theorem on_snap : snapL firstS = [115, 110, 97, 112, 32, 49, 32, 48, 32, 48, 32, 48, 32, 48, 32, 115, 116, 97, 114, 116, 32, 48, 10] := by
  have h : listL firstS.2.2.2.2.2.2 = [] := rfl
  unfold snapL snapH
  rw [h, on_sum]
  simp [firstS, kSnap, on_1, on_0]
theorem on_rdS : readS [115, 110, 97, 112, 32, 49, 32, 48, 32, 48, 32, 48, 32, 48, 32, 115, 116, 97, 114, 116, 32, 48, 10] = (firstS, 0, none) := by
  rw [← on_snap]
  exact snap_read (by rw [on_first])

theorem nilFls (W : World) : FlsAt W (.slice none 0 0) [] := Or.inl ⟨none, 0, rfl, fun _ => rfl, rfl⟩

set_option maxRecDepth 100000 in
set_option maxHeartbeats 2000000 in
theorem snapped_any (w : World) (a : Nat → Addr) (EP : World → Prop) (K : SnapK a EP) (h : EP w) :
    Calls Tryz.prog 44 #[] w fun e w' => e = .returned (.bool true) ∧ Below w.heap.size w w' := by
  have hf := K.first w
  have ht := fun W (hb : Below w.heap.size w W) => K.text W firstS (.slice none 0 0) (K.below _ _ h hb) (nilFls W) (by decide) (fun g hg => by simp [firstS] at hg)
  rw [on_first, if_pos rfl, on_snap] at ht
  have hr := fun W (hb : Below w.heap.size w W) => K.read W ⟨#[115, 110, 97, 112, 32, 49, 32, 48, 32, 48, 32, 48, 32, 48, 32, 115, 116, 97, 114, 116, 32, 48, 10]⟩ (K.below _ _ h hb) (by decide)
  have e2 : (⟨#[115, 110, 97, 112, 32, 49, 32, 48, 32, 48, 32, 48, 32, 48, 32, 115, 116, 97, 114, 116, 32, 48, 10]⟩ : ByteArray).data.toList = [115, 110, 97, 112, 32, 49, 32, 48, 32, 48, 32, 48, 32, 48, 32, 115, 116, 97, 114, 116, 32, 48, 10] := rfl
  rw [e2, on_rdS] at hr
  have eb : bytesOf [115, 110, 97, 112, 32, 49, 32, 48, 32, 48, 32, 48, 32, 48, 32, 115, 116, 97, 114, 116, 32, 48, 10] = ⟨#[115, 110, 97, 112, 32, 49, 32, 48, 32, 48, 32, 48, 32, 48, 32, 115, 116, 97, 114, 116, 32, 48, 10]⟩ := rfl
  rw [eb] at ht
  unfold snV firstS at hf ht
  dsimp only at hf ht
  clear e2 eb
  go_enter Tryz.func44, Tryz.ntmps44
  go_wp2_with fail
  refine hf.mono ?_
  rintro e w1 ⟨rfl, hb1⟩
  have ht1 := ht w1 hb1
  clear hf ht
  go_wp2_with fail
  refine ht1.mono ?_
  rintro e w2 ⟨ev2, rfl, he2, hb2⟩
  clear ht1
  obtain rfl : ev2 = .nilIface := he2
  have hB2 : Below w.heap.size w w2 := hb1.trans (hb2.mono hb1.size)
  have hr2 := hr w2 hB2
  clear hr hb1 hb2
  go_wp2_with fail
  refine hr2.mono ?_
  rintro e w3 ⟨vf, ev3, rfl, hv3, he3, hb3⟩
  clear hr2
  obtain rfl : ev3 = .nilIface := he3
  obtain ⟨q5, c5, rfl⟩ := hv3.form
  unfold snV firstS
  dsimp only
  have hB3 : Below w.heap.size w w3 := hB2.trans (hb3.mono hB2.size)
  have hal : Below w3.heap.size w3 (w3.alloc (.cells #[.int .i64 1, .int .i64 0, .int .i64 0, .int .i64 0, .int .i64 0, .string ⟨#[115, 116, 97, 114, 116]⟩, .slice q5 0 c5] 74)) := (Below.refl _ _).alloc (Nat.le_refl _) _
  have hB4 : Below w.heap.size w (w3.alloc (.cells #[.int .i64 1, .int .i64 0, .int .i64 0, .int .i64 0, .int .i64 0, .string ⟨#[115, 116, 97, 114, 116]⟩, .slice q5 0 c5] 74)) := hB3.trans (hal.mono hB3.size)
  clear hb3 hv3 hal
  simp only [List.length_nil]
  go_wp2
  go_ret
  exact ⟨rfl, hB4⟩

def longSn (s : Sn) : Bool := decide (30 < s.2.2.2.2.2.1.size) || longFs s.2.2.2.2.2.2
theorem longSn_no {s : Sn} (h : longSn s = false) : s.2.2.2.2.2.1.size ≤ 30 ∧ s.2.2.2.2.2.2.length ≤ 61 ∧ Short s.2.2.2.2.2.2 := by
  unfold longSn at h
  rw [Bool.or_eq_false_iff, decide_eq_false_iff_not] at h
  obtain ⟨h1, h2⟩ := longFs_no h.2
  exact ⟨by omega, h1, h2⟩

set_option maxRecDepth 100000 in
set_option maxHeartbeats 2000000 in
theorem longSnap_any (s : Sn) (vf : Value) (w : World) (hx : FlsAt w vf s.2.2.2.2.2.2) (ho : s.2.2.2.2.2.1.size ≤ maxLen) (hl : s.2.2.2.2.2.2.length ≤ maxLen) (hsz : ∀ f ∈ s.2.2.2.2.2.2, f.1.size ≤ maxLen ∧ f.2.1.size ≤ maxLen) :
    Calls Tryz.prog 45 #[snV s vf] w fun e w' => e = .returned (.int .i64 (if longSn s then 1 else 0)) ∧ Below w.heap.size w w' := by
  have hlf := fun W (hb : Below w.heap.size w W) => longFiles_any vf s.2.2.2.2.2.2 W (hx.below hb) hl hsz
  generalize hR : (if longSn s then (1 : Int) else 0) = R
  have hbg : 30 < s.2.2.2.2.2.1.size → R = 1 := fun e => by rw [← hR, if_pos]; unfold longSn; simp [e]
  have hsm : ¬ 30 < s.2.2.2.2.2.1.size → R = if longFs s.2.2.2.2.2.2 then 1 else 0 := fun e => by rw [← hR]; unfold longSn; simp [e]
  unfold maxLen at ho
  obtain ⟨q, cap, rfl⟩ := hx.form
  clear hR hx hsz
  obtain ⟨id, par, seq, day, idx, op, fs⟩ := s
  unfold snV
  dsimp only at *
  generalize (if longFs fs then (1 : Int) else 0) = LF at *
  generalize fs.length = L at *
  have hal : Below w.heap.size w (w.alloc (.cells #[.int .i64 id, .int .i64 par, .int .i64 seq, .int .i64 day, .int .i64 idx, .string op, .slice q L cap] 74)) := (Below.refl _ _).alloc (Nat.le_refl _) _
  by_cases hb : 30 < op.size
  · obtain rfl := hbg hb
    have hi : (30 : Int) < (op.size : Int) := by omega
    clear hbg hsm hlf hb
    go_enter Tryz.func45, Tryz.ntmps45
    go_wp2
    go_ret
    exact ⟨rfl, hal⟩
  · obtain rfl := hsm hb
    have hi : ¬ (30 : Int) < (op.size : Int) := by omega
    have hl1 := hlf _ hal
    clear hbg hsm hlf hb
    go_enter Tryz.func45, Tryz.ntmps45
    go_wp2_with fail
    generalize w.alloc (.cells #[.int .i64 id, .int .i64 par, .int .i64 seq, .int .i64 day, .int .i64 idx, .string op, .slice q L cap] 74) = WA at hal hl1 ⊢
    refine hl1.mono ?_
    rintro e w1 ⟨rfl, hb1⟩
    go_wp2
    go_ret
    exact ⟨rfl, hal.trans (hb1.mono hal.size)⟩

set_option maxRecDepth 100000 in
set_option maxHeartbeats 4000000 in
theorem ownSnapN_any (s : Sn) (vf : Value) (w : World) (hx : FlsAt w vf s.2.2.2.2.2.2) (hl : s.2.2.2.2.2.2.length ≤ 1000) :
    Calls Tryz.prog 47 #[snV s vf] w fun e w' => ∃ v', e = .returned (snV s v') ∧ FlsAt w' v' s.2.2.2.2.2.2 ∧ (∀ k, v'.ownBlock = some k → w.heap.size ≤ k) ∧ Below w.heap.size w w' := by
  have how := fun W (hb : Below w.heap.size w W) => ownFiles_any vf s.2.2.2.2.2.2 W (hx.below hb) hl
  obtain ⟨q, cap, rfl⟩ := hx.form
  clear hx
  obtain ⟨id, par, seq, day, idx, op, fs⟩ := s
  unfold snV
  dsimp only at *
  have hal : Below w.heap.size w ((w.alloc (.cells #[.int .i64 id, .int .i64 par, .int .i64 seq, .int .i64 day, .int .i64 idx, .string op, .slice q fs.length cap] 74)).alloc (.cells #[.int .i64 0, .int .i64 0, .int .i64 0, .int .i64 0, .int .i64 0, .string ⟨#[]⟩, .slice none 0 0] 74)) := ((Below.refl _ _).alloc (Nat.le_refl _) _).alloc (by simp) _
  have hsn : SnAt ((w.alloc (.cells #[.int .i64 id, .int .i64 par, .int .i64 seq, .int .i64 day, .int .i64 idx, .string op, .slice q fs.length cap] 74)).alloc (.cells #[.int .i64 0, .int .i64 0, .int .i64 0, .int .i64 0, .int .i64 0, .string ⟨#[]⟩, .slice none 0 0] 74)) w.heap.size (id, par, seq, day, idx, op, fs) (.slice q fs.length cap) := heap_alloc2_old w _ _
  have hz : SnAt ((w.alloc (.cells #[.int .i64 id, .int .i64 par, .int .i64 seq, .int .i64 day, .int .i64 idx, .string op, .slice q fs.length cap] 74)).alloc (.cells #[.int .i64 0, .int .i64 0, .int .i64 0, .int .i64 0, .int .i64 0, .string ⟨#[]⟩, .slice none 0 0] 74)) (w.heap.size + 1) zeroS (.slice none 0 0) := heap_alloc2_new w _ _
  have ho1 := how _ hal
  clear how
  obtain ⟨L, hL⟩ : ∃ L, fs.length = L := ⟨_, rfl⟩
  have HL : Hid (fs.length = L) := hL
  rw [hL] at hal hsn hz ho1 hl ⊢
  clear hL
  go_enter Tryz.func47, Tryz.ntmps47
  go_upto_region 1 with fail
  generalize (w.alloc (.cells #[.int .i64 id, .int .i64 par, .int .i64 seq, .int .i64 day, .int .i64 idx, .string op, .slice q L cap] 74)).alloc (.cells #[.int .i64 0, .int .i64 0, .int .i64 0, .int .i64 0, .int .i64 0, .string ⟨#[]⟩, .slice none 0 0] 74) = WA at hal hsn hz ho1 ⊢
  have z6 := hsn.cells.2.2.2.2.2.2
  go_wp2_with fail
  refine ho1.mono ?_
  rintro e w1 ⟨v', rfl, ow, hb1⟩
  clear ho1 z6
  have HNW : Hid (∀ k, v'.ownBlock = some k → w.heap.size ≤ k) := fun k hk => by
    rcases ow.2 with ⟨e, _⟩ | ⟨g, cap', cur, e, hbse, _⟩
    · rw [e] at hk; cases hk
    · rw [e] at hk
      simp only [Value.ownBlock, Option.some.injEq] at hk
      have := hal.size
      omega
  have hv1 : FlsAt w1 v' fs := (flsAt_of_own ow).1
  have hB1 : Below w.heap.size w w1 := hal.trans (hb1.mono hal.size)
  have hs1 := hsn.below hb1
  have hz1 := hz.below hb1
  clear hsn hz hb1 hal ow
  obtain ⟨qv, cv, hq⟩ := hv1.form
  subst hq
  have hoS := off_of hs1 hv1
  have hv2 := hv1.set_off hoS 6 (.slice qv fs.length cv)
  have hs2 : SnAt (w1.setCell ⟨w.heap.size, 6, none⟩ (.slice qv fs.length cv)) w.heap.size (id, par, seq, day, idx, op, fs) (.slice qv fs.length cv) := by
    have := hs1
    unfold SnAt at *
    rw [heap_setCell_same _ _ _ _ _ _ this]; rfl
  have hz2 := sn_other hz1 (show w.heap.size ≠ w.heap.size + 1 by omega) 6 (.slice qv fs.length cv)
  have hB2 : Below w.heap.size w (w1.setCell ⟨w.heap.size, 6, none⟩ (.slice qv fs.length cv)) := hB1.setCell (Nat.le_refl _) _
  have fS := hs1.fz
  have x6 := hs1.cells.2.2.2.2.2.2
  clear hs1 hz1 hv1 hB1 hoS
  rw [HL.out] at hv2 hs2 hz2 hB2 HNW ⊢
  go_upto_region 2 with fail
  generalize w1.setCell ⟨w.heap.size, 6, none⟩ (.slice qv L cv) = w2 at hv2 hs2 hz2 hB2 ⊢
  clear fS x6
  obtain ⟨p0, p1, p2, p3, p4, p5, p6⟩ := hs2.cells
  dsimp only at p0 p1 p2 p3 p4 p5
  have hoZ := off_of hz2 hv2
  have hle : w.heap.size ≤ w.heap.size + 1 := Nat.le_succ _
  have fz := hz2.fz
  obtain ⟨y0, y1, y2, y3, y4, y5, y6⟩ := hz2.cells
  have HV3 := (((((((hv2.set_off hoZ 0 (.int .i64 id)).set_off hoZ 1 (.int .i64 par)).set_off hoZ 2 (.int .i64 seq)).set_off hoZ 3 (.int .i64 day)).set_off hoZ 4 (.int .i64 idx)).set_off hoZ 5 (.string op)).set_off hoZ 6 (.slice qv L cv))
  obtain ⟨u0, u1, u2, u3, u4, u5, u6⟩ := (hz2.set (id, par, seq, day, idx, op, fs) (.slice qv L cv)).cells
  have hB3 := snSet_below (s := (id, par, seq, day, idx, op, fs)) (vf := .slice qv L cv) hB2 hle
  unfold snSet at u0 u1 u2 u3 u4 u5 u6 hB3
  dsimp only at u0 u1 u2 u3 u4 u5 hB3 y0 y1 y2 y3 y4 y5
  clear hz2 hs2 hv2 hoZ
  go_wp2
  refine bodyPost_ret (v := .agg #[.int .i64 id, .int .i64 par, .int .i64 seq, .int .i64 day, .int .i64 idx, .string op, .slice qv L cv]) (by simp [results, Tryz.results47, go_sem, u0, u1, u2, u3, u4, u5, u6]) rfl ?_
  exact ⟨.slice qv L cv, rfl, HV3, HNW.out, hB3⟩
theorem ownSnap_any (s : Sn) (vf : Value) (w : World) (hx : FlsAt w vf s.2.2.2.2.2.2) (hl : s.2.2.2.2.2.2.length ≤ 1000) :
    Calls Tryz.prog 47 #[snV s vf] w fun e w' => ∃ v', e = .returned (snV s v') ∧ FlsAt w' v' s.2.2.2.2.2.2 ∧ Below w.heap.size w w' :=
  (ownSnapN_any s vf w hx hl).mono fun _ _ ⟨v', he, hf, _, hb⟩ => ⟨v', he, hf, hb⟩
end Go.Proofs.YtpkoefpdpoikkaaGreatDoor
namespace Go.Proofs.YtpkoefpdpoikkaaGreatDoor
open Go.RowKit Go.Extern.Stop Go.Stop Go.Extern Go.Sort Go.Shelf Go.Lib

structure EnvL (w : World) (a : Nat → Addr) : Prop where
  file : EnvK w a
  miss : w.cell? ⟨6, 0, none⟩ = some (.iface 289 (.pointer (some (a 5))))
  exist : w.cell? ⟨5, 0, none⟩ = some (.iface 289 (.pointer (some (a 6))))
  full : w.cell? ⟨4, 0, none⟩ = some (.iface 289 (.pointer (some (a 7))))
  order : w.cell? ⟨8, 0, none⟩ = some (.iface 289 (.pointer (some (a 8))))

theorem EnvL.below {w w' : World} {a : Nat → Addr} (h : EnvL w a) (hb : Below w.heap.size w w') : EnvL w' a :=
  ⟨h.file.below hb, below_keep hb h.miss, below_keep hb h.exist, below_keep hb h.full, below_keep hb h.order⟩

def orI (x y : Int) : Int := if x = 0 then y else x

set_option maxRecDepth 100000 in
set_option maxHeartbeats 1000000 in
theorem cmpOr_any (x y : Int) (b : Nat) (w : World) (h0 : w.cell? ⟨b, 0, none⟩ = some (.int .i64 x)) (h1 : w.cell? ⟨b, 1, none⟩ = some (.int .i64 y)) :
    Calls Tryz.prog 159 #[.slice (some ⟨b, 0, none⟩) 2 2] w fun e w' => e = .returned (.int .i64 (orI x y)) ∧ w' = w := by
  go_enter Tryz.func159, Tryz.ntmps159
  go_wp2
  go_loopw [8] (fun k wr => ∃ n : Nat, n ≤ 2 ∧ k = .int .i64 n ∧ (1 ≤ n → x = 0) ∧ (2 ≤ n → y = 0) ∧ wr = w) (fun k _ => 2 - (intOf k).toNat)
  case atStart => exact ⟨0, by omega, rfl, fun h => absurd h (by omega), fun h => absurd h (by omega), rfl⟩
  case round =>
    obtain ⟨n, hn, rfl, hx, hy, rfl⟩ := hrel
    obtain rfl | rfl | rfl : n = 0 ∨ n = 1 ∨ n = 2 := by omega
    · clear hx hy
      by_cases hx : x = 0
      · subst hx
        go_wp2
        go_roundw
        case rel => exact ⟨1, by omega, by go_num, by simp, by simp, by first | rfl | trivial⟩
        case measure => simp [intOf]
      · have hb : (x == 0) = false := beq_eq_false_iff_ne.2 hx
        go_wp2
        go_ret
        exact ⟨by rw [orI, if_neg hx]; rfl, rfl⟩
    · obtain rfl := hx (by omega)
      clear hx hy
      by_cases hy : y = 0
      · subst hy
        go_wp2
        go_roundw
        case rel => exact ⟨2, by omega, by go_num, by simp, by simp, by first | rfl | trivial⟩
        case measure => simp [intOf]
      · have hb : (y == 0) = false := beq_eq_false_iff_ne.2 hy
        go_wp2
        go_ret
        exact ⟨rfl, rfl⟩
    · obtain rfl := hx (by omega)
      obtain rfl := hy (by omega)
      clear hx hy
      go_wp2
      go_ret
      exact ⟨rfl, rfl⟩

theorem ord_pk {p q : List UInt8} {g k : Bool} {n m : Int} (hp : pathO p = some (g, n)) (hq : pathO q = some (k, m)) : orI (Lib.compareBytes (kindL g) (kindL k)) (Lib.compareInt n m) = Lib.compareInt (pk p) (pk q) := by
  obtain ⟨e1, a1, a2⟩ := pk_some hp
  obtain ⟨e2, b1, b2⟩ := pk_some hq
  rw [e1, e2]
  cases g <;> cases k
  · rfl
  · have : Lib.compareBytes (kindL false) (kindL true) = -1 := by decide
    rw [this]
    unfold Lib.compareInt orI
    rw [if_neg (by decide), if_pos (by simp; omega)]
  · have : Lib.compareBytes (kindL true) (kindL false) = 1 := by decide
    rw [this]
    unfold Lib.compareInt orI
    rw [if_neg (by decide), if_neg (by simp; omega), if_pos (by simp; omega)]
  · have : Lib.compareBytes (kindL true) (kindL true) = 0 := by decide
    rw [this]
    unfold Lib.compareInt orI
    simp only [if_true]
    congr 1
    · exact propext ⟨fun h => by omega, fun h => by omega⟩
    · congr 1
      exact propext ⟨fun h => by omega, fun h => by omega⟩

theorem cmpI_neg (x y : Int) : (0 ≤ Lib.compareInt x y) ↔ y ≤ x := by
  unfold Lib.compareInt
  split
  · constructor <;> intro h <;> omega
  · split <;> constructor <;> intro h <;> omega

set_option maxRecDepth 100000 in
set_option maxHeartbeats 1000000 in
theorem lorder_any (p q : ByteArray) (w : World) (a : Nat → Addr) (h : EnvN w a) (hp : p.size ≤ 100000) (hq : q.size ≤ 100000) (hpo : pathO p.data.toList ≠ none) (hqo : pathO q.data.toList ≠ none) :
    Calls Tryz.prog 139 #[.string p, .string q] w fun e w' => e = .returned (.int .i64 (Lib.compareInt (pk p.data.toList) (pk q.data.toList))) ∧ Below w.heap.size w w' := by
  obtain ⟨⟨g, n⟩, hp1⟩ := Option.ne_none_iff_exists'.1 hpo
  obtain ⟨⟨k, m⟩, hq1⟩ := Option.ne_none_iff_exists'.1 hqo
  have ha := fnumber_n p w a h hp
  have hb := fun W (hW : EnvN W a) => fnumber_n q W a hW hq
  rw [pathR_some hp1] at ha
  rw [pathR_some hq1] at hb
  rw [← ord_pk hp1 hq1]
  have hs := fun W => Tryz.strings_Compare (bytesOf (kindL g)) (bytesOf (kindL k)) W
  rw [bytes_data, bytes_data] at hs
  have hc := fun W => Tryz.cmp_Compare_int n m W
  generalize Lib.compareBytes (kindL g) (kindL k) = X at hs ⊢
  generalize Lib.compareInt n m = Y at hc ⊢
  simp only [errV] at ha hb
  generalize bytesOf (kindL g) = KA at ha hs
  generalize bytesOf (kindL k) = KB at hb hs
  clear hp1 hq1 hpo hqo hp hq
  go_enter Tryz.func139, Tryz.ntmps139
  go_wp2_with fail
  refine ha.mono ?_
  rintro e w1 ⟨rfl, hb1⟩
  have hq1 := hb w1 (h.below hb1)
  clear ha hb
  go_wp2_with fail
  refine hq1.mono ?_
  rintro e w2 ⟨rfl, hb2⟩
  clear hq1
  have hB2 : Below w.heap.size w w2 := hb1.trans (hb2.mono hb1.size)
  clear hb1 hb2
  go_wp2_with fail
  refine (hs _).mono ?_
  rintro e w3 ⟨rfl, rfl⟩
  clear hs
  go_wp2_with fail
  refine (hc _).mono ?_
  rintro e w4 ⟨rfl, rfl⟩
  clear hc
  have hal : Below w4.heap.size w4 (w4.alloc (.cells #[.int .i64 X, .int .i64 Y] 3)) := (Below.refl _ _).alloc (Nat.le_refl _) _
  have hor := cmpOr_any X Y w4.heap.size (w4.alloc (.cells #[.int .i64 X, .int .i64 Y] 3)) (by simp) (by simp)
  go_wp2_with fail
  refine hor.mono ?_
  rintro e w5 ⟨rfl, rfl⟩
  clear hor
  go_wp2
  go_ret
  exact ⟨rfl, hB2.trans (hal.mono hB2.size)⟩

theorem last_of {β : Type} (acc : List β) (k : Nat) (d : β) (hk : acc.length = k + 1) (hkk : k < acc.length) : acc.getLastD d = acc[k] := by
  have hne : acc ≠ [] := fun e => by rw [e] at hk; simp at hk
  rw [List.getLastD_eq_getLast?, List.getLast?_eq_some_getLast hne, Option.getD_some, List.getLast_eq_getElem]
  congr 1
  omega

structure EnvT (w : World) (a : Nat → Addr) : Prop where
  list : EnvL w a
  text : w.cell? ⟨2, 0, none⟩ = some (.iface 289 (.pointer (some (a 0))))

theorem EnvT.below {w w' : World} {a : Nat → Addr} (h : EnvT w a) (hb : Below w.heap.size w w') : EnvT w' a := ⟨h.list.below hb, below_keep hb h.text⟩

def behE (fs : List Fl) (f : Fl) : Nat := if fs ≠ [] ∧ fk f ≤ fk (fs.getLastD zeroF) then 9 else 0

set_option maxRecDepth 100000 in
set_option maxHeartbeats 2000000 in
theorem behind_any (v : Value) (fs : List Fl) (f : Fl) (w : World) (a : Nat → Addr) (h : EnvL w a) (hx : FlsAt w v fs) (hl : fs.length ≤ 100000) (hsz : ∀ g ∈ fs, g.1.size ≤ 100000 ∧ pathO g.1.data.toList ≠ none) (hf : f.1.size ≤ 100000) (hfo : pathO f.1.data.toList ≠ none) :
    Calls Tryz.prog 94 #[v, flV f] w fun e w' => e = .returned (errV a (behE fs f)) ∧ Below w.heap.size w w' := by
  obtain ⟨q, cap, rfl⟩ := hx.form
  have hal : Below w.heap.size w (w.alloc (.cells #[.string f.1, .string f.2.1, .int .i64 f.2.2.1, .int .i64 f.2.2.2.1, .int .i64 f.2.2.2.2.1, .int .i64 f.2.2.2.2.2] 23)) := (Below.refl _ _).alloc (Nat.le_refl _) _
  have hfl := FlAt.new w f
  unfold flV
  by_cases hne : fs = []
  · have hE : behE fs f = 0 := by unfold behE; rw [if_neg]; rintro ⟨h', _⟩; exact h' hne
    rw [hE]
    subst hne
    simp only [errV]
    have hd : decide ((((0 : Nat) : Int)) > 0) = false := by decide
    go_enter Tryz.func94, Tryz.ntmps94
    go_wp2
    all_goals
      go_quiet (fail)
      go_wp2
      go_ret
      exact ⟨rfl, below_drewN hal nq⟩
  · obtain ⟨b, o, rfl, hc⟩ := hx.cells hne
    obtain ⟨k, hk⟩ : ∃ k, fs.length = k + 1 := ⟨fs.length - 1, by have := List.length_pos_iff.2 hne; omega⟩
    have hkk : k < fs.length := by omega
    have hlast := last_of fs k zeroF hk hkk
    obtain ⟨gs, go⟩ := hsz fs[k] (List.getElem_mem _)
    have c0 := below_keep hal (hc k hkk).1
    have z0 := hfl.cells.1
    have HOD : Hid (∀ W, Below w.heap.size w W → Calls Tryz.prog 139 #[.string fs[k].1, .string f.1] W fun e w' => e = .returned (.int .i64 (Lib.compareInt (fk fs[k]) (fk f))) ∧ Below W.heap.size W w') := fun W hW => lorder_any fs[k].1 f.1 W a (h.below hW).file.env gs hf go hfo
    have HE : Hid (behE fs f = if fk f ≤ fk fs[k] then 9 else 0) := by
      show _ = _
      unfold behE
      rw [hlast]
      simp [hne]
    have hcm := cmpI_neg (fk fs[k]) (fk f)
    rw [HE.out, hk]
    have hk5 : k ≤ 100000 := by omega
    clear HE hlast gs go hsz hc hx hne hfo hl
    obtain ⟨fp, fq, fn, flo, fhi, fseq⟩ := f
    dsimp only at hal hfl hf z0 c0 HOD ⊢
    generalize fk (fp, fq, fn, flo, fhi, fseq) = KF at HOD hcm ⊢
    generalize fk fs[k] = KG at HOD hcm ⊢
    generalize fs[k].1 = gp at c0 HOD
    clear hkk hk
    generalize Lib.compareInt KG KF = C at HOD hcm
    have hi1 : (0 : Int) < (k : Int) + 1 := by omega
    have hi3 : (k : Int) < (k : Int) + 1 := by omega
    have hi4 : (0 : Int) ≤ (k : Int) := by omega
    have hi5 : IntKind.i64.wrap (k : Int) = (k : Int) := IntWalk.i64_in _ (by omega)
    have hd0 : decide ((k : Int) + 1 > 0) = true := decide_eq_true hi1
    by_cases hle : KF ≤ KG
    · have h0 : (0 : Int) ≤ C := hcm.2 hle
      rw [if_pos hle]
      simp only [errV]
      go_enter Tryz.func94, Tryz.ntmps94
      go_upto_region 1 with fail
      generalize w.alloc (.cells #[.string fp, .string fq, .int .i64 fn, .int .i64 flo, .int .i64 fhi, .int .i64 fseq] 23) = WA at hal hfl z0 c0 ⊢
      go_region_held3 (fun w' => w'.cell? ⟨b, o + k * 6, none⟩ = some (.string gp) ∧ w'.cell? ⟨w.heap.size, 0, none⟩ = some (.string fp) ∧ Below w.heap.size w w')
        (first
          | (go_split_ands; with_reducible exact ⟨below_keep hbX (by assumption), below_keep hbX (by assumption), Below.trans (by assumption) (hbX.mono (Below.size (by assumption)))⟩)
          | (go_split_ands; exact ⟨by go_keep, by go_keep, by assumption⟩)
          | (go_split_ands; exact ⟨by go_keep, by go_keep, Below.drew (by assumption)⟩))
        (first
          | (go_at_call 139; with_reducible refine (HOD.out _ (by go_split_ands; assumption)).mono ?_; rintro e wX ⟨rfl, hbX⟩))
      go_split_ands
      have hBX : Below w.heap.size w wX := by assumption
      have ho := (h.below hBX).order
      go_wp2
      go_ret
      exact ⟨rfl, hBX⟩
    · have h0 : ¬ (0 : Int) ≤ C := fun h' => hle (hcm.1 h')
      rw [if_neg hle]
      simp only [errV]
      go_enter Tryz.func94, Tryz.ntmps94
      go_upto_region 1 with fail
      generalize w.alloc (.cells #[.string fp, .string fq, .int .i64 fn, .int .i64 flo, .int .i64 fhi, .int .i64 fseq] 23) = WA at hal hfl z0 c0 ⊢
      go_region_held3 (fun w' => w'.cell? ⟨b, o + k * 6, none⟩ = some (.string gp) ∧ w'.cell? ⟨w.heap.size, 0, none⟩ = some (.string fp) ∧ Below w.heap.size w w')
        (first
          | (go_split_ands; with_reducible exact ⟨below_keep hbX (by assumption), below_keep hbX (by assumption), Below.trans (by assumption) (hbX.mono (Below.size (by assumption)))⟩)
          | (go_split_ands; exact ⟨by go_keep, by go_keep, by assumption⟩)
          | (go_split_ands; exact ⟨by go_keep, by go_keep, Below.drew (by assumption)⟩))
        (first
          | (go_at_call 139; with_reducible refine (HOD.out _ (by go_split_ands; assumption)).mono ?_; rintro e wX ⟨rfl, hbX⟩))
      go_split_ands
      have hBX : Below w.heap.size w wX := by assumption
      go_wp2
      go_ret
      exact ⟨rfl, hBX⟩
end Go.Proofs.YtpkoefpdpoikkaaGreatDoor
