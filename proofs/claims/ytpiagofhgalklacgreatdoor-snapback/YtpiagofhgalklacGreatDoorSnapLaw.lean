/-
  What the statements on snaps ask of the program's functions, in one word; the closed fact of the statements; LongSnap and OwnSnap.
-/
import Derived.Test.YtpiagofhgalklacGreatDoorSnapTold
import Derived.Test.YtpiagofhgalklacGreatDoorListLaw
namespace Go.Proofs.YtpiagofhgalklacGreatDoor
open Go.RowKit Go.Extern.Stop Go.Stop Go.Extern Go.Sort Go.Shelf Go.Lib

/-- What the statements ask of the program's functions on snaps. -/
structure SnapK (a : Nat → Addr) (EP : World → Prop) : Prop where
  below : ∀ W W' : World, EP W → Below W.heap.size W W' → EP W'
  check : ∀ (W : World) (s : Sn) (vf : Value), EP W → FlsAt W vf s.2.2.2.2.2.2 → s.2.2.2.2.2.2.length ≤ 100 → Short s.2.2.2.2.2.2 → Calls Tryz.prog 34 #[snV s vf] W fun e w' => ∃ ev, e = .returned ev ∧ ToldE w' a ev (snapE s) ∧ Below W.heap.size W w'
  text : ∀ (W : World) (s : Sn) (vf : Value), EP W → FlsAt W vf s.2.2.2.2.2.2 → s.2.2.2.2.2.2.length ≤ 100 → Short s.2.2.2.2.2.2 → Calls Tryz.prog 28 #[snV s vf] W fun e w' => ∃ ev, e = .returned (.tuple #[.string (if (snapE s).1 = 0 then bytesOf (snapL s) else ⟨#[]⟩), ev]) ∧ ToldE w' a ev (snapE s) ∧ Below W.heap.size W w'
  read : ∀ (W : World) (s : ByteArray), EP W → s.size ≤ maxLen → Calls Tryz.prog 30 #[.string s] W (SReadP W a (readS s.data.toList))
  first : ∀ W : World, Calls Tryz.prog 38 #[] W fun e w' => e = .returned (snV firstS (.slice none 0 0)) ∧ Below W.heap.size W w'

/-- .. with the one that counts rows and keys. -/
structure SnapR (a : Nat → Addr) (EP : World → Prop) : Prop where
  core : SnapK a EP
  rows : ∀ (W : World) (s : Sn) (vf : Value), EP W → FlsAt W vf s.2.2.2.2.2.2 → s.2.2.2.2.2.2.length ≤ 100 → Short s.2.2.2.2.2.2 → Calls Tryz.prog 36 #[snV s vf] W fun e w' => e = .returned (.tuple #[.int .i64 (rkS s).1, .int .i64 (rkS s).2]) ∧ Below W.heap.size W w'

theorem on_first : snapE firstS = (0, none) := by
  have h1 : sbndB firstS = true := by decide
  have h2 : opB firstS.2.2.2.2.2.1.data.toList = true := by decide
  have h3 : (listE firstS.2.2.2.2.2.2).1 = 0 := by decide
  rw [((snapE_rest h1).2 h2).2 h3]
  rfl
theorem on_sum : sumL [] = 0 := by decide
theorem on_snap : snapL firstS = [115, 110, 97, 112, 32, 49, 32, 48, 32, 48, 32, 48, 32, 48, 32, 115, 116, 97, 114, 116, 32, 48, 10] := by
  have h : listL firstS.2.2.2.2.2.2 = [] := rfl
  unfold snapL snapH
  rw [h, on_sum]
  simp [firstS, kSnap, on_1, on_0]
theorem on_rdS : readS [115, 110, 97, 112, 32, 49, 32, 48, 32, 48, 32, 48, 32, 48, 32, 115, 116, 97, 114, 116, 32, 48, 10] = (firstS, 0, none) := by
  rw [← on_snap]
  exact snap_read (by rw [on_first])

theorem nilFls (W : World) : FlsAt W (.slice none 0 0) [] := Or.inl ⟨none, 0, rfl, fun _ => rfl, rfl⟩

set_option maxRecDepth 100000 in
set_option maxHeartbeats 2000000 in
theorem snapped_any (w : World) (a : Nat → Addr) (EP : World → Prop) (K : SnapK a EP) (h : EP w) :
    Calls Tryz.prog 26 #[] w fun e w' => e = .returned (.bool true) ∧ Below w.heap.size w w' := by
  have hf := K.first w
  have ht := fun W (hb : Below w.heap.size w W) => K.text W firstS (.slice none 0 0) (K.below _ _ h hb) (nilFls W) (by decide) (fun g hg => by simp [firstS] at hg)
  rw [on_first, if_pos rfl, on_snap] at ht
  have hr := fun W (hb : Below w.heap.size w W) => K.read W ⟨#[115, 110, 97, 112, 32, 49, 32, 48, 32, 48, 32, 48, 32, 48, 32, 115, 116, 97, 114, 116, 32, 48, 10]⟩ (K.below _ _ h hb) (by decide)
  have e2 : (⟨#[115, 110, 97, 112, 32, 49, 32, 48, 32, 48, 32, 48, 32, 48, 32, 115, 116, 97, 114, 116, 32, 48, 10]⟩ : ByteArray).data.toList = [115, 110, 97, 112, 32, 49, 32, 48, 32, 48, 32, 48, 32, 48, 32, 115, 116, 97, 114, 116, 32, 48, 10] := rfl
  rw [e2, on_rdS] at hr
  have eb : bytesOf [115, 110, 97, 112, 32, 49, 32, 48, 32, 48, 32, 48, 32, 48, 32, 115, 116, 97, 114, 116, 32, 48, 10] = ⟨#[115, 110, 97, 112, 32, 49, 32, 48, 32, 48, 32, 48, 32, 48, 32, 115, 116, 97, 114, 116, 32, 48, 10]⟩ := rfl
  rw [eb] at ht
  unfold snV firstS at hf ht
  dsimp only at hf ht
  clear e2 eb
  go_enter Tryz.func26, Tryz.ntmps26
  go_wp2_with fail
  refine hf.mono ?_
  rintro e w1 ⟨rfl, hb1⟩
  have ht1 := ht w1 hb1
  clear hf ht
  go_wp2_with fail
  refine ht1.mono ?_
  rintro e w2 ⟨ev2, rfl, he2, hb2⟩
  clear ht1
  obtain rfl : ev2 = .nilIface := he2
  have hB2 : Below w.heap.size w w2 := hb1.trans (hb2.mono hb1.size)
  have hr2 := hr w2 hB2
  clear hr hb1 hb2
  go_wp2_with fail
  refine hr2.mono ?_
  rintro e w3 ⟨vf, ev3, rfl, hv3, he3, hb3⟩
  clear hr2
  obtain rfl : ev3 = .nilIface := he3
  obtain ⟨q5, c5, rfl⟩ := hv3.form
  unfold snV firstS
  dsimp only
  have hB3 : Below w.heap.size w w3 := hB2.trans (hb3.mono hB2.size)
  have hal : Below w3.heap.size w3 (w3.alloc (.cells #[.int .i64 1, .int .i64 0, .int .i64 0, .int .i64 0, .int .i64 0, .string ⟨#[115, 116, 97, 114, 116]⟩, .slice q5 0 c5] 52)) := (Below.refl _ _).alloc (Nat.le_refl _) _
  have hB4 : Below w.heap.size w (w3.alloc (.cells #[.int .i64 1, .int .i64 0, .int .i64 0, .int .i64 0, .int .i64 0, .string ⟨#[115, 116, 97, 114, 116]⟩, .slice q5 0 c5] 52)) := hB3.trans (hal.mono hB3.size)
  clear hb3 hv3 hal
  simp only [List.length_nil]
  go_wp2
  go_ret
  exact ⟨rfl, hB4⟩

/-- Too long for a statement. -/
def longSn (s : Sn) : Bool := decide (30 < s.2.2.2.2.2.1.size) || longFs s.2.2.2.2.2.2
theorem longSn_no {s : Sn} (h : longSn s = false) : s.2.2.2.2.2.1.size ≤ 30 ∧ s.2.2.2.2.2.2.length ≤ 61 ∧ Short s.2.2.2.2.2.2 := by
  unfold longSn at h
  rw [Bool.or_eq_false_iff, decide_eq_false_iff_not] at h
  obtain ⟨h1, h2⟩ := longFs_no h.2
  exact ⟨by omega, h1, h2⟩

set_option maxRecDepth 100000 in
set_option maxHeartbeats 2000000 in
theorem longSnap_any (s : Sn) (vf : Value) (w : World) (hx : FlsAt w vf s.2.2.2.2.2.2) (ho : s.2.2.2.2.2.1.size ≤ maxLen) (hl : s.2.2.2.2.2.2.length ≤ maxLen) (hsz : ∀ f ∈ s.2.2.2.2.2.2, f.1.size ≤ maxLen ∧ f.2.1.size ≤ maxLen) :
    Calls Tryz.prog 27 #[snV s vf] w fun e w' => e = .returned (.int .i64 (if longSn s then 1 else 0)) ∧ Below w.heap.size w w' := by
  have hlf := fun W (hb : Below w.heap.size w W) => longFiles_any vf s.2.2.2.2.2.2 W (hx.below hb) hl hsz
  generalize hR : (if longSn s then (1 : Int) else 0) = R
  have hbg : 30 < s.2.2.2.2.2.1.size → R = 1 := fun e => by rw [← hR, if_pos]; unfold longSn; simp [e]
  have hsm : ¬ 30 < s.2.2.2.2.2.1.size → R = if longFs s.2.2.2.2.2.2 then 1 else 0 := fun e => by rw [← hR]; unfold longSn; simp [e]
  unfold maxLen at ho
  obtain ⟨q, cap, rfl⟩ := hx.form
  clear hR hx hsz
  obtain ⟨id, par, seq, day, idx, op, fs⟩ := s
  unfold snV
  dsimp only at *
  generalize (if longFs fs then (1 : Int) else 0) = LF at *
  generalize fs.length = L at *
  have hal : Below w.heap.size w (w.alloc (.cells #[.int .i64 id, .int .i64 par, .int .i64 seq, .int .i64 day, .int .i64 idx, .string op, .slice q L cap] 52)) := (Below.refl _ _).alloc (Nat.le_refl _) _
  by_cases hb : 30 < op.size
  · obtain rfl := hbg hb
    have hi : (30 : Int) < (op.size : Int) := by omega
    clear hbg hsm hlf hb
    go_enter Tryz.func27, Tryz.ntmps27
    go_wp2
    go_ret
    exact ⟨rfl, hal⟩
  · obtain rfl := hsm hb
    have hi : ¬ (30 : Int) < (op.size : Int) := by omega
    have hl1 := hlf _ hal
    clear hbg hsm hlf hb
    go_enter Tryz.func27, Tryz.ntmps27
    go_wp2_with fail
    generalize w.alloc (.cells #[.int .i64 id, .int .i64 par, .int .i64 seq, .int .i64 day, .int .i64 idx, .string op, .slice q L cap] 52) = WA at hal hl1 ⊢
    refine hl1.mono ?_
    rintro e w1 ⟨rfl, hb1⟩
    go_wp2
    go_ret
    exact ⟨rfl, hal.trans (hb1.mono hal.size)⟩

set_option maxRecDepth 100000 in
set_option maxHeartbeats 4000000 in
theorem ownSnap_any (s : Sn) (vf : Value) (w : World) (hx : FlsAt w vf s.2.2.2.2.2.2) (hl : s.2.2.2.2.2.2.length ≤ 1000) :
    Calls Tryz.prog 29 #[snV s vf] w fun e w' => ∃ v', e = .returned (snV s v') ∧ FlsAt w' v' s.2.2.2.2.2.2 ∧ Below w.heap.size w w' := by
  have how := fun W (hb : Below w.heap.size w W) => ownFiles_any vf s.2.2.2.2.2.2 W (hx.below hb) hl
  obtain ⟨q, cap, rfl⟩ := hx.form
  clear hx
  obtain ⟨id, par, seq, day, idx, op, fs⟩ := s
  unfold snV
  dsimp only at *
  have hal : Below w.heap.size w ((w.alloc (.cells #[.int .i64 id, .int .i64 par, .int .i64 seq, .int .i64 day, .int .i64 idx, .string op, .slice q fs.length cap] 52)).alloc (.cells #[.int .i64 0, .int .i64 0, .int .i64 0, .int .i64 0, .int .i64 0, .string ⟨#[]⟩, .slice none 0 0] 52)) := ((Below.refl _ _).alloc (Nat.le_refl _) _).alloc (by simp) _
  have hsn : SnAt ((w.alloc (.cells #[.int .i64 id, .int .i64 par, .int .i64 seq, .int .i64 day, .int .i64 idx, .string op, .slice q fs.length cap] 52)).alloc (.cells #[.int .i64 0, .int .i64 0, .int .i64 0, .int .i64 0, .int .i64 0, .string ⟨#[]⟩, .slice none 0 0] 52)) w.heap.size (id, par, seq, day, idx, op, fs) (.slice q fs.length cap) := heap_alloc2_old w _ _
  have hz : SnAt ((w.alloc (.cells #[.int .i64 id, .int .i64 par, .int .i64 seq, .int .i64 day, .int .i64 idx, .string op, .slice q fs.length cap] 52)).alloc (.cells #[.int .i64 0, .int .i64 0, .int .i64 0, .int .i64 0, .int .i64 0, .string ⟨#[]⟩, .slice none 0 0] 52)) (w.heap.size + 1) zeroS (.slice none 0 0) := heap_alloc2_new w _ _
  have ho1 := how _ hal
  clear how
  obtain ⟨L, hL⟩ : ∃ L, fs.length = L := ⟨_, rfl⟩
  have HL : Hid (fs.length = L) := hL
  rw [hL] at hal hsn hz ho1 hl ⊢
  clear hL
  go_enter Tryz.func29, Tryz.ntmps29
  go_upto_region 1 with fail
  generalize (w.alloc (.cells #[.int .i64 id, .int .i64 par, .int .i64 seq, .int .i64 day, .int .i64 idx, .string op, .slice q L cap] 52)).alloc (.cells #[.int .i64 0, .int .i64 0, .int .i64 0, .int .i64 0, .int .i64 0, .string ⟨#[]⟩, .slice none 0 0] 52) = WA at hal hsn hz ho1 ⊢
  have z6 := hsn.cells.2.2.2.2.2.2
  go_wp2_with fail
  refine ho1.mono ?_
  rintro e w1 ⟨v', rfl, ow, hb1⟩
  clear ho1 z6
  have hv1 : FlsAt w1 v' fs := (flsAt_of_own ow).1
  have hB1 : Below w.heap.size w w1 := hal.trans (hb1.mono hal.size)
  have hs1 := hsn.below hb1
  have hz1 := hz.below hb1
  clear hsn hz hb1 hal ow
  obtain ⟨qv, cv, hq⟩ := hv1.form
  subst hq
  have hoS := off_of hs1 hv1
  have hv2 := hv1.set_off hoS 6 (.slice qv fs.length cv)
  have hs2 : SnAt (w1.setCell ⟨w.heap.size, 6, none⟩ (.slice qv fs.length cv)) w.heap.size (id, par, seq, day, idx, op, fs) (.slice qv fs.length cv) := by
    have := hs1
    unfold SnAt at *
    rw [heap_setCell_same _ _ _ _ _ _ this]; rfl
  have hz2 := sn_other hz1 (show w.heap.size ≠ w.heap.size + 1 by omega) 6 (.slice qv fs.length cv)
  have hB2 : Below w.heap.size w (w1.setCell ⟨w.heap.size, 6, none⟩ (.slice qv fs.length cv)) := hB1.setCell (Nat.le_refl _) _
  have fS := hs1.fz
  have x6 := hs1.cells.2.2.2.2.2.2
  clear hs1 hz1 hv1 hB1 hoS
  rw [HL.out] at hv2 hs2 hz2 hB2 ⊢
  go_upto_region 2 with fail
  generalize w1.setCell ⟨w.heap.size, 6, none⟩ (.slice qv L cv) = w2 at hv2 hs2 hz2 hB2 ⊢
  clear fS x6
  obtain ⟨p0, p1, p2, p3, p4, p5, p6⟩ := hs2.cells
  dsimp only at p0 p1 p2 p3 p4 p5
  have hoZ := off_of hz2 hv2
  have hle : w.heap.size ≤ w.heap.size + 1 := Nat.le_succ _
  have fz := hz2.fz
  obtain ⟨y0, y1, y2, y3, y4, y5, y6⟩ := hz2.cells
  have HV3 := (((((((hv2.set_off hoZ 0 (.int .i64 id)).set_off hoZ 1 (.int .i64 par)).set_off hoZ 2 (.int .i64 seq)).set_off hoZ 3 (.int .i64 day)).set_off hoZ 4 (.int .i64 idx)).set_off hoZ 5 (.string op)).set_off hoZ 6 (.slice qv L cv))
  obtain ⟨u0, u1, u2, u3, u4, u5, u6⟩ := (hz2.set (id, par, seq, day, idx, op, fs) (.slice qv L cv)).cells
  have hB3 := snSet_below (s := (id, par, seq, day, idx, op, fs)) (vf := .slice qv L cv) hB2 hle
  unfold snSet at u0 u1 u2 u3 u4 u5 u6 hB3
  dsimp only at u0 u1 u2 u3 u4 u5 hB3 y0 y1 y2 y3 y4 y5
  clear hz2 hs2 hv2 hoZ
  go_wp2
  refine bodyPost_ret (v := .agg #[.int .i64 id, .int .i64 par, .int .i64 seq, .int .i64 day, .int .i64 idx, .string op, .slice qv L cv]) (by simp [results, Tryz.results29, go_sem, u0, u1, u2, u3, u4, u5, u6]) rfl ?_
  exact ⟨.slice qv L cv, rfl, HV3, hB3⟩
end Go.Proofs.YtpiagofhgalklacGreatDoor
