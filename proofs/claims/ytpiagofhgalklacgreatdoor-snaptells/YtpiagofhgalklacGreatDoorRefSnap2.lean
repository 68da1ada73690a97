/-
  The contracts of the document's own SnapText and SameSnap.
-/
import Derived.Test.YtpiagofhgalklacGreatDoorRefSnap1
import Derived.Test.YtpiagofhgalklacGreatDoorRefList1
import Derived.Test.YtpiagofhgalklacGreatDoorRefSum
import Derived.Test.YtpiagofhgalklacGreatDoorRefFile
namespace Go.Proofs.YtpiagofhgalklacGreatDoor
open Go.RowKit Go.Extern.Stop Go.Stop Go.Extern Go.Sort Go.Shelf Go.Lib

theorem ok_sizes {f : Fl} (h : fileE f = 0) : f.1.size ≤ 100 ∧ f.2.1.size ≤ 100 := by
  have hl := file_short h
  unfold fileL at hl
  simp only [List.length_append, List.length_cons, size_list] at hl
  omega

theorem itoa_size {n : Int} (h0 : -1073741824 ≤ n) (h1 : n ≤ 4294967296) : (bytesOf (itoa n)).size ≤ 11 := by rw [bytes_len]; exact itoa_short h0 h1

/-- A number of 64 bits. -/
def inW (n : Int) : Prop := -9223372036854775808 ≤ n ∧ n ≤ 9223372036854775807

set_option maxRecDepth 100000 in
set_option maxHeartbeats 8000000 in
theorem snapText_any (s : Sn) (vf : Value) (w : World) (hx : FlsAt w vf s.2.2.2.2.2.2) (hok : (snapE s).1 = 0) :
    Calls Tryz.prog 35 #[snV s vf] w fun e w' => e = .returned (.string (bytesOf (snapL s))) ∧ Below w.heap.size w w' := by
  obtain ⟨hb, ho, hle, _⟩ := snap_good hok
  obtain ⟨⟨⟨b1, b2⟩, b3, b4⟩, ⟨⟨b5, b6⟩, b7, b8⟩, b9, b10⟩ := sbnd_all.1 hb
  obtain ⟨h60, hr⟩ := listE_ok.1 hle
  have hll := (snap_len hok).2
  have hlt := fun W (hb : Below w.heap.size w W) => listText_any vf s.2.2.2.2.2.2 W (hx.below hb) (by omega) (fun f hf => ⟨(hr.1 f hf).1, (ok_sizes (hr.1 f hf).1).1, (ok_sizes (hr.1 f hf).1).2⟩)
  have hol := op_len ho
  rw [size_list] at hol
  have hsm := sumL_lt (listL s.2.2.2.2.2.2)
  have HSN : Hid (bytesOf (snapL s) = bytesOf (snapH s (sumL (listL s.2.2.2.2.2.2)) ++ 10 :: listL s.2.2.2.2.2.2)) := rfl
  have hso := fun W => sumOf_any (bytesOf (listL s.2.2.2.2.2.2)) W (by rw [bytes_len]; unfold maxLen; omega)
  have eL : (bytesOf (listL s.2.2.2.2.2.2)).data.toList = listL s.2.2.2.2.2.2 := by simp [bytesOf]
  rw [eL] at hso
  have hbl : (bytesOf (listL s.2.2.2.2.2.2)).size ≤ 6060 := by rw [bytes_len]; exact hll
  obtain ⟨id, par, seq, day, idx, op, fs⟩ := s
  unfold snV
  dsimp only at *
  have hal : Below w.heap.size w (w.alloc (.cells #[.int .i64 id, .int .i64 par, .int .i64 seq, .int .i64 day, .int .i64 idx, .string op, vf] 52)) := (Below.refl _ _).alloc (Nat.le_refl _) _
  have hsn : SnAt (w.alloc (.cells #[.int .i64 id, .int .i64 par, .int .i64 seq, .int .i64 day, .int .i64 idx, .string op, vf] 52)) w.heap.size (id, par, seq, day, idx, op, fs) vf := heap_alloc_new _ _
  rw [HSN.out]
  have HT : Hid ((⟨#[115, 110, 97, 112, 32]⟩ : ByteArray) ++ bytesOf (itoa id) ++ ⟨#[32]⟩ ++ bytesOf (itoa par) ++ ⟨#[32]⟩ ++ bytesOf (itoa seq) ++ ⟨#[32]⟩ ++ bytesOf (itoa day) ++ ⟨#[32]⟩ ++ bytesOf (itoa idx) ++ ⟨#[32]⟩ ++ op ++ ⟨#[32]⟩ ++ bytesOf (itoa ((sumL (listL fs) : Nat) : Int)) ++ ⟨#[10]⟩ ++ bytesOf (listL fs) = bytesOf (snapH (id, par, seq, day, idx, op, fs) (sumL (listL fs)) ++ 10 :: listL fs)) := by
    show _ = _
    rw [← bytesOf_data ((⟨#[115, 110, 97, 112, 32]⟩ : ByteArray) ++ bytesOf (itoa id) ++ ⟨#[32]⟩ ++ bytesOf (itoa par) ++ ⟨#[32]⟩ ++ bytesOf (itoa seq) ++ ⟨#[32]⟩ ++ bytesOf (itoa day) ++ ⟨#[32]⟩ ++ bytesOf (itoa idx) ++ ⟨#[32]⟩ ++ op ++ ⟨#[32]⟩ ++ bytesOf (itoa ((sumL (listL fs) : Nat) : Int)) ++ ⟨#[10]⟩ ++ bytesOf (listL fs))]
    congr 1
    simp [snapH, kSnap, bytesOf, ByteArray.data_append]
  rw [← HT.out]
  have s1 := itoa_size (n := id) (by omega) (by omega)
  have s2 := itoa_size (n := par) (by omega) (by omega)
  have s3 := itoa_size (n := seq) (by omega) (by omega)
  have s4 := itoa_size (n := day) (by omega) (by omega)
  have s5 := itoa_size (n := idx) (by omega) (by omega)
  have s6 := itoa_size (n := ((sumL (listL fs) : Nat) : Int)) (by omega) (by omega)
  have i1 : inW id := ⟨by omega, by omega⟩
  have i2 : inW par := ⟨by omega, by omega⟩
  have i3 : inW seq := ⟨by omega, by omega⟩
  have i4 : inW day := ⟨by omega, by omega⟩
  have i5 : inW idx := ⟨by omega, by omega⟩
  have i6 : inW ((sumL (listL fs) : Nat) : Int) := ⟨by omega, by omega⟩
  clear HSN HT hb ho hle hr hok eL hsm hll h60 b1 b2 b3 b4 b5 b6 b7 b8 b9 b10
  obtain ⟨qf, cf, hvf⟩ := hx.form
  subst hvf
  generalize fs.length = L at *
  generalize sumL (listL fs) = SM at *
  generalize bytesOf (listL fs) = bd at *
  have n0 : ¬ 9223372036854775807 < 5 + (bytesOf (itoa id)).size := by omega
  have n1 : ¬ 9223372036854775802 < (bytesOf (itoa id)).size := by omega
  have n2 : ¬ 9223372036854775806 < 5 + (bytesOf (itoa id)).size := by omega
  have n3 : ¬ 9223372036854775807 < 5 + (bytesOf (itoa id)).size + 1 := by omega
  have n4 : ¬ 9223372036854775807 < 5 + (bytesOf (itoa id)).size + 1 + (bytesOf (itoa par)).size := by omega
  have n5 : ¬ 9223372036854775806 < 5 + (bytesOf (itoa id)).size + 1 + (bytesOf (itoa par)).size := by omega
  have n6 : ¬ 9223372036854775807 < 5 + (bytesOf (itoa id)).size + 1 + (bytesOf (itoa par)).size + 1 := by omega
  have n7 : ¬ 9223372036854775807 < 5 + (bytesOf (itoa id)).size + 1 + (bytesOf (itoa par)).size + 1 + (bytesOf (itoa seq)).size := by omega
  have n8 : ¬ 9223372036854775806 < 5 + (bytesOf (itoa id)).size + 1 + (bytesOf (itoa par)).size + 1 + (bytesOf (itoa seq)).size := by omega
  have n9 : ¬ 9223372036854775807 < 5 + (bytesOf (itoa id)).size + 1 + (bytesOf (itoa par)).size + 1 + (bytesOf (itoa seq)).size + 1 := by omega
  have n10 : ¬ 9223372036854775807 < 5 + (bytesOf (itoa id)).size + 1 + (bytesOf (itoa par)).size + 1 + (bytesOf (itoa seq)).size + 1 + (bytesOf (itoa day)).size := by omega
  have n11 : ¬ 9223372036854775806 < 5 + (bytesOf (itoa id)).size + 1 + (bytesOf (itoa par)).size + 1 + (bytesOf (itoa seq)).size + 1 + (bytesOf (itoa day)).size := by omega
  have n12 : ¬ 9223372036854775807 < 5 + (bytesOf (itoa id)).size + 1 + (bytesOf (itoa par)).size + 1 + (bytesOf (itoa seq)).size + 1 + (bytesOf (itoa day)).size + 1 := by omega
  have n13 : ¬ 9223372036854775807 < 5 + (bytesOf (itoa id)).size + 1 + (bytesOf (itoa par)).size + 1 + (bytesOf (itoa seq)).size + 1 + (bytesOf (itoa day)).size + 1 + (bytesOf (itoa idx)).size := by omega
  have n14 : ¬ 9223372036854775806 < 5 + (bytesOf (itoa id)).size + 1 + (bytesOf (itoa par)).size + 1 + (bytesOf (itoa seq)).size + 1 + (bytesOf (itoa day)).size + 1 + (bytesOf (itoa idx)).size := by omega
  have n15 : ¬ 9223372036854775807 < 5 + (bytesOf (itoa id)).size + 1 + (bytesOf (itoa par)).size + 1 + (bytesOf (itoa seq)).size + 1 + (bytesOf (itoa day)).size + 1 + (bytesOf (itoa idx)).size + 1 := by omega
  have n16 : ¬ 9223372036854775807 < 5 + (bytesOf (itoa id)).size + 1 + (bytesOf (itoa par)).size + 1 + (bytesOf (itoa seq)).size + 1 + (bytesOf (itoa day)).size + 1 + (bytesOf (itoa idx)).size + 1 + op.size := by omega
  have n17 : ¬ 9223372036854775806 < 5 + (bytesOf (itoa id)).size + 1 + (bytesOf (itoa par)).size + 1 + (bytesOf (itoa seq)).size + 1 + (bytesOf (itoa day)).size + 1 + (bytesOf (itoa idx)).size + 1 + op.size := by omega
  have n18 : ¬ 9223372036854775807 < 5 + (bytesOf (itoa id)).size + 1 + (bytesOf (itoa par)).size + 1 + (bytesOf (itoa seq)).size + 1 + (bytesOf (itoa day)).size + 1 + (bytesOf (itoa idx)).size + 1 + op.size + 1 := by omega
  have n19 : ¬ 9223372036854775807 < 5 + (bytesOf (itoa id)).size + 1 + (bytesOf (itoa par)).size + 1 + (bytesOf (itoa seq)).size + 1 + (bytesOf (itoa day)).size + 1 + (bytesOf (itoa idx)).size + 1 + op.size + 1 + (bytesOf (itoa (SM : Int))).size := by omega
  have n20 : ¬ 9223372036854775806 < 5 + (bytesOf (itoa id)).size + 1 + (bytesOf (itoa par)).size + 1 + (bytesOf (itoa seq)).size + 1 + (bytesOf (itoa day)).size + 1 + (bytesOf (itoa idx)).size + 1 + op.size + 1 + (bytesOf (itoa (SM : Int))).size := by omega
  have n21 : ¬ 9223372036854775807 < 5 + (bytesOf (itoa id)).size + 1 + (bytesOf (itoa par)).size + 1 + (bytesOf (itoa seq)).size + 1 + (bytesOf (itoa day)).size + 1 + (bytesOf (itoa idx)).size + 1 + op.size + 1 + (bytesOf (itoa (SM : Int))).size + 1 := by omega
  have n22 : ¬ 9223372036854775807 < 5 + (bytesOf (itoa id)).size + 1 + (bytesOf (itoa par)).size + 1 + (bytesOf (itoa seq)).size + 1 + (bytesOf (itoa day)).size + 1 + (bytesOf (itoa idx)).size + 1 + op.size + 1 + (bytesOf (itoa (SM : Int))).size + 1 + bd.size := by omega
  have hm : Tryz.prog.follows .mixedOrders = true := by kernel_rfl
  go_enter Tryz.func35, Tryz.ntmps35
  go_upto_region 1 with fail
  generalize w.alloc (.cells #[.int .i64 id, .int .i64 par, .int .i64 seq, .int .i64 day, .int .i64 idx, .string op, .slice qf L cf] 52) = WA at hal hsn ⊢
  have z6 := hsn.cells.2.2.2.2.2.2
  have hl1 := hlt WA hal
  clear hlt
  go_wp2_with fail
  refine hl1.mono ?_
  rintro e w1 ⟨rfl, hb1⟩
  clear hl1 z6
  have hB1 : Below w.heap.size w w1 := hal.trans (hb1.mono hal.size)
  obtain ⟨c0, c1, c2, c3, c4, c5, -⟩ := (hsn.below hb1).cells
  dsimp only at c0 c1 c2 c3 c4 c5
  have d0 := fun n os => cell_grown (cell_lt c0) c0 n os
  have d1 := fun n os => cell_grown (cell_lt c1) c1 n os
  have d2 := fun n os => cell_grown (cell_lt c2) c2 n os
  have d3 := fun n os => cell_grown (cell_lt c3) c3 n os
  have d4 := fun n os => cell_grown (cell_lt c4) c4 n os
  have d5 := fun n os => cell_grown (cell_lt c5) c5 n os
  have hI : ∀ m : Int, inW m → ∀ n os, Calls Tryz.prog 70 #[.int .i64 m] (grow (w1.drewN n) os) fun e w' => e = .returned (.string (bytesOf (itoa m))) ∧ ∃ q os', w' = grow ((grow (w1.drewN n) os).drewN q) os' := fun m hm n os => decimal_any m _ hm.1 hm.2
  have hS : ∀ n os, Calls Tryz.prog 71 #[.string bd] (grow (w1.drewN n) os) fun e w' => e = .returned (.int .i64 (SM : Nat)) ∧ ∃ q os', w' = grow ((grow (w1.drewN n) os).drewN q) os' := fun n os => (hso _).mono fun e w' ⟨he, hw⟩ => ⟨he, by rw [hw]; exact Grew.refl _⟩
  clear hsn hso hx s1 s2 s3 s4 s5 s6 hbl hol
  go_wp2_with fail
  go_quiet_grown (first
    | (go_at_call 70; exact Calls.grown_of (hI _ (by assumption) _ _))
    | (go_at_call 71; exact Calls.grown_of (hS _ _)))
  go_wp2
  go_ret
  exact ⟨rfl, hB1.trans ((grow_below nq osq).mono hB1.size)⟩

set_option maxRecDepth 100000 in
set_option maxHeartbeats 2000000 in
theorem sameSnap_yes (s : Sn) (va vb : Value) (w : World) (ha : FlsAt w va s.2.2.2.2.2.2) (hb : FlsAt w vb s.2.2.2.2.2.2) (hl : s.2.2.2.2.2.2.length ≤ 20000) :
    Calls Tryz.prog 31 #[snV s va, snV s vb] w fun e w' => e = .returned (.bool true) ∧ Below w.heap.size w w' := by
  have hsf := fun W (h : Below w.heap.size w W) => sameFiles_yes va vb s.2.2.2.2.2.2 W (ha.below h) (hb.below h) hl
  obtain ⟨qa, ca, rfl⟩ := ha.form
  obtain ⟨qb, cb, rfl⟩ := hb.form
  obtain ⟨id, par, seq, day, idx, op, fs⟩ := s
  unfold snV
  dsimp only at *
  generalize fs.length = L at *
  have hal : Below w.heap.size w ((w.alloc (.cells #[.int .i64 id, .int .i64 par, .int .i64 seq, .int .i64 day, .int .i64 idx, .string op, .slice qa L ca] 52)).alloc (.cells #[.int .i64 id, .int .i64 par, .int .i64 seq, .int .i64 day, .int .i64 idx, .string op, .slice qb L cb] 52)) := ((Below.refl _ _).alloc (Nat.le_refl _) _).alloc (by simp) _
  have hA : SnAt ((w.alloc (.cells #[.int .i64 id, .int .i64 par, .int .i64 seq, .int .i64 day, .int .i64 idx, .string op, .slice qa L ca] 52)).alloc (.cells #[.int .i64 id, .int .i64 par, .int .i64 seq, .int .i64 day, .int .i64 idx, .string op, .slice qb L cb] 52)) w.heap.size (id, par, seq, day, idx, op, fs) (.slice qa L ca) := heap_alloc2_old w _ _
  have hB : SnAt ((w.alloc (.cells #[.int .i64 id, .int .i64 par, .int .i64 seq, .int .i64 day, .int .i64 idx, .string op, .slice qa L ca] 52)).alloc (.cells #[.int .i64 id, .int .i64 par, .int .i64 seq, .int .i64 day, .int .i64 idx, .string op, .slice qb L cb] 52)) (w.heap.size + 1) (id, par, seq, day, idx, op, fs) (.slice qb L cb) := heap_alloc2_new w _ _
  have hs1 := hsf _ hal
  clear hsf ha hb
  obtain ⟨a0, a1, a2, a3, a4, a5, a6⟩ := hA.cells
  obtain ⟨b0, b1, b2, b3, b4, b5, b6⟩ := hB.cells
  dsimp only at a0 a1 a2 a3 a4 a5 b0 b1 b2 b3 b4 b5
  have d1 : (op.toList == op.toList) = true := by simp
  clear hA hB
  go_enter Tryz.func31, Tryz.ntmps31
  go_upto_region 1 with fail
  generalize (w.alloc (.cells #[.int .i64 id, .int .i64 par, .int .i64 seq, .int .i64 day, .int .i64 idx, .string op, .slice qa L ca] 52)).alloc (.cells #[.int .i64 id, .int .i64 par, .int .i64 seq, .int .i64 day, .int .i64 idx, .string op, .slice qb L cb] 52) = WA at hal hs1 a0 a1 a2 a3 a4 a5 a6 b0 b1 b2 b3 b4 b5 b6 ⊢
  go_wp2_with fail
  refine hs1.mono ?_
  rintro e w1 ⟨rfl, hb1⟩
  clear hs1
  go_wp2
  go_ret
  exact ⟨rfl, hal.trans (hb1.mono hal.size)⟩
end Go.Proofs.YtpiagofhgalklacGreatDoor
