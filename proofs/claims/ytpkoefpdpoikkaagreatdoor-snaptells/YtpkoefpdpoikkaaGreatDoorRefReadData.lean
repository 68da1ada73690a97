/-
  The contract of the document's own ReadData.
-/
import Derived.Test.YtpkoefpdpoikkaaGreatDoorRefSnap1
namespace Go.Proofs.YtpkoefpdpoikkaaGreatDoor
open Go.RowKit Go.Extern.Stop Go.Stop Go.Extern Go.Sort Go.Shelf Go.Lib

theorem ok_sizes {f : Fl} (h : fileE f = 0) : f.1.size ≤ 100 ∧ f.2.1.size ≤ 100 := by
  have hl := file_short h
  unfold fileL at hl
  simp only [List.length_append, List.length_cons, size_list] at hl
  omega

theorem itoa_size {n : Int} (h0 : -1073741824 ≤ n) (h1 : n ≤ 4294967296) : (bytesOf (itoa n)).size ≤ 11 := by rw [bytes_len]; exact itoa_short h0 h1

def inW (n : Int) : Prop := -9223372036854775808 ≤ n ∧ n ≤ 9223372036854775807

set_option maxRecDepth 100000 in
set_option maxHeartbeats 8000000 in
theorem snapText_any (s : Sn) (vf : Value) (w : World) (hx : FlsAt w vf s.2.2.2.2.2.2) (hok : (snapE s).1 = 0) :
    Calls Tryz.prog 53 #[snV s vf] w fun e w' => e = .returned (.string (bytesOf (snapL s))) ∧ Below w.heap.size w w' := by
  obtain ⟨hb, ho, hle, _⟩ := snap_good hok
  obtain ⟨⟨⟨b1, b2⟩, b3, b4⟩, ⟨⟨b5, b6⟩, b7, b8⟩, b9, b10⟩ := sbnd_all.1 hb
  obtain ⟨h60, hr⟩ := listE_ok.1 hle
  have hll := (snap_len hok).2
  have hlt := fun W (hb : Below w.heap.size w W) => listText_any vf s.2.2.2.2.2.2 W (hx.below hb) (by omega) (fun f hf => ⟨(hr.1 f hf).1, (ok_sizes (hr.1 f hf).1).1, (ok_sizes (hr.1 f hf).1).2⟩)
  have hol := op_len ho
  rw [size_list] at hol
  have hsm := sumL_lt (listL s.2.2.2.2.2.2)
  have HSN : Hid (bytesOf (snapL s) = bytesOf (snapH s (sumL (listL s.2.2.2.2.2.2)) ++ 10 :: listL s.2.2.2.2.2.2)) := rfl
  have hso := fun W => sumOf_any (bytesOf (listL s.2.2.2.2.2.2)) W (by rw [bytes_len]; unfold maxLen; omega)
  have eL : (bytesOf (listL s.2.2.2.2.2.2)).data.toList = listL s.2.2.2.2.2.2 := by simp [bytesOf]
  rw [eL] at hso
  have hbl : (bytesOf (listL s.2.2.2.2.2.2)).size ≤ 6060 := by rw [bytes_len]; exact hll
  obtain ⟨id, par, seq, day, idx, op, fs⟩ := s
  unfold snV
  dsimp only at *
  have hal : Below w.heap.size w (w.alloc (.cells #[.int .i64 id, .int .i64 par, .int .i64 seq, .int .i64 day, .int .i64 idx, .string op, vf] 74)) := (Below.refl _ _).alloc (Nat.le_refl _) _
  have hsn : SnAt (w.alloc (.cells #[.int .i64 id, .int .i64 par, .int .i64 seq, .int .i64 day, .int .i64 idx, .string op, vf] 74)) w.heap.size (id, par, seq, day, idx, op, fs) vf := heap_alloc_new _ _
  rw [HSN.out]
  have HT : Hid ((⟨#[115, 110, 97, 112, 32]⟩ : ByteArray) ++ bytesOf (itoa id) ++ ⟨#[32]⟩ ++ bytesOf (itoa par) ++ ⟨#[32]⟩ ++ bytesOf (itoa seq) ++ ⟨#[32]⟩ ++ bytesOf (itoa day) ++ ⟨#[32]⟩ ++ bytesOf (itoa idx) ++ ⟨#[32]⟩ ++ op ++ ⟨#[32]⟩ ++ bytesOf (itoa ((sumL (listL fs) : Nat) : Int)) ++ ⟨#[10]⟩ ++ bytesOf (listL fs) = bytesOf (snapH (id, par, seq, day, idx, op, fs) (sumL (listL fs)) ++ 10 :: listL fs)) := by
    show _ = _
    rw [← bytesOf_data ((⟨#[115, 110, 97, 112, 32]⟩ : ByteArray) ++ bytesOf (itoa id) ++ ⟨#[32]⟩ ++ bytesOf (itoa par) ++ ⟨#[32]⟩ ++ bytesOf (itoa seq) ++ ⟨#[32]⟩ ++ bytesOf (itoa day) ++ ⟨#[32]⟩ ++ bytesOf (itoa idx) ++ ⟨#[32]⟩ ++ op ++ ⟨#[32]⟩ ++ bytesOf (itoa ((sumL (listL fs) : Nat) : Int)) ++ ⟨#[10]⟩ ++ bytesOf (listL fs))]
    congr 1
    simp [snapH, kSnap, bytesOf, ByteArray.data_append]
  rw [← HT.out]
  have s1 := itoa_size (n := id) (by omega) (by omega)
  have s2 := itoa_size (n := par) (by omega) (by omega)
  have s3 := itoa_size (n := seq) (by omega) (by omega)
  have s4 := itoa_size (n := day) (by omega) (by omega)
  have s5 := itoa_size (n := idx) (by omega) (by omega)
  have s6 := itoa_size (n := ((sumL (listL fs) : Nat) : Int)) (by omega) (by omega)
  have i1 : inW id := ⟨by omega, by omega⟩
  have i2 : inW par := ⟨by omega, by omega⟩
  have i3 : inW seq := ⟨by omega, by omega⟩
  have i4 : inW day := ⟨by omega, by omega⟩
  have i5 : inW idx := ⟨by omega, by omega⟩
  have i6 : inW ((sumL (listL fs) : Nat) : Int) := ⟨by omega, by omega⟩
  clear HSN HT hb ho hle hr hok eL hsm hll h60 b1 b2 b3 b4 b5 b6 b7 b8 b9 b10
  obtain ⟨qf, cf, hvf⟩ := hx.form
  subst hvf
  generalize fs.length = L at *
  generalize sumL (listL fs) = SM at *
  generalize bytesOf (listL fs) = bd at *
  have n0 : ¬ 9223372036854775807 < 5 + (bytesOf (itoa id)).size := by omega
  have n1 : ¬ 9223372036854775802 < (bytesOf (itoa id)).size := by omega
  have n2 : ¬ 9223372036854775806 < 5 + (bytesOf (itoa id)).size := by omega
  have n3 : ¬ 9223372036854775807 < 5 + (bytesOf (itoa id)).size + 1 := by omega
  have n4 : ¬ 9223372036854775807 < 5 + (bytesOf (itoa id)).size + 1 + (bytesOf (itoa par)).size := by omega
  have n5 : ¬ 9223372036854775806 < 5 + (bytesOf (itoa id)).size + 1 + (bytesOf (itoa par)).size := by omega
  have n6 : ¬ 9223372036854775807 < 5 + (bytesOf (itoa id)).size + 1 + (bytesOf (itoa par)).size + 1 := by omega
  have n7 : ¬ 9223372036854775807 < 5 + (bytesOf (itoa id)).size + 1 + (bytesOf (itoa par)).size + 1 + (bytesOf (itoa seq)).size := by omega
  have n8 : ¬ 9223372036854775806 < 5 + (bytesOf (itoa id)).size + 1 + (bytesOf (itoa par)).size + 1 + (bytesOf (itoa seq)).size := by omega
  have n9 : ¬ 9223372036854775807 < 5 + (bytesOf (itoa id)).size + 1 + (bytesOf (itoa par)).size + 1 + (bytesOf (itoa seq)).size + 1 := by omega
  have n10 : ¬ 9223372036854775807 < 5 + (bytesOf (itoa id)).size + 1 + (bytesOf (itoa par)).size + 1 + (bytesOf (itoa seq)).size + 1 + (bytesOf (itoa day)).size := by omega
  have n11 : ¬ 9223372036854775806 < 5 + (bytesOf (itoa id)).size + 1 + (bytesOf (itoa par)).size + 1 + (bytesOf (itoa seq)).size + 1 + (bytesOf (itoa day)).size := by omega
  have n12 : ¬ 9223372036854775807 < 5 + (bytesOf (itoa id)).size + 1 + (bytesOf (itoa par)).size + 1 + (bytesOf (itoa seq)).size + 1 + (bytesOf (itoa day)).size + 1 := by omega
  have n13 : ¬ 9223372036854775807 < 5 + (bytesOf (itoa id)).size + 1 + (bytesOf (itoa par)).size + 1 + (bytesOf (itoa seq)).size + 1 + (bytesOf (itoa day)).size + 1 + (bytesOf (itoa idx)).size := by omega
  have n14 : ¬ 9223372036854775806 < 5 + (bytesOf (itoa id)).size + 1 + (bytesOf (itoa par)).size + 1 + (bytesOf (itoa seq)).size + 1 + (bytesOf (itoa day)).size + 1 + (bytesOf (itoa idx)).size := by omega
  have n15 : ¬ 9223372036854775807 < 5 + (bytesOf (itoa id)).size + 1 + (bytesOf (itoa par)).size + 1 + (bytesOf (itoa seq)).size + 1 + (bytesOf (itoa day)).size + 1 + (bytesOf (itoa idx)).size + 1 := by omega
  have n16 : ¬ 9223372036854775807 < 5 + (bytesOf (itoa id)).size + 1 + (bytesOf (itoa par)).size + 1 + (bytesOf (itoa seq)).size + 1 + (bytesOf (itoa day)).size + 1 + (bytesOf (itoa idx)).size + 1 + op.size := by omega
  have n17 : ¬ 9223372036854775806 < 5 + (bytesOf (itoa id)).size + 1 + (bytesOf (itoa par)).size + 1 + (bytesOf (itoa seq)).size + 1 + (bytesOf (itoa day)).size + 1 + (bytesOf (itoa idx)).size + 1 + op.size := by omega
  have n18 : ¬ 9223372036854775807 < 5 + (bytesOf (itoa id)).size + 1 + (bytesOf (itoa par)).size + 1 + (bytesOf (itoa seq)).size + 1 + (bytesOf (itoa day)).size + 1 + (bytesOf (itoa idx)).size + 1 + op.size + 1 := by omega
  have n19 : ¬ 9223372036854775807 < 5 + (bytesOf (itoa id)).size + 1 + (bytesOf (itoa par)).size + 1 + (bytesOf (itoa seq)).size + 1 + (bytesOf (itoa day)).size + 1 + (bytesOf (itoa idx)).size + 1 + op.size + 1 + (bytesOf (itoa (SM : Int))).size := by omega
  have n20 : ¬ 9223372036854775806 < 5 + (bytesOf (itoa id)).size + 1 + (bytesOf (itoa par)).size + 1 + (bytesOf (itoa seq)).size + 1 + (bytesOf (itoa day)).size + 1 + (bytesOf (itoa idx)).size + 1 + op.size + 1 + (bytesOf (itoa (SM : Int))).size := by omega
  have n21 : ¬ 9223372036854775807 < 5 + (bytesOf (itoa id)).size + 1 + (bytesOf (itoa par)).size + 1 + (bytesOf (itoa seq)).size + 1 + (bytesOf (itoa day)).size + 1 + (bytesOf (itoa idx)).size + 1 + op.size + 1 + (bytesOf (itoa (SM : Int))).size + 1 := by omega
  have n22 : ¬ 9223372036854775807 < 5 + (bytesOf (itoa id)).size + 1 + (bytesOf (itoa par)).size + 1 + (bytesOf (itoa seq)).size + 1 + (bytesOf (itoa day)).size + 1 + (bytesOf (itoa idx)).size + 1 + op.size + 1 + (bytesOf (itoa (SM : Int))).size + 1 + bd.size := by omega
  have hm : Tryz.prog.follows .mixedOrders = true := by kernel_rfl
  go_enter Tryz.func53, Tryz.ntmps53
  go_upto_region 1 with fail
  generalize w.alloc (.cells #[.int .i64 id, .int .i64 par, .int .i64 seq, .int .i64 day, .int .i64 idx, .string op, .slice qf L cf] 74) = WA at hal hsn ⊢
  have z6 := hsn.cells.2.2.2.2.2.2
  have hl1 := hlt WA hal
  clear hlt
  go_wp2_with fail
  refine hl1.mono ?_
  rintro e w1 ⟨rfl, hb1⟩
  clear hl1 z6
  have hB1 : Below w.heap.size w w1 := hal.trans (hb1.mono hal.size)
  obtain ⟨c0, c1, c2, c3, c4, c5, -⟩ := (hsn.below hb1).cells
  dsimp only at c0 c1 c2 c3 c4 c5
  have d0 := fun n os => cell_grown (cell_lt c0) c0 n os
  have d1 := fun n os => cell_grown (cell_lt c1) c1 n os
  have d2 := fun n os => cell_grown (cell_lt c2) c2 n os
  have d3 := fun n os => cell_grown (cell_lt c3) c3 n os
  have d4 := fun n os => cell_grown (cell_lt c4) c4 n os
  have d5 := fun n os => cell_grown (cell_lt c5) c5 n os
  have hI : ∀ m : Int, inW m → ∀ n os, Calls Tryz.prog 81 #[.int .i64 m] (grow (w1.drewN n) os) fun e w' => e = .returned (.string (bytesOf (itoa m))) ∧ ∃ q os', w' = grow ((grow (w1.drewN n) os).drewN q) os' := fun m hm n os => decimal_any m _ hm.1 hm.2
  have hS : ∀ n os, Calls Tryz.prog 110 #[.string bd] (grow (w1.drewN n) os) fun e w' => e = .returned (.int .i64 (SM : Nat)) ∧ ∃ q os', w' = grow ((grow (w1.drewN n) os).drewN q) os' := fun n os => (hso _).mono fun e w' ⟨he, hw⟩ => ⟨he, by rw [hw]; exact Grew.refl _⟩
  clear hsn hso hx s1 s2 s3 s4 s5 s6 hbl hol
  go_wp2_with fail
  go_quiet_grown (first
    | (go_at_call 81; exact Calls.grown_of (hI _ (by assumption) _ _))
    | (go_at_call 110; exact Calls.grown_of (hS _ _)))
  go_wp2
  go_ret
  exact ⟨rfl, hB1.trans ((grow_below nq osq).mono hB1.size)⟩

set_option maxRecDepth 100000 in
set_option maxHeartbeats 2000000 in
theorem sameSnap_yes (s : Sn) (va vb : Value) (w : World) (ha : FlsAt w va s.2.2.2.2.2.2) (hb : FlsAt w vb s.2.2.2.2.2.2) (hl : s.2.2.2.2.2.2.length ≤ 20000) :
    Calls Tryz.prog 49 #[snV s va, snV s vb] w fun e w' => e = .returned (.bool true) ∧ Below w.heap.size w w' := by
  have hsf := fun W (h : Below w.heap.size w W) => sameFiles_yes va vb s.2.2.2.2.2.2 W (ha.below h) (hb.below h) hl
  obtain ⟨qa, ca, rfl⟩ := ha.form
  obtain ⟨qb, cb, rfl⟩ := hb.form
  obtain ⟨id, par, seq, day, idx, op, fs⟩ := s
  unfold snV
  dsimp only at *
  generalize fs.length = L at *
  have hal : Below w.heap.size w ((w.alloc (.cells #[.int .i64 id, .int .i64 par, .int .i64 seq, .int .i64 day, .int .i64 idx, .string op, .slice qa L ca] 74)).alloc (.cells #[.int .i64 id, .int .i64 par, .int .i64 seq, .int .i64 day, .int .i64 idx, .string op, .slice qb L cb] 74)) := ((Below.refl _ _).alloc (Nat.le_refl _) _).alloc (by simp) _
  have hA : SnAt ((w.alloc (.cells #[.int .i64 id, .int .i64 par, .int .i64 seq, .int .i64 day, .int .i64 idx, .string op, .slice qa L ca] 74)).alloc (.cells #[.int .i64 id, .int .i64 par, .int .i64 seq, .int .i64 day, .int .i64 idx, .string op, .slice qb L cb] 74)) w.heap.size (id, par, seq, day, idx, op, fs) (.slice qa L ca) := heap_alloc2_old w _ _
  have hB : SnAt ((w.alloc (.cells #[.int .i64 id, .int .i64 par, .int .i64 seq, .int .i64 day, .int .i64 idx, .string op, .slice qa L ca] 74)).alloc (.cells #[.int .i64 id, .int .i64 par, .int .i64 seq, .int .i64 day, .int .i64 idx, .string op, .slice qb L cb] 74)) (w.heap.size + 1) (id, par, seq, day, idx, op, fs) (.slice qb L cb) := heap_alloc2_new w _ _
  have hs1 := hsf _ hal
  clear hsf ha hb
  obtain ⟨a0, a1, a2, a3, a4, a5, a6⟩ := hA.cells
  obtain ⟨b0, b1, b2, b3, b4, b5, b6⟩ := hB.cells
  dsimp only at a0 a1 a2 a3 a4 a5 b0 b1 b2 b3 b4 b5
  have d1 : (op.toList == op.toList) = true := by simp
  clear hA hB
  go_enter Tryz.func49, Tryz.ntmps49
  go_upto_region 1 with fail
  generalize (w.alloc (.cells #[.int .i64 id, .int .i64 par, .int .i64 seq, .int .i64 day, .int .i64 idx, .string op, .slice qa L ca] 74)).alloc (.cells #[.int .i64 id, .int .i64 par, .int .i64 seq, .int .i64 day, .int .i64 idx, .string op, .slice qb L cb] 74) = WA at hal hs1 a0 a1 a2 a3 a4 a5 a6 b0 b1 b2 b3 b4 b5 b6 ⊢
  go_wp2_with fail
  refine hs1.mono ?_
  rintro e w1 ⟨rfl, hb1⟩
  clear hs1
  go_wp2
  go_ret
  exact ⟨rfl, hal.trans (hb1.mono hal.size)⟩
end Go.Proofs.YtpkoefpdpoikkaaGreatDoor
namespace Go.Proofs.YtpkoefpdpoikkaaGreatDoor
open Go.RowKit Go.Extern.Stop Go.Stop Go.Extern Go.Sort Go.Shelf Go.Lib

def Src (w : World) (q : Option Addr) (m c : Nat) (ys : List Value) : Prop :=
  (m = 0 ∧ (q = none → c = 0)) ∨ ∃ b o, q = some ⟨b, o, none⟩ ∧ ∀ j u, ys[j]? = some u → w.cell? ⟨b, o + j, none⟩ = some u

set_option maxHeartbeats 1000000 in
theorem run_append_src {P : Program} (w : World) (base : Nat) (t ty e : TypeId) (i : TypeInfo) (z : Value) (size bytes : Nat) (ht : P.underlying t = some (.slice e)) (hi : P.info? e = some i) (hz : i.zero = some z)
    (hsize : i.size = size) (hby : i.bytes = bytes) (hzs : z.cells.size = size) (hsz : 0 < size)
    (v : Value) (n : Nat) (xs : List Value) (hown : w.ownsRow base e size v n xs)
    (q : Option Addr) (m c : Nat) (news : List Value) (hl : news.length = m * size) (hsrc : Src w q m c news) (h1 : ∀ u ∈ news, u.oneCell' = true)
    (h63 : n + m ≤ maxLen) (hbytes : (n + m) * bytes ≤ 140737488355328) (hbase : base ≤ w.heap.size) :
    ∃ v' w', (Builtin.append_ #[t, t] ty #[v, .slice q m c]).run P w = .ok v' w' ∧ w'.ownsRow base e size v' (n + m) (xs ++ news) ∧ w.grownBy w' v.ownBlock ∧ (v'.ownBlock = v.ownBlock ∨ v'.ownBlock = some w.heap.size) := by
  rcases hsrc with ⟨h0, hc⟩ | ⟨b, o, rfl, hcells⟩
  · subst h0
    have hnews : news = [] := List.length_eq_zero_iff.1 (by simpa using hl)
    subst hnews
    cases q with
    | none =>
      have hc0 := hc rfl
      subst hc0
      refine ⟨v, w, ?_, by simpa using hown, ⟨rfl, rfl, rfl, Nat.le_refl _, fun _ _ _ => rfl⟩, Or.inl rfl⟩
      rcases hown.2 with ⟨rfl, _⟩ | ⟨g, cap, cur, rfl, _, _, hn, _⟩
      · simp [Builtin.append_, run_underlying ht, sizeOf, typeInfo, zeroValue, hi, hz, Builtin.lenOf, run_firstCells_none]
      · simp [Builtin.append_, run_underlying ht, sizeOf, typeInfo, zeroValue, hi, hz, Builtin.lenOf, run_firstCells_none, hn, storeCells]
    | some ad =>
      obtain ⟨v', w', hr, h2, h3, _, h5⟩ := run_append_own_at (P := P) w base t ty e i z size bytes ht hi hz hsize hby hzs hsz v n xs hown ad 0 c [] hl (fun j u hj => by simp at hj) h1 h63 hbytes hbase
      exact ⟨v', w', hr, h2, h3, h5⟩
  · obtain ⟨v', w', hr, h2, h3, _, h5⟩ := run_append_own_at (P := P) w base t ty e i z size bytes ht hi hz hsize hby hzs hsz v n xs hown ⟨b, o, none⟩ m c news hl (fun j u hj => by rw [Addr.add_lit]; exact hcells j u hj) h1 h63 hbytes hbase
    exact ⟨v', w', hr, h2, h3, h5⟩

theorem wpList_append_src {P : Program} {w : World} {ops : Array Oper} {rest : List Oper} {o : Oper} {a : Act} {Q : Exit → Act → World → Prop} (hgd : o.guard = none) (s x : Operand) (t : TypeId)
    (ho : o.op = .call { callee := .builtin .append, args := #[s, x], argTypes := #[t, t] })
    (base : Nat) (e : TypeId) (i : TypeInfo) (z : Value) (size bytes : Nat) (ht : P.underlying t = some (.slice e)) (hi : P.info? e = some i) (hz : i.zero = some z)
    (hsize : i.size = size) (hby : i.bytes = bytes) (hzs : z.cells.size = size) (hsz : 0 < size)
    (v : Value) (n : Nat) (xs : List Value) (hs : a.eval s = v) (hown : w.ownsRow base e size v n xs)
    (q : Option Addr) (m c : Nat) (news : List Value) (hx : a.eval x = .slice q m c) (hl : news.length = m * size) (hsrc : Src w q m c news) (h1 : ∀ u ∈ news, u.oneCell' = true)
    (h63 : n + m ≤ maxLen) (hbytes : (n + m) * bytes ≤ 140737488355328) (hbase : base ≤ w.heap.size)
    (h : ∀ v' w', w'.ownsRow base e size v' (n + m) (xs ++ news) → w.grownBy w' v.ownBlock → (v'.ownBlock = v.ownBlock ∨ v'.ownBlock = some w.heap.size) → wpList P ops Q rest (a.put o.dst v') w') :
    wpList P ops Q (o :: rest) a w := by
  refine wpList_plain hgd fun K hK => ?_
  obtain ⟨v', w', hr, h2, h3, h4⟩ := run_append_src (P := P) w base t o.type e i z size bytes ht hi hz hsize hby hzs hsz v n xs hown q m c news hl hsrc h1 h63 hbytes hbase
  unfold Oper.wp execOp
  simp only [ho, resolve, invoke, builtin, Sem.run_bind, Sem.run_pure, Result.andThen_ok, List.map_toArray, List.map_cons, List.map_nil, hs, hx, hr]
  exact hK _ _ (h v' w' h2 h3 h4)
end Go.Proofs.YtpkoefpdpoikkaaGreatDoor
namespace Go.Proofs.YtpkoefpdpoikkaaGreatDoor
open Go.RowKit Go.Extern.Stop Go.Stop Go.Extern Go.Sort Go.Shelf Go.Lib

theorem src_fls {w : World} {q : Option Addr} {n c : Nat} {fs : List Fl} (h : FlsAt w (.slice q n c) fs) : Src w q n c (flatF fs) := by
  rcases h with ⟨p, c', e, hp, rfl⟩ | ⟨b, o, cap, e, hl, hc⟩
  · simp only [Value.slice.injEq] at e
    obtain ⟨rfl, rfl, rfl⟩ := e
    exact Or.inl ⟨rfl, hp⟩
  · simp only [Value.slice.injEq] at e
    obtain ⟨rfl, rfl, rfl⟩ := e
    exact Or.inr ⟨b, o, rfl, cellsF_flat hc⟩

theorem flCells_take {w : World} {b o : Nat} {fs : List Fl} (h : FlCells w b o fs) (n : Nat) : FlCells w b o (fs.take n) := fun j hj => by
  rw [List.length_take] at hj
  have := h j (by omega)
  rw [List.getElem_take]
  exact this
set_option maxRecDepth 100000 in
set_option maxHeartbeats 2000000 in
theorem ownFiles_any (v : Value) (fs : List Fl) (w : World) (hx : FlsAt w v fs) (hl : fs.length ≤ 1000) :
    Calls Tryz.prog 27 #[v] w fun e w' => ∃ v', e = .returned v' ∧ w'.ownsRow w.heap.size 23 6 v' fs.length (flatF fs) ∧ Below w.heap.size w w' := by
  obtain ⟨i0, hi0, hz0, hs0, hby0⟩ := Tryz.fileInfo
  obtain ⟨q, cap, rfl⟩ := hx.form
  have HSR : Hid (Src w q fs.length cap (flatF fs)) := src_fls hx
  obtain ⟨L, hL⟩ : ∃ L, fs.length = L := ⟨_, rfl⟩
  have HX : Hid (fs.length = L) := hL
  rw [hL] at hl ⊢
  clear hL hx
  go_enter Tryz.func27, Tryz.ntmps27
  go_wp2_with (at_builtin; (refine wpList_append_src rfl _ _ 50 rfl w.heap.size 23 i0 (.agg #[.string ⟨#[]⟩, .string ⟨#[]⟩, .int .i64 0, .int .i64 0, .int .i64 0, .int .i64 0]) 6 64 Tryz.underlying50 hi0 hz0 hs0 hby0 rfl (by decide) (.slice none 0 0) 0 [] rfl (World.ownsRow_nil _ _ _ _) q L cap (flatF fs) rfl ?qf1 ?qf2 ?qf3 ?qf4 ?qf5 ?qf6 ?_))
  any_goals first
    | exact flatF_one fs
    | (rw [flatF_len, HX.out])
    | (have h' := HSR.out; rw [HX.out] at h'; exact h')
    | (unfold maxLen; omega)
    | omega
    | exact Nat.le_refl _
  intro v3 w3 ho3 hg3 _
  have hb3 : Below w.heap.size w w3 := (Below.refl _ _).grown hg3 (Nat.le_refl _) (fun k hk => by simp [Value.ownBlock] at hk)
  have OW : Hid (w3.ownsRow w.heap.size 23 6 v3 L (flatF fs)) := by
    show w3.ownsRow _ _ _ _ _ _
    simpa using ho3
  clear ho3 hg3
  go_wp2
  go_ret
  exact ⟨v3, rfl, OW.out, hb3⟩
end Go.Proofs.YtpkoefpdpoikkaaGreatDoor
namespace Go.Proofs.YtpkoefpdpoikkaaGreatDoor
open Go.RowKit Go.Extern.Stop Go.Stop Go.Extern Go.Sort Go.Shelf Go.Lib

theorem FC.ne_fls {W : World} {F : Nat} {x y : Int} {v : Value} {fs : List Fl} (h : FC W F x y) (hr : FlsAt W v fs) (o : Nat) (z : Value) (o2 : Nat) (z2 : Value) : FlsAt ((W.setCell ⟨F, o, none⟩ z).setCell ⟨F, o2, none⟩ z2) v fs := by
  rcases hr with hr | ⟨b, ob, cap, hv, hl, hc⟩
  · exact Or.inl hr
  · refine Or.inr ⟨b, ob, cap, hv, hl, fun j hj => ?_⟩
    have hbF : b ≠ F := by
      rintro rfl
      have h0 := (hc j hj).1
      rw [cell_of_row _ _ _ _ _ _ h] at h0
      have hm := Array.mem_of_getElem? h0
      simp at hm
    obtain ⟨c0, c1, c2, c3, c4, c5⟩ := hc j hj
    have key : ∀ t u, W.cell? ⟨b, t, none⟩ = some u → ((W.setCell ⟨F, o, none⟩ z).setCell ⟨F, o2, none⟩ z2).cell? ⟨b, t, none⟩ = some u := fun t u hu => by
      rw [World.cell?_setCell_other _ _ _ _ (by intro e; injection e with e; exact hbF e.symm), World.cell?_setCell_other _ _ _ _ (by intro e; injection e with e; exact hbF e.symm)]
      exact hu
    exact ⟨key _ _ c0, key _ _ c1, key _ _ c2, key _ _ c3, key _ _ c4, key _ _ c5⟩
theorem fc_other {W : World} {F G : Nat} {x y : Int} (h : FC W F x y) (hne : G ≠ F) (o : Nat) (z : Value) : FC (W.setCell ⟨G, o, none⟩ z) F x y := (heap_setCell_other _ _ _ _ (fun e => hne e.symm)).trans h
end Go.Proofs.YtpkoefpdpoikkaaGreatDoor
namespace Go.Proofs.YtpkoefpdpoikkaaGreatDoor
open Go.RowKit Go.Extern.Stop Go.Stop Go.Extern Go.Sort Go.Shelf Go.Lib

theorem sumOf_low (s : ByteArray) (w : World) (hs : s.size ≤ maxLen) : Calls Tryz.prog 110 #[.string s] w fun e w' => e = .returned (.int .i64 (sumL s.data.toList : Nat)) ∧ Below w.heap.size w w' :=
  (sumOf_any s w hs).mono fun e w' ⟨h1, h2⟩ => ⟨h1, by rw [h2]; exact Below.refl _ _⟩

end Go.Proofs.YtpkoefpdpoikkaaGreatDoor
namespace Go.Proofs.YtpkoefpdpoikkaaGreatDoor
open Go.RowKit Go.Extern.Stop Go.Stop Go.Extern Go.Sort Go.Shelf Go.Lib

theorem own_slice {W : World} {base : Nat} {e : TypeId} {size : Nat} {v : Value} {n : Nat} {xs : List Value} (h : W.ownsRow base e size v n xs) : ∃ q c, v = .slice q n c := by
  rcases h.2 with ⟨rfl, rfl⟩ | ⟨g, cap, cur, rfl, _⟩
  · exact ⟨_, _, rfl⟩
  · exact ⟨_, _, rfl⟩

theorem pieces_len (d : UInt8) : ∀ (l : List UInt8), ∀ x ∈ pieces d l, x.length ≤ l.length
  | [], x, h => by simp [pieces] at h; simp [h]
  | c :: r, x, h => by
    have ih := pieces_len d r
    unfold pieces at h
    split at h
    · rw [List.mem_cons] at h
      rcases h with rfl | h
      · simp
      · have := ih x h; simp; omega
    · split at h
      · rw [List.mem_singleton] at h; subst h; simp
      · rename_i w ws e
        rw [e] at ih
        rw [List.mem_cons] at h
        rcases h with rfl | h
        · have := ih w List.mem_cons_self; simp; omega
        · have := ih x (List.mem_cons_of_mem _ h); simp; omega

end Go.Proofs.YtpkoefpdpoikkaaGreatDoor
