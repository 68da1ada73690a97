/-
  The contracts of snap.First, head and Text.
  The contract of snap.readHead.
  The contract of snap.Read.
-/
import Derived.Test.YtpiagofhgalklacGreatDoorSnapTold
import Derived.Test.YtpiagofhgalklacGreatDoorListOrd
import Derived.Test.YtpiagofhgalklacGreatDoorDataMake
import Derived.Test.YtpiagofhgalklacGreatDoorListRd
namespace Go.Proofs.YtpiagofhgalklacGreatDoor
open Go.RowKit Go.Extern.Stop Go.Stop Go.Extern Go.Sort Go.Shelf Go.Lib

/-- What the functions on snaps read. -/
structure EnvP (w : World) (a : Nat → Addr) : Prop where
  text : EnvT w a
  sum : w.cell? ⟨5, 0, none⟩ = some (.iface 217 (.pointer (some (a 9))))
theorem EnvP.below {w w' : World} {a : Nat → Addr} (h : EnvP w a) (hb : Below w.heap.size w w') : EnvP w' a := ⟨h.text.below hb, below_keep hb h.sum⟩
theorem EnvT.weak {w : World} {a : Nat → Addr} (h : EnvT w a) : Env0 w a := ⟨h.text, h.list.file.env.bound, h.list.file.env.base.maxl, h.list.file.env.base.syn, h.list.file.env.base.tab⟩

set_option maxRecDepth 100000 in
theorem first_any (w : World) : Calls Tryz.prog 38 #[] w fun e w' => e = .returned (snV firstS (.slice none 0 0)) ∧ Below w.heap.size w w' := by
  have hal : Below w.heap.size w (w.alloc (.cells #[.int .i64 1, .int .i64 0, .int .i64 0, .int .i64 0, .int .i64 0, .string ⟨#[115, 116, 97, 114, 116]⟩, .slice none 0 0] 52)) := (Below.refl _ _).alloc (Nat.le_refl _) _
  go_enter Tryz.func38, Tryz.ntmps38
  go_wp2
  refine bodyPost_ret (v := snV firstS (.slice none 0 0)) (by simp [results, Tryz.results38, go_sem, snV, firstS]) rfl ⟨rfl, ?_⟩
  exact hal

theorem snapH_len {s : Sn} (h : (snapE s).1 = 0) (sum : Nat) (hs : sum < 4294967296) : (snapH s sum).length ≤ 100 := by
  obtain ⟨hb, ho, hl, _⟩ := snap_good h
  obtain ⟨⟨⟨a, b⟩, c, d⟩, ⟨⟨e, f⟩, g, i⟩, j, k⟩ := sbnd_all.1 hb
  have q1 := itoa_short (n := s.1) (by omega) (by omega)
  have q2 := itoa_short (n := s.2.1) (by omega) (by omega)
  have q3 := itoa_short (n := s.2.2.1) (by omega) (by omega)
  have q4 := itoa_short (n := s.2.2.2.1) (by omega) (by omega)
  have q5 := itoa_short (n := s.2.2.2.2.1) (by omega) (by omega)
  have q6 := itoa_short (n := (sum : Int)) (by omega) (by omega)
  have q7 := op_len ho
  unfold snapH
  simp only [List.length_append, List.length_cons]
  have : kSnap.length = 4 := rfl
  omega

set_option maxRecDepth 100000 in
set_option maxHeartbeats 8000000 in
theorem shead_any (s : Sn) (vf : Value) (sum : Nat) (w : World) (a : Nat → Addr) (h : Env0 w a) (hok : (snapE s).1 = 0) (hs : sum < 4294967296) :
    Calls Tryz.prog 63 #[snV s vf, .int .u32 sum] w fun e w' => e = .returned (.string (bytesOf (snapH s sum))) ∧ Below w.heap.size w w' := by
  have hlen := snapH_len hok sum hs
  obtain ⟨⟨⟨b1, b2⟩, b3, b4⟩, ⟨⟨b5, b6⟩, b7, b8⟩, b9, b10⟩ := sbnd_all.1 (snap_good hok).1
  have hjl : Lib.join ([(⟨#[115, 110, 97, 112]⟩ : ByteArray), bytesOf (itoa s.1), bytesOf (itoa s.2.1), bytesOf (itoa s.2.2.1), bytesOf (itoa s.2.2.2.1), bytesOf (itoa s.2.2.2.2.1), s.2.2.2.2.2.1, bytesOf (itoa (sum : Int))].map (·.data.toList)) (⟨#[32]⟩ : ByteArray).data.toList = snapH s sum := by
    simp [Lib.join, snapH, kSnap, bytesOf]
  obtain ⟨id, par, seq, day, idx, op, fs⟩ := s
  unfold snV
  dsimp only at *
  have hw0 : IntKind.u64.wrap (sum : Int) = (sum : Int) := by rw [IntKind.wrap_u64]; omega
  have hal : Below w.heap.size w (w.alloc (.cells #[.int .i64 id, .int .i64 par, .int .i64 seq, .int .i64 day, .int .i64 idx, .string op, vf] 52)) := (Below.refl _ _).alloc (Nat.le_refl _) _
  have hsn : SnAt (w.alloc (.cells #[.int .i64 id, .int .i64 par, .int .i64 seq, .int .i64 day, .int .i64 idx, .string op, vf] 52)) w.heap.size (id, par, seq, day, idx, op, fs) vf := SnAt.new w (id, par, seq, day, idx, op, fs) vf
  have hEA := h.below hal
  have HLEN : Hid ((snapH (id, par, seq, day, idx, op, fs) (sum : Int)).length ≤ 100) := hlen
  have HJL : Hid (Lib.join ([(⟨#[115, 110, 97, 112]⟩ : ByteArray), bytesOf (itoa id), bytesOf (itoa par), bytesOf (itoa seq), bytesOf (itoa day), bytesOf (itoa idx), op, bytesOf (itoa (sum : Int))].map (·.data.toList)) (⟨#[32]⟩ : ByteArray).data.toList = snapH (id, par, seq, day, idx, op, fs) sum) := hjl
  generalize snapH (id, par, seq, day, idx, op, fs) (sum : Int) = SH at HLEN HJL ⊢
  clear hlen hjl hok
  go_enter Tryz.func63, Tryz.ntmps63
  go_wp2_with fail
  generalize w.alloc (.cells #[.int .i64 id, .int .i64 par, .int .i64 seq, .int .i64 day, .int .i64 idx, .string op, vf] 52) = W0 at hal hsn hEA ⊢
  obtain ⟨x0, x1, x2, x3, x4, x5, -⟩ := hsn.cells
  dsimp only at x0 x1 x2 x3 x4 x5
  clear hsn
  generalize w.heap.size = g at x0 x1 x2 x3 x4 x5
  have hb0 : Below W0.heap.size W0 W0 := Below.refl _ _
  go_region_held3 (fun w' => w'.cell? ⟨g, 0, none⟩ = some (.int .i64 id) ∧ w'.cell? ⟨g, 1, none⟩ = some (.int .i64 par) ∧ w'.cell? ⟨g, 2, none⟩ = some (.int .i64 seq) ∧ w'.cell? ⟨g, 3, none⟩ = some (.int .i64 day) ∧ w'.cell? ⟨g, 4, none⟩ = some (.int .i64 idx) ∧ w'.cell? ⟨g, 5, none⟩ = some (.string op) ∧ Below W0.heap.size W0 w')
    (first
      | (go_split_ands; with_reducible exact ⟨below_keep hbX (by assumption), below_keep hbX (by assumption), below_keep hbX (by assumption), below_keep hbX (by assumption), below_keep hbX (by assumption), below_keep hbX (by assumption), Below.trans (by assumption) (hbX.mono (Below.size (by assumption)))⟩)
      | (go_split_ands; exact ⟨by go_keep, by go_keep, by go_keep, by go_keep, by go_keep, by go_keep, by assumption⟩)
      | (go_split_ands; exact ⟨by go_keep, by go_keep, by go_keep, by go_keep, by go_keep, by go_keep, Below.drew (by assumption)⟩)
      | (go_split_ands; exact ⟨by go_keep, by go_keep, by go_keep, by go_keep, by go_keep, by go_keep, Below.alloc (by assumption) (Below.size (by assumption)) _⟩))
    (first
      | (go_at_call 79; refine (itoa_below _ _ a (hEA.below (by go_split_ands; assumption)) (by omega) (by omega)).mono ?_; rintro e w2 ⟨rfl, hbX⟩)
      | (go_at_call 95; refine (fmtU_any sum (by omega) _ a (hEA.below (by go_split_ands; assumption))).mono ?_; rintro e w2 ⟨rfl, hbX⟩))
  go_split_ands
  have hbE : Below W0.heap.size W0 (w2.alloc (.cells #[.string ⟨#[115, 110, 97, 112]⟩, .string (bytesOf (itoa id)), .string (bytesOf (itoa par)), .string (bytesOf (itoa seq)), .string (bytesOf (itoa day)), .string (bytesOf (itoa idx)), .string op, .string (bytesOf (itoa (sum : Int)))] 9)) := by assumption
  have hBE : Below w.heap.size w (w2.alloc (.cells #[.string ⟨#[115, 110, 97, 112]⟩, .string (bytesOf (itoa id)), .string (bytesOf (itoa par)), .string (bytesOf (itoa seq)), .string (bytesOf (itoa day)), .string (bytesOf (itoa idx)), .string op, .string (bytesOf (itoa (sum : Int)))] 9)) := hal.trans (hbE.mono hal.size)
  have hj := Tryz.strings_Join w2.heap.size 0 8 [(⟨#[115, 110, 97, 112]⟩ : ByteArray), bytesOf (itoa id), bytesOf (itoa par), bytesOf (itoa seq), bytesOf (itoa day), bytesOf (itoa idx), op, bytesOf (itoa (sum : Int))] ⟨#[32]⟩ (w2.alloc (.cells #[.string ⟨#[115, 110, 97, 112]⟩, .string (bytesOf (itoa id)), .string (bytesOf (itoa par)), .string (bytesOf (itoa seq)), .string (bytesOf (itoa day)), .string (bytesOf (itoa idx)), .string op, .string (bytesOf (itoa (sum : Int)))] 9)) (fun j x hx => by
      rw [Nat.zero_add, cell_of_row _ _ _ _ _ _ (heap_alloc_new _ _)]
      match j, hx with
      | 0, hx => simp at hx; subst hx; rfl
      | 1, hx => simp at hx; subst hx; rfl
      | 2, hx => simp at hx; subst hx; rfl
      | 3, hx => simp at hx; subst hx; rfl
      | 4, hx => simp at hx; subst hx; rfl
      | 5, hx => simp at hx; subst hx; rfl
      | 6, hx => simp at hx; subst hx; rfl
      | 7, hx => simp at hx; subst hx; rfl
      | j + 8, hx => simp at hx) (by simp) (by simp) (by simp) (by rw [HJL.out]; have := HLEN.out; omega)
  rw [HJL.out] at hj
  clear hbE
  generalize (w2.alloc (.cells #[.string ⟨#[115, 110, 97, 112]⟩, .string (bytesOf (itoa id)), .string (bytesOf (itoa par)), .string (bytesOf (itoa seq)), .string (bytesOf (itoa day)), .string (bytesOf (itoa idx)), .string op, .string (bytesOf (itoa (sum : Int)))] 9)) = W9 at hj hBE ⊢
  go_wp2_with fail
  refine hj.mono ?_
  rintro e w9 ⟨rfl, hb9⟩
  go_wp2
  go_ret
  exact ⟨rfl, hBE.trans (hb9.mono hBE.size)⟩

set_option maxRecDepth 100000 in
set_option maxHeartbeats 8000000 in
theorem stext_any (s : Sn) (vf : Value) (w : World) (a : Nat → Addr) (h : EnvT w a) (hx : FlsAt w vf s.2.2.2.2.2.2) (hl : s.2.2.2.2.2.2.length ≤ 100) (hsz : Short s.2.2.2.2.2.2) :
    Calls Tryz.prog 28 #[snV s vf] w fun e w' => ∃ ev, e = .returned (.tuple #[.string (if (snapE s).1 = 0 then bytesOf (snapL s) else ⟨#[]⟩), ev]) ∧ ToldE w' a ev (snapE s) ∧ Below w.heap.size w w' := by
  have hck := fun W (hb : Below w.heap.size w W) => scheck_any s vf W a (h.below hb).list (hx.below hb) hl hsz
  have hlt := fun W (hb : Below w.heap.size w W) => ltext_any vf s.2.2.2.2.2.2 W a (h.below hb).list (hx.below hb) hl hsz
  by_cases hok : (snapE s).1 = 0
  case neg =>
    rw [if_neg hok]
    clear hlt
    obtain ⟨id, par, seq, day, idx, op, fs⟩ := s
    unfold snV at hck ⊢
    dsimp only at *
    generalize snapE (id, par, seq, day, idx, op, fs) = R at hck hok ⊢
    have hal : Below w.heap.size w (w.alloc (.cells #[.int .i64 id, .int .i64 par, .int .i64 seq, .int .i64 day, .int .i64 idx, .string op, vf] 52)) := (Below.refl _ _).alloc (Nat.le_refl _) _
    have hck1 := hck _ hal
    clear hck
    go_enter Tryz.func28, Tryz.ntmps28
    go_wp2_with fail
    generalize w.alloc (.cells #[.int .i64 id, .int .i64 par, .int .i64 seq, .int .i64 day, .int .i64 idx, .string op, vf] 52) = WA at hal hck1 ⊢
    refine hck1.mono ?_
    rintro e w1 ⟨ev, rfl, ht, hb1⟩
    clear hck1
    obtain ⟨t, u, rfl⟩ := ht.bad hok
    have HT : Hid (ToldE w1 a (.iface t u) R) := ht
    clear ht
    go_wp2
    go_ret2
    exact ⟨_, rfl, HT.out, hal.trans (hb1.mono hal.size)⟩
  case pos =>
  rw [if_pos hok]
  have hle := (snap_good hok).2.2.1
  have hsl := sumL_lt (listL s.2.2.2.2.2.2)
  have hhl := snapH_len hok (sumL (listL s.2.2.2.2.2.2)) hsl
  have hll := (snap_len hok).2
  have HE0 : Hid (snapE s = (0, none)) := (snap_good hok).2.2.2
  have hhd := fun W (hb : Below w.heap.size w W) => shead_any s vf (sumL (listL s.2.2.2.2.2.2)) W a (h.below hb).weak hok hsl
  have hbd : (bytesOf (listL s.2.2.2.2.2.2)).size ≤ 6060 := by rw [bytes_len]; exact hll
  have hhb : (bytesOf (snapH s (sumL (listL s.2.2.2.2.2.2)))).size ≤ 100 := by rw [bytes_len]; exact hhl
  have hsu := fun W => sum_any (bytesOf (listL s.2.2.2.2.2.2)) W (by unfold maxLen; omega)
  have eL : (bytesOf (listL s.2.2.2.2.2.2)).data.toList = listL s.2.2.2.2.2.2 := by simp [bytesOf]
  rw [eL] at hsu
  have HT : Hid (bytesOf (snapL s) = bytesOf (snapH s (sumL (listL s.2.2.2.2.2.2))) ++ ⟨#[10]⟩ ++ bytesOf (listL s.2.2.2.2.2.2)) := by
    show _ = _
    rw [← bytesOf_data (bytesOf (snapH s (sumL (listL s.2.2.2.2.2.2))) ++ ⟨#[10]⟩ ++ bytesOf (listL s.2.2.2.2.2.2))]
    congr 1
    simp [snapL, bytesOf, ByteArray.data_append]
  rw [HT.out]
  simp only [hle, if_true] at hlt
  have HL0 : Hid ((listE s.2.2.2.2.2.2).1 = 0) := hle
  clear HT eL hle hll hhl hsl hok
  generalize hRe : snapE s = RE at hck HE0 ⊢
  obtain rfl : RE = (0, none) := HE0.out
  clear hRe HE0
  generalize bytesOf (snapH s (sumL (listL s.2.2.2.2.2.2))) = hb at *
  generalize sumL (listL s.2.2.2.2.2.2) = SM at *
  generalize bytesOf (listL s.2.2.2.2.2.2) = bd at *
  generalize listE s.2.2.2.2.2.2 = LE at *
  obtain ⟨q, cap, rfl⟩ := hx.form
  obtain ⟨id, par, seq, day, idx, op, fs⟩ := s
  unfold snV at hck hhd ⊢
  dsimp only at *
  generalize fs.length = L at *
  have n0 : ¬ 9223372036854775807 < hb.size + 1 := by omega
  have n1 : ¬ 9223372036854775806 < hb.size := by omega
  have n2 : ¬ 9223372036854775807 < hb.size + 1 + bd.size := by omega
  have hal : Below w.heap.size w (w.alloc (.cells #[.int .i64 id, .int .i64 par, .int .i64 seq, .int .i64 day, .int .i64 idx, .string op, .slice q L cap] 52)) := (Below.refl _ _).alloc (Nat.le_refl _) _
  have hsn : SnAt (w.alloc (.cells #[.int .i64 id, .int .i64 par, .int .i64 seq, .int .i64 day, .int .i64 idx, .string op, .slice q L cap] 52)) w.heap.size (id, par, seq, day, idx, op, fs) (.slice q L cap) := SnAt.new w (id, par, seq, day, idx, op, fs) (.slice q L cap)
  have hck1 := hck _ hal
  clear hck
  go_enter Tryz.func28, Tryz.ntmps28
  go_wp2_with fail
  generalize w.alloc (.cells #[.int .i64 id, .int .i64 par, .int .i64 seq, .int .i64 day, .int .i64 idx, .string op, .slice q L cap] 52) = WA at hal hsn hck1 ⊢
  refine hck1.mono ?_
  rintro e w1 ⟨ev, rfl, ht, hb1⟩
  clear hck1
  obtain rfl : ev = .nilIface := ht
  have hB1 : Below w.heap.size w w1 := hal.trans (hb1.mono hal.size)
  have hsn1 := hsn.below hb1
  clear hal hsn hb1
  have z6 := hsn1.cells.2.2.2.2.2.2
  have hlt1 := hlt w1 hB1
  clear hlt
  go_wp2_with fail
  refine hlt1.mono ?_
  rintro e w2 ⟨ev, rfl, ht, hb2⟩
  clear hlt1 z6
  obtain rfl := ht.ok HL0.out
  clear ht
  have hB2 : Below w.heap.size w w2 := hB1.trans (hb2.mono hB1.size)
  obtain ⟨z0, z1, z2, z3, z4, z5, z6⟩ := (hsn1.below hb2).cells
  dsimp only at z0 z1 z2 z3 z4 z5
  clear hsn1 hb2 hB1 hx
  have hbr : Below w2.heap.size w2 w2 := Below.refl _ _
  have HHD : Hid (∀ W, Below w2.heap.size w2 W → Calls Tryz.prog 63 #[.agg #[.int .i64 id, .int .i64 par, .int .i64 seq, .int .i64 day, .int .i64 idx, .string op, .slice q L cap], .int .u32 SM] W fun e w' => e = .returned (.string hb) ∧ Below W.heap.size W w') := fun W hW => hhd W (hB2.trans (hW.mono hB2.size))
  clear hhd
  generalize w.heap.size = g at z0 z1 z2 z3 z4 z5 z6
  go_wp2_with fail
  go_region_held3 (fun w' => w'.cell? ⟨g, 0, none⟩ = some (.int .i64 id) ∧ w'.cell? ⟨g, 1, none⟩ = some (.int .i64 par) ∧ w'.cell? ⟨g, 2, none⟩ = some (.int .i64 seq) ∧ w'.cell? ⟨g, 3, none⟩ = some (.int .i64 day) ∧ w'.cell? ⟨g, 4, none⟩ = some (.int .i64 idx) ∧ w'.cell? ⟨g, 5, none⟩ = some (.string op) ∧ w'.cell? ⟨g, 6, none⟩ = some (.slice q L cap) ∧ Below w2.heap.size w2 w')
    (first
      | (go_split_ands; with_reducible exact ⟨below_keep hbX (by assumption), below_keep hbX (by assumption), below_keep hbX (by assumption), below_keep hbX (by assumption), below_keep hbX (by assumption), below_keep hbX (by assumption), below_keep hbX (by assumption), Below.trans (by assumption) (hbX.mono (Below.size (by assumption)))⟩)
      | (go_split_ands; exact ⟨by go_keep, by go_keep, by go_keep, by go_keep, by go_keep, by go_keep, by go_keep, by assumption⟩)
      | (go_split_ands; exact ⟨by go_keep, by go_keep, by go_keep, by go_keep, by go_keep, by go_keep, by go_keep, Below.drew (by assumption)⟩))
    (first
      | (go_at_call 64; with_reducible refine (hsu _).mono ?_; rintro e wX ⟨rfl, hbX⟩)
      | (go_at_call 63; with_reducible refine (HHD.out _ (by go_split_ands; assumption)).mono ?_; rintro e wX ⟨rfl, hbX⟩))
  go_split_ands
  have hX : Below w2.heap.size w2 wX := by assumption
  go_wp2
  go_ret2
  exact ⟨_, rfl, rfl, hB2.trans (hX.mono hB2.size)⟩
end Go.Proofs.YtpiagofhgalklacGreatDoor
namespace Go.Proofs.YtpiagofhgalklacGreatDoor
open Go.RowKit Go.Extern.Stop Go.Stop Go.Extern Go.Sort Go.Shelf Go.Lib

theorem ok_short {f : Fl} (h : fileE f = 0) : f.1.size ≤ 30 ∧ f.2.1.size ≤ 30 := by
  obtain ⟨g, n, hp, hq, hb⟩ := file_good h
  have h1 : f.1.data.toList.length ≤ 16 := by
    rw [(path_some hp).1]
    have := (numO_spelt (path_some hp).2.1).2
    cases g <;> simp [kindL, kData, kGone] <;> omega
  have h2 : f.2.1.data.toList.length ≤ 12 := by
    unfold partB at hq
    cases g
    · simp only [Bool.false_eq_true, if_false, wordB, Bool.and_eq_true, decide_eq_true_eq] at hq
      omega
    · simp only [if_true, decide_eq_true_eq] at hq
      rw [hq]; decide
  rw [size_list] at h1 h2
  omega

theorem readS_all {l : List UInt8} (h : ¬ 20000 < l.length) : readS l = if (Lib.cut l [10]).2.2 = false then (zeroS, 1, none) else match snapO (Lib.cut l [10]).1 with
  | none => (zeroS, 1, none)
  | some (x1, x2, x3, x4, x5, op, g) => if g ≠ sumL (Lib.cut l [10]).2.1 then (zeroS, 10, none) else
    if (readL (Lib.cut l [10]).2.1).2.1 ≠ 0 then (zeroS, (readL (Lib.cut l [10]).2.1).2) else
    if (snapE (x1, x2, x3, x4, x5, bytesOf op, (readL (Lib.cut l [10]).2.1).1)).1 ≠ 0 then (zeroS, snapE (x1, x2, x3, x4, x5, bytesOf op, (readL (Lib.cut l [10]).2.1).1)) else
    ((x1, x2, x3, x4, x5, bytesOf op, (readL (Lib.cut l [10]).2.1).1), 0, none) := by
  unfold readS
  rw [if_neg h]
  rfl

theorem readL_short (b : List UInt8) : Short (readL b).1 := fun f hf => ok_short (readL_good b f hf)

/-- What readHead hands back. -/
def HeadRP (w : World) (o : Option (Int × Int × Int × Int × Int × List UInt8 × Int)) (e : Ending) (w' : World) : Prop := Below w.heap.size w w' ∧ match o with
  | some (x1, x2, x3, x4, x5, op, g) => e = .returned (.tuple #[snV (x1, x2, x3, x4, x5, bytesOf op, []) (.slice none 0 0), .int .i64 g, .bool true])
  | none => e = .returned (.tuple #[snV zeroS (.slice none 0 0), .int .i64 0, .bool false])

theorem cell_store7 {W : World} {b R o : Nat} {v v0 v1 v2 v3 v4 v5 v6 : Value} (h : b ≠ R) (hc : W.cell? ⟨b, o, none⟩ = some v) : (((((((W.setCell ⟨R, 0, none⟩ v0).setCell ⟨R, 1, none⟩ v1).setCell ⟨R, 2, none⟩ v2).setCell ⟨R, 3, none⟩ v3).setCell ⟨R, 4, none⟩ v4).setCell ⟨R, 5, none⟩ v5).setCell ⟨R, 6, none⟩ v6).cell? ⟨b, o, none⟩ = some v := by
  rw [World.cell?_setCell_other _ _ _ _ (by simp), World.cell?_setCell_other _ _ _ _ (by simp), World.cell?_setCell_other _ _ _ _ (by simp), World.cell?_setCell_other _ _ _ _ (by simp), World.cell?_setCell_other _ _ _ _ (by simp), World.cell?_setCell_other _ _ _ _ (by simp), World.cell?_setCell_other _ _ _ _ (by simp)]
  exact hc

theorem below_store7 {W w : World} {R : Nat} {v0 v1 v2 v3 v4 v5 v6 : Value} (h : Below R w W) : Below R w (((((((W.setCell ⟨R, 0, none⟩ v0).setCell ⟨R, 1, none⟩ v1).setCell ⟨R, 2, none⟩ v2).setCell ⟨R, 3, none⟩ v3).setCell ⟨R, 4, none⟩ v4).setCell ⟨R, 5, none⟩ v5).setCell ⟨R, 6, none⟩ v6) :=
  ((((((h.setCell (Nat.le_refl _) _).setCell (Nat.le_refl _) _).setCell (Nat.le_refl _) _).setCell (Nat.le_refl _) _).setCell (Nat.le_refl _) _).setCell (Nat.le_refl _) _).setCell (Nat.le_refl _) _

theorem SnAt.zero {W : World} {b : Nat} (h : SnAt W b zeroS (.slice none 0 0)) : W.cell? ⟨b, 0, none⟩ = some (.int .i64 0) ∧ W.cell? ⟨b, 1, none⟩ = some (.int .i64 0) ∧ W.cell? ⟨b, 2, none⟩ = some (.int .i64 0) ∧ W.cell? ⟨b, 3, none⟩ = some (.int .i64 0) ∧ W.cell? ⟨b, 4, none⟩ = some (.int .i64 0) ∧ W.cell? ⟨b, 5, none⟩ = some (.string ⟨#[]⟩) ∧ W.cell? ⟨b, 6, none⟩ = some (.slice none 0 0) ∧ ∀ o, W.frozen? ⟨b, o, none⟩ = false := by
  obtain ⟨a0, a1, a2, a3, a4, a5, a6⟩ := h.cells
  exact ⟨a0, a1, a2, a3, a4, a5, a6, fun o => h.fz o⟩

set_option maxRecDepth 100000 in
set_option maxHeartbeats 16000000 in
theorem readHd_any (s : ByteArray) (w : World) (a : Nat → Addr) (h : Env0 w a) (hs : s.size ≤ 20000) :
    Calls Tryz.prog 66 #[.string s] w (HeadRP w (snapO s.data.toList)) := by
  have hal : Below w.heap.size w (w.alloc (.cells #[.int .i64 0, .int .i64 0, .int .i64 0, .int .i64 0, .int .i64 0, .string ⟨#[]⟩, .slice none 0 0] 52)) := (Below.refl _ _).alloc (Nat.le_refl _) _
  have hz0 : SnAt (w.alloc (.cells #[.int .i64 0, .int .i64 0, .int .i64 0, .int .i64 0, .int .i64 0, .string ⟨#[]⟩, .slice none 0 0] 52)) w.heap.size zeroS (.slice none 0 0) := SnAt.new w zeroS (.slice none 0 0)
  have hsp := splitTx_any s _ a (h.below hal) (by omega)
  generalize hR : snapO s.data.toList = R
  have HR : Hid (snapO s.data.toList = R) := hR
  clear hR
  have hwl := words_len s.data.toList
  go_enter Tryz.func66, Tryz.ntmps66
  go_wp2_with fail
  generalize w.alloc (.cells #[.int .i64 0, .int .i64 0, .int .i64 0, .int .i64 0, .int .i64 0, .string ⟨#[]⟩, .slice none 0 0] 52) = WA at hal hz0 hsp ⊢
  refine hsp.mono ?_
  rintro e w1 ⟨v1, ts, rfl, hts, htm, hb1⟩
  clear hsp
  have hB1 : Below w.heap.size w w1 := hal.trans (hb1.mono hal.size)
  have HZ1 : Hid (SnAt w1 w.heap.size zeroS (.slice none 0 0)) := hz0.below hb1
  have HWS : Hid (w.heap.size < w1.heap.size) := HZ1.out.lt
  clear hz0 hb1 hal
  obtain ⟨b, rfl, hcell⟩ := hts
  by_cases h8 : ts.length = 8
  case neg =>
    have hRR : R = none := HR.out.symm.trans (snapO_len (fun e => h8 (by rw [← e, ← htm, List.length_map])))
    subst hRR
    generalize ts.length = L at h8 ⊢
    have hne : ¬ (L : Int) = 8 := by omega
    clear htm hwl hcell h8 HR
    obtain ⟨y0, y1, y2, y3, y4, y5, y6, yf⟩ := HZ1.out.zero
    have s0 := setCell_self y0
    have s1 := setCell_self y1
    have s2 := setCell_self y2
    have s3 := setCell_self y3
    have s4 := setCell_self y4
    have s5 := setCell_self y5
    have s6 := setCell_self y6
    go_wp2
    exact bodyPost_ret (v := .tuple #[(.agg #[.int .i64 0, .int .i64 0, .int .i64 0, .int .i64 0, .int .i64 0, .string ⟨#[]⟩, .slice none 0 0]), .int .i64 0, .bool false]) (by simp [results, Tryz.results66, go_sem, y0, y1, y2, y3, y4, y5, y6]) rfl ⟨hB1, rfl⟩
  case pos =>
  obtain ⟨K, T1, T2, T3, T4, T5, T6, T7, rfl⟩ := eight h8
  have hw : words s.data.toList = [K.data.toList, T1.data.toList, T2.data.toList, T3.data.toList, T4.data.toList, T5.data.toList, T6.data.toList, T7.data.toList] := by rw [← htm]; rfl
  have hrs := HR.out
  rw [snapO_eight hw] at hrs
  have hwz : ∀ t ∈ [K, T1, T2, T3, T4, T5, T6, T7], t.size ≤ 20000 := fun t ht => by
    have := hwl t.data.toList (by rw [← htm]; exact List.mem_map.2 ⟨t, ht, rfl⟩)
    rw [size_list, size_list] at this
    omega
  have hT7 := hwz T7 (by simp)
  have c0 := hcell 0 (by simp)
  have c6 := hcell 6 (by simp)
  have c7 := hcell 7 (by simp)
  simp only [List.getElem_cons_succ, List.getElem_cons_zero] at c0 c6 c7
  have hnm := numbers_new b 1 7 [T1, T2, T3, T4, T5] w1 a (h.below hB1) (fun j hj => by
    have hj' : j + 1 < [K, T1, T2, T3, T4, T5, T6, T7].length := by simp at hj ⊢; omega
    have := hcell (j + 1) hj'
    rw [Nat.add_comm 1 j]
    rw [this]
    match j, hj with
    | 0, _ => rfl
    | 1, _ => rfl
    | 2, _ => rfl
    | 3, _ => rfl
    | 4, _ => rfl
    | k + 5, hj => exact absurd hj (by simp only [List.length_cons, List.length_nil]; omega)) (fun t ht => by
      have := hwz t (by
        simp only [List.mem_cons, List.not_mem_nil, or_false] at ht ⊢
        rcases ht with rfl | rfl | rfl | rfl | rfl <;> simp)
      unfold maxLen; omega) (by simp)
  have hn7 := fun W (hW : Env0 W a) => number_any T7 W a hW (by unfold maxLen; omega)
  have HRS : Hid ((match sixO T1.data.toList T2.data.toList T3.data.toList T4.data.toList T5.data.toList T7.data.toList with
    | some (x1, x2, x3, x4, x5, g) => if K.data.toList = kSnap then some (x1, x2, x3, x4, x5, T6.data.toList, g) else none
    | none => none) = R) := hrs
  clear hw htm hwl hcell h8 hwz hrs hT7 HR
  simp only [List.length_cons, List.length_nil, Nat.zero_add, Nat.reduceAdd] at hnm ⊢
  by_cases hk : K.data.toList = kSnap
  case neg =>
    have hRR : R = none := by
      rw [← HRS.out]
      split
      · rw [if_neg hk]
      · rfl
    subst hRR
    have d1 := neB_of hk
    simp only [kSnap] at d1
    clear hk hnm hn7 HRS c6 c7
    obtain ⟨y0, y1, y2, y3, y4, y5, y6, yf⟩ := HZ1.out.zero
    have s0 := setCell_self y0
    have s1 := setCell_self y1
    have s2 := setCell_self y2
    have s3 := setCell_self y3
    have s4 := setCell_self y4
    have s5 := setCell_self y5
    have s6 := setCell_self y6
    go_wp2
    exact bodyPost_ret (v := .tuple #[(.agg #[.int .i64 0, .int .i64 0, .int .i64 0, .int .i64 0, .int .i64 0, .string ⟨#[]⟩, .slice none 0 0]), .int .i64 0, .bool false]) (by simp [results, Tryz.results66, go_sem, y0, y1, y2, y3, y4, y5, y6]) rfl ⟨hB1, rfl⟩
  case pos =>
  have d1 := eqB_of hk
  have HRS2 : Hid ((match sixO T1.data.toList T2.data.toList T3.data.toList T4.data.toList T5.data.toList T7.data.toList with
    | some (x1, x2, x3, x4, x5, g) => some (x1, x2, x3, x4, x5, T6.data.toList, g)
    | none => none) = R) := by
    show _ = _
    rw [← HRS.out]
    split
    · rw [if_pos hk]
    · rfl
  simp only [kSnap] at d1
  clear hk HRS
  go_wp2_with fail
  refine hnm.mono ?_
  rintro e w3 ⟨hres, hb3⟩
  clear hnm
  have hB3 : Below w.heap.size w w3 := hB1.trans (hb3.mono hB1.size)
  have HZ3 : Hid (SnAt w3 w.heap.size zeroS (.slice none 0 0)) := HZ1.out.below hb3
  have e6 := below_keep hb3 c6
  have e7 := below_keep hb3 c7
  clear HZ1 c0 c6 c7 d1
  rcases hres with ⟨zs, g, hzl, hzn, rfl, hzc, hgn⟩ | ⟨j, t, ht, hno, rfl⟩
  case inr =>
    have hRR : R = none := by
      rw [← HRS2.out, six_bad]
      match j, ht with
      | 0, ht => exact Or.inl (by rw [Option.some.inj ht]; exact hno)
      | 1, ht => exact Or.inr (Or.inl (by rw [Option.some.inj ht]; exact hno))
      | 2, ht => exact Or.inr (Or.inr (Or.inl (by rw [Option.some.inj ht]; exact hno)))
      | 3, ht => exact Or.inr (Or.inr (Or.inr (Or.inl (by rw [Option.some.inj ht]; exact hno))))
      | 4, ht => exact Or.inr (Or.inr (Or.inr (Or.inr (Or.inl (by rw [Option.some.inj ht]; exact hno)))))
      | k + 5, ht => simp at ht
    subst hRR
    clear HRS2 ht hno e6 e7 hn7
    obtain ⟨y0, y1, y2, y3, y4, y5, y6, yf⟩ := HZ3.out.zero
    have s0 := setCell_self y0
    have s1 := setCell_self y1
    have s2 := setCell_self y2
    have s3 := setCell_self y3
    have s4 := setCell_self y4
    have s5 := setCell_self y5
    have s6 := setCell_self y6
    go_wp2
    exact bodyPost_ret (v := .tuple #[(.agg #[.int .i64 0, .int .i64 0, .int .i64 0, .int .i64 0, .int .i64 0, .string ⟨#[]⟩, .slice none 0 0]), .int .i64 0, .bool false]) (by simp [results, Tryz.results66, go_sem, y0, y1, y2, y3, y4, y5, y6]) rfl ⟨hB3, rfl⟩
  case inl =>
  obtain ⟨x1, x2, x3, x4, x5, hz5⟩ := five (l := zs) hzl
  subst hz5
  have q1 := hzn 0 T1 rfl
  have q2 := hzn 1 T2 rfl
  have q3 := hzn 2 T3 rfl
  have q4 := hzn 3 T4 rfl
  have q5 := hzn 4 T5 rfl
  have k1 := hzc 0 (by simp)
  have k2 := hzc 1 (by simp)
  have k3 := hzc 2 (by simp)
  have k4 := hzc 3 (by simp)
  have k5 := hzc 4 (by simp)
  simp only [List.getElem_cons_succ, List.getElem_cons_zero] at k1 k2 k3 k4 k5
  have hn1 := hn7 w3 (h.below hB3)
  unfold numR at hn1
  clear hn7 hzn hzc hzl
  simp only [List.length_cons, List.length_nil, Nat.zero_add, Nat.reduceAdd]
  cases hg : numO T7.data.toList with
  | none =>
    rw [hg] at hn1
    dsimp only at hn1
    have hRR : R = none := by rw [← HRS2.out, six_bad (Or.inr (Or.inr (Or.inr (Or.inr (Or.inr hg)))))]
    subst hRR
    clear HRS2 hg q1 q2 q3 q4 q5
    go_wp2_with fail
    refine hn1.mono ?_
    rintro e w4 ⟨rfl, hb4⟩
    clear hn1
    have hB4 : Below w.heap.size w w4 := hB3.trans (hb4.mono hB3.size)
    obtain ⟨y0, y1, y2, y3, y4, y5, y6, yf⟩ := (HZ3.out.below hb4).zero
    have s0 := setCell_self y0
    have s1 := setCell_self y1
    have s2 := setCell_self y2
    have s3 := setCell_self y3
    have s4 := setCell_self y4
    have s5 := setCell_self y5
    have s6 := setCell_self y6
    go_wp2
    exact bodyPost_ret (v := .tuple #[(.agg #[.int .i64 0, .int .i64 0, .int .i64 0, .int .i64 0, .int .i64 0, .string ⟨#[]⟩, .slice none 0 0]), .int .i64 0, .bool false]) (by simp [results, Tryz.results66, go_sem, y0, y1, y2, y3, y4, y5, y6]) rfl ⟨hB4, rfl⟩
  | some sm =>
    rw [hg] at hn1
    dsimp only at hn1
    have hRR : R = some (x1, x2, x3, x4, x5, T6.data.toList, sm) := by
      rw [← HRS2.out, six_good (by simpa using q1) (by simpa using q2) (by simpa using q3) (by simpa using q4) (by simpa using q5) hg]
    subst hRR
    clear HRS2 hg q1 q2 q3 q4 q5
    go_wp2_with fail
    refine hn1.mono ?_
    rintro e w4 ⟨rfl, hb4⟩
    clear hn1
    have hB4 : Below w.heap.size w w4 := hB3.trans (hb4.mono hB3.size)
    have hz4 := HZ3.out.below hb4
    have t6 := below_keep hb4 e6
    have l1 := below_keep hb4 k1
    have l2 := below_keep hb4 k2
    have l3 := below_keep hb4 k3
    have l4 := below_keep hb4 k4
    have l5 := below_keep hb4 k5
    have hbR : b ≠ w.heap.size := fun e => by
      have e2 := hz4.zero.2.2.2.2.2.2.1
      rw [← e] at e2
      have := t6.symm.trans e2
      simp at this
    have hgR : g ≠ w.heap.size := by have := HWS.out; omega
    have hbR' : ¬ w.heap.size = b := fun e => hbR e.symm
    have hgR' : ¬ w.heap.size = g := fun e => hgR e.symm
    have hbd : Below w4.heap.size w4 w4.drew := (Below.refl _ _).drew
    have hzd := hz4.below hbd
    have hBd := hB4.drew
    have hbF : Below (((((((w4.setCell ⟨w.heap.size, 0, none⟩ (.int .i64 x1)).setCell ⟨w.heap.size, 1, none⟩ (.int .i64 x2)).setCell ⟨w.heap.size, 2, none⟩ (.int .i64 x3)).setCell ⟨w.heap.size, 3, none⟩ (.int .i64 x4)).setCell ⟨w.heap.size, 4, none⟩ (.int .i64 x5)).setCell ⟨w.heap.size, 5, none⟩ (.string T6)).setCell ⟨w.heap.size, 6, none⟩ (.slice none 0 0)).heap.size (((((((w4.setCell ⟨w.heap.size, 0, none⟩ (.int .i64 x1)).setCell ⟨w.heap.size, 1, none⟩ (.int .i64 x2)).setCell ⟨w.heap.size, 2, none⟩ (.int .i64 x3)).setCell ⟨w.heap.size, 3, none⟩ (.int .i64 x4)).setCell ⟨w.heap.size, 4, none⟩ (.int .i64 x5)).setCell ⟨w.heap.size, 5, none⟩ (.string T6)).setCell ⟨w.heap.size, 6, none⟩ (.slice none 0 0)) (((((((w4.setCell ⟨w.heap.size, 0, none⟩ (.int .i64 x1)).setCell ⟨w.heap.size, 1, none⟩ (.int .i64 x2)).setCell ⟨w.heap.size, 2, none⟩ (.int .i64 x3)).setCell ⟨w.heap.size, 3, none⟩ (.int .i64 x4)).setCell ⟨w.heap.size, 4, none⟩ (.int .i64 x5)).setCell ⟨w.heap.size, 5, none⟩ (.string T6)).setCell ⟨w.heap.size, 6, none⟩ (.slice none 0 0)).drew := (Below.refl _ _).drew
    obtain ⟨y0, y1, y2, y3, y4, y5, y6, yf⟩ := hzd.zero
    obtain ⟨v0, v1, v2, v3, v4, v5, v6, vf⟩ := hz4.zero
    have hz5 := hz4.set (x1, x2, x3, x4, x5, T6, []) (.slice none 0 0)
    have hz6 := hzd.set (x1, x2, x3, x4, x5, T6, []) (.slice none 0 0)
    unfold snSet at hz5 hz6
    dsimp only at hz5 hz6
    clear e6 e7 k1 k2 k3 k4 k5 hb4 hb3 hz4 hzd hB3 HZ3
    go_wp2_with fail
    go_region_held3 (fun w' => w'.cell? ⟨b, 6, none⟩ = some (.string T6) ∧ w'.cell? ⟨g, 0, none⟩ = some (.int .i64 x1) ∧ w'.cell? ⟨g, 1, none⟩ = some (.int .i64 x2) ∧ w'.cell? ⟨g, 2, none⟩ = some (.int .i64 x3) ∧ w'.cell? ⟨g, 3, none⟩ = some (.int .i64 x4) ∧ w'.cell? ⟨g, 4, none⟩ = some (.int .i64 x5) ∧ Below w.heap.size w w')
      (first
        | with_reducible exact ⟨below_keep hbd t6, below_keep hbd l1, below_keep hbd l2, below_keep hbd l3, below_keep hbd l4, below_keep hbd l5, hBd⟩
        | with_reducible exact ⟨cell_store7 hbR (below_keep hbd t6), cell_store7 hgR (below_keep hbd l1), cell_store7 hgR (below_keep hbd l2), cell_store7 hgR (below_keep hbd l3), cell_store7 hgR (below_keep hbd l4), cell_store7 hgR (below_keep hbd l5), below_store7 hBd⟩
        | with_reducible exact ⟨below_keep hbF (cell_store7 hbR t6), below_keep hbF (cell_store7 hgR l1), below_keep hbF (cell_store7 hgR l2), below_keep hbF (cell_store7 hgR l3), below_keep hbF (cell_store7 hgR l4), below_keep hbF (cell_store7 hgR l5), (below_store7 hB4).drew⟩
        | with_reducible exact ⟨t6, l1, l2, l3, l4, l5, hB4⟩
        | with_reducible exact ⟨cell_store7 hbR t6, cell_store7 hgR l1, cell_store7 hgR l2, cell_store7 hgR l3, cell_store7 hgR l4, cell_store7 hgR l5, below_store7 hB4⟩)
      (fail)
    go_split_ands
    have hB6 : Below w.heap.size w (((((((w4.setCell ⟨w.heap.size, 0, none⟩ (.int .i64 x1)).setCell ⟨w.heap.size, 1, none⟩ (.int .i64 x2)).setCell ⟨w.heap.size, 2, none⟩ (.int .i64 x3)).setCell ⟨w.heap.size, 3, none⟩ (.int .i64 x4)).setCell ⟨w.heap.size, 4, none⟩ (.int .i64 x5)).setCell ⟨w.heap.size, 5, none⟩ (.string T6)).setCell ⟨w.heap.size, 6, none⟩ (.slice none 0 0)) := below_store7 hB4
    have hB7 := hB6.drew
    obtain ⟨u0, u1, u2, u3, u4, u5, u6⟩ := (hz5.below hbF).cells
    obtain ⟨m0, m1, m2, m3, m4, m5, m6⟩ := hz6.cells
    dsimp only at u0 u1 u2 u3 u4 u5 m0 m1 m2 m3 m4 m5
    clear hz5 hz6
    go_wp2
    refine bodyPost_ret (v := .tuple #[.agg #[.int .i64 x1, .int .i64 x2, .int .i64 x3, .int .i64 x4, .int .i64 x5, .string T6, .slice none 0 0], .int .i64 sm, .bool true]) (by simp [results, Tryz.results66, go_sem, u0, u1, u2, u3, u4, u5, u6]) rfl ⟨hB7, ?_⟩
    dsimp only
    rw [bytesOf_data]
    rfl
end Go.Proofs.YtpiagofhgalklacGreatDoor
namespace Go.Proofs.YtpiagofhgalklacGreatDoor
open Go.RowKit Go.Extern.Stop Go.Stop Go.Extern Go.Sort Go.Shelf Go.Lib

theorem sread_zero {w w' : World} {a : Nat → Addr} {ev : Value} {c : Nat × Option Nat} (h : ToldE w' a ev c) (hb : Below w.heap.size w w') : SReadP w a (zeroS, c) (.returned (.tuple #[(.agg #[.int .i64 0, .int .i64 0, .int .i64 0, .int .i64 0, .int .i64 0, .string ⟨#[]⟩, .slice none 0 0]), ev])) w' :=
  ⟨.slice none 0 0, ev, rfl, Or.inl ⟨none, 0, rfl, fun _ => rfl, rfl⟩, h, hb⟩

set_option maxRecDepth 100000 in
set_option maxHeartbeats 16000000 in
theorem sread_any (s : ByteArray) (w : World) (a : Nat → Addr) (h : EnvP w a) (hs : s.size ≤ maxLen) :
    Calls Tryz.prog 30 #[.string s] w (SReadP w a (readS s.data.toList)) := by
  unfold maxLen at hs
  have hszl := size_list s
  have hal : Below w.heap.size w (w.alloc (.cells #[.int .i64 0, .int .i64 0, .int .i64 0, .int .i64 0, .int .i64 0, .string ⟨#[]⟩, .slice none 0 0] 52)) := (Below.refl _ _).alloc (Nat.le_refl _) _
  have hz0 : SnAt (w.alloc (.cells #[.int .i64 0, .int .i64 0, .int .i64 0, .int .i64 0, .int .i64 0, .string ⟨#[]⟩, .slice none 0 0] 52)) w.heap.size zeroS (.slice none 0 0) := SnAt.new w zeroS (.slice none 0 0)
  generalize hR : readS s.data.toList = R
  have HR : Hid (readS s.data.toList = R) := hR
  clear hR
  by_cases hbig : 20000 < s.size
  · have hRR : R = (zeroS, 2, none) := by rw [← HR.out]; exact readS_big (by omega)
    subst hRR
    have hb' : (20000 : Int) < (s.size : Int) := by omega
    clear HR
    go_enter Tryz.func30, Tryz.ntmps30
    go_upto_region 1 with fail
    generalize w.alloc (.cells #[.int .i64 0, .int .i64 0, .int .i64 0, .int .i64 0, .int .i64 0, .string ⟨#[]⟩, .slice none 0 0] 52) = WA at hal hz0 ⊢
    have et := (h.below hal).text.list.file.env.bound
    obtain ⟨y0, y1, y2, y3, y4, y5, y6, yf⟩ := hz0.zero
    have s0 := setCell_self y0
    have s1 := setCell_self y1
    have s2 := setCell_self y2
    have s3 := setCell_self y3
    have s4 := setCell_self y4
    have s5 := setCell_self y5
    have s6 := setCell_self y6
    go_wp2
    go_region
    all_goals go_wp2
    all_goals exact bodyPost_ret (v := .tuple #[(.agg #[.int .i64 0, .int .i64 0, .int .i64 0, .int .i64 0, .int .i64 0, .string ⟨#[]⟩, .slice none 0 0]), .iface 217 (.pointer (some (a 1)))]) (by simp [results, Tryz.results30, go_sem, y0, y1, y2, y3, y4, y5, y6]) rfl (sread_zero rfl hal.drew)
  have hb' : ¬ (20000 : Int) < (s.size : Int) := by omega
  obtain ⟨m, hm⟩ := (h.below hal).text.list.file.env.base.maxl
  have hcut := Tryz.strings_Cut s ⟨#[10]⟩ m _ (by omega) hm
  have e10 : (⟨#[10]⟩ : ByteArray).data.toList = [10] := rfl
  dsimp only at hcut
  have hcs : (Lib.cut s.data.toList [10]).1.length ≤ 20000 ∧ (Lib.cut s.data.toList [10]).2.1.length ≤ 20000 := by
    rcases cut_cases 10 s.data.toList with ⟨_, hc⟩ | ⟨x, y, hxy, _, hc⟩
    · rw [hc]; simp; omega
    · rw [hc]
      have : s.data.toList.length = x.length + 1 + y.length := by rw [hxy]; simp; omega
      dsimp only
      omega
  have hD := readS_all (l := s.data.toList) (by omega)
  rw [HR.out] at hD
  have eK : (⟨(Lib.cut s.data.toList [10]).1.toArray⟩ : ByteArray) = bytesOf (Lib.cut s.data.toList [10]).1 := rfl
  have eW : (⟨(Lib.cut s.data.toList [10]).2.1.toArray⟩ : ByteArray) = bytesOf (Lib.cut s.data.toList [10]).2.1 := rfl
  rw [eK, eW] at hcut
  clear eK eW hm
  generalize Lib.cut s.data.toList [10] = C at hcut hcs hD
  obtain ⟨fL, bL, found⟩ := C
  dsimp only at hcut hcs hD
  obtain ⟨hcs1, hcs2⟩ := hcs
  have hrh := fun W (hW : Env0 W a) => readHd_any (bytesOf fL) W a hW (by rw [bytes_len]; exact hcs1)
  have hsu := fun W => sum_any (bytesOf bL) W (by rw [bytes_len]; unfold maxLen; omega)
  have hrl := fun W (hW : EnvT W a) => lread_any (bytesOf bL) W a hW (by rw [bytes_len]; exact hcs2)
  rw [bytes_data] at hrh hsu hrl
  have HSH : Hid (Short (readL bL).1 ∧ (readL bL).1.length ≤ 60) := ⟨readL_short bL, readL_60 bL⟩
  have hsl := sumL_lt bL
  have hwS : IntKind.i64.wrap ((sumL bL : Nat) : Int) = ((sumL bL : Nat) : Int) := IntWalk.i64_in _ (by omega)
  have HD : Hid (R = if found = false then (zeroS, 1, none) else match snapO fL with
    | none => (zeroS, 1, none)
    | some (x1, x2, x3, x4, x5, op, g) => if g ≠ sumL bL then (zeroS, 10, none) else
      if (readL bL).2.1 ≠ 0 then (zeroS, (readL bL).2) else
      if (snapE (x1, x2, x3, x4, x5, bytesOf op, (readL bL).1)).1 ≠ 0 then (zeroS, snapE (x1, x2, x3, x4, x5, bytesOf op, (readL bL).1)) else
      ((x1, x2, x3, x4, x5, bytesOf op, (readL bL).1), 0, none)) := hD
  clear hD HR hcs1 hcs2 hszl hsl
  generalize bytesOf fL = fB at hcut hrh
  generalize bytesOf bL = bB at hcut hsu hrl
  generalize sumL bL = SM at hsu hwS HD
  generalize readL bL = RL at hrl HD HSH
  obtain ⟨fs, LE⟩ := RL
  dsimp only at hrl HD HSH
  go_enter Tryz.func30, Tryz.ntmps30
  go_wp2_with fail
  generalize w.alloc (.cells #[.int .i64 0, .int .i64 0, .int .i64 0, .int .i64 0, .int .i64 0, .string ⟨#[]⟩, .slice none 0 0] 52) = WA at hal hz0 hcut ⊢
  refine hcut.mono ?_
  rintro e w1 ⟨rfl, q, rfl⟩
  clear hcut
  have hb1 : Below WA.heap.size WA (WA.drewN q) := below_drewN (Below.refl _ _) q
  have hB1 : Below w.heap.size w (WA.drewN q) := hal.trans (hb1.mono hal.size)
  have hz1 := hz0.below hb1
  generalize WA.drewN q = w1 at hb1 hB1 hz1 ⊢
  have hrh1 := hrh w1 (h.below hB1).text.weak
  clear hz0 hal hb1 hrh
  go_wp2_with fail
  refine hrh1.mono ?_
  rintro e w2 ⟨hb2, hres⟩
  clear hrh1
  have hB2 : Below w.heap.size w w2 := hB1.trans (hb2.mono hB1.size)
  have hz2 := hz1.below hb2
  clear hz1 hB1 hb2
  generalize hSO : snapO fL = SO at hres HD
  clear hSO
  cases SO with
  | none =>
    obtain rfl : e = .returned (.tuple #[(.agg #[.int .i64 0, .int .i64 0, .int .i64 0, .int .i64 0, .int .i64 0, .string ⟨#[]⟩, .slice none 0 0]), .int .i64 0, .bool false]) := hres
    have hRR : R = (zeroS, 1, none) := by
      rw [HD.out]
      split <;> rfl
    subst hRR
    clear HD hsu hrl hwS
    have hal2 : Below w2.heap.size w2 (w2.alloc (.cells #[.int .i64 0, .int .i64 0, .int .i64 0, .int .i64 0, .int .i64 0, .string ⟨#[]⟩, .slice none 0 0] 52)) := (Below.refl _ _).alloc (Nat.le_refl _) _
    have hB3 : Below w.heap.size w (w2.alloc (.cells #[.int .i64 0, .int .i64 0, .int .i64 0, .int .i64 0, .int .i64 0, .string ⟨#[]⟩, .slice none 0 0] 52)) := hB2.trans (hal2.mono hB2.size)
    have hz3 := hz2.below hal2
    cases found
    · go_upto_region 5 with fail
      generalize w2.alloc (.cells #[.int .i64 0, .int .i64 0, .int .i64 0, .int .i64 0, .int .i64 0, .string ⟨#[]⟩, .slice none 0 0] 52) = w3 at hB3 hz3 ⊢
      have et := (h.below hB3).text.text
      obtain ⟨y0, y1, y2, y3, y4, y5, y6, yf⟩ := hz3.zero
      have s0 := setCell_self y0
      have s1 := setCell_self y1
      have s2 := setCell_self y2
      have s3 := setCell_self y3
      have s4 := setCell_self y4
      have s5 := setCell_self y5
      have s6 := setCell_self y6
      go_wp2
      go_region
      all_goals go_wp2
      all_goals exact bodyPost_ret (v := .tuple #[(.agg #[.int .i64 0, .int .i64 0, .int .i64 0, .int .i64 0, .int .i64 0, .string ⟨#[]⟩, .slice none 0 0]), .iface 217 (.pointer (some (a 0)))]) (by simp [results, Tryz.results30, go_sem, y0, y1, y2, y3, y4, y5, y6]) rfl (sread_zero rfl hB3.drew)
    · go_upto_region 5 with fail
      generalize w2.alloc (.cells #[.int .i64 0, .int .i64 0, .int .i64 0, .int .i64 0, .int .i64 0, .string ⟨#[]⟩, .slice none 0 0] 52) = w3 at hB3 hz3 ⊢
      have et := (h.below hB3).text.text
      obtain ⟨y0, y1, y2, y3, y4, y5, y6, yf⟩ := hz3.zero
      have s0 := setCell_self y0
      have s1 := setCell_self y1
      have s2 := setCell_self y2
      have s3 := setCell_self y3
      have s4 := setCell_self y4
      have s5 := setCell_self y5
      have s6 := setCell_self y6
      go_wp2
      go_region
      all_goals go_wp2
      all_goals exact bodyPost_ret (v := .tuple #[(.agg #[.int .i64 0, .int .i64 0, .int .i64 0, .int .i64 0, .int .i64 0, .string ⟨#[]⟩, .slice none 0 0]), .iface 217 (.pointer (some (a 0)))]) (by simp [results, Tryz.results30, go_sem, y0, y1, y2, y3, y4, y5, y6]) rfl (sread_zero rfl hB3.drew)
  | some X =>
  obtain ⟨x1, x2, x3, x4, x5, op, g⟩ := X
  dsimp only at hres HD
  unfold snV at hres
  dsimp only at hres
  subst hres
  generalize bytesOf op = T6 at HD ⊢
  have hal2 : Below w2.heap.size w2 (w2.alloc (.cells #[.int .i64 x1, .int .i64 x2, .int .i64 x3, .int .i64 x4, .int .i64 x5, .string T6, .slice none 0 0] 52)) := (Below.refl _ _).alloc (Nat.le_refl _) _
  have hB3 : Below w.heap.size w (w2.alloc (.cells #[.int .i64 x1, .int .i64 x2, .int .i64 x3, .int .i64 x4, .int .i64 x5, .string T6, .slice none 0 0] 52)) := hB2.trans (hal2.mono hB2.size)
  have hz3 := hz2.below hal2
  have hx3 : SnAt (w2.alloc (.cells #[.int .i64 x1, .int .i64 x2, .int .i64 x3, .int .i64 x4, .int .i64 x5, .string T6, .slice none 0 0] 52)) w2.heap.size (x1, x2, x3, x4, x5, T6, []) (.slice none 0 0) := SnAt.new w2 (x1, x2, x3, x4, x5, T6, []) (.slice none 0 0)
  have hXR : w.heap.size < w2.heap.size := hz2.lt
  clear hal2 hz2 hB2
  go_upto_region 5 with fail
  generalize w2.alloc (.cells #[.int .i64 x1, .int .i64 x2, .int .i64 x3, .int .i64 x4, .int .i64 x5, .string T6, .slice none 0 0] 52) = w3 at hB3 hz3 hx3 ⊢
  generalize w2.heap.size = X at hx3 hXR ⊢
  cases found
  · have hRR : R = (zeroS, 1, none) := by rw [HD.out, if_pos rfl]
    subst hRR
    clear HD hsu hrl hwS hx3
    have et := (h.below hB3).text.text
    obtain ⟨y0, y1, y2, y3, y4, y5, y6, yf⟩ := hz3.zero
    have s0 := setCell_self y0
    have s1 := setCell_self y1
    have s2 := setCell_self y2
    have s3 := setCell_self y3
    have s4 := setCell_self y4
    have s5 := setCell_self y5
    have s6 := setCell_self y6
    go_wp2
    go_region
    all_goals go_wp2
    all_goals exact bodyPost_ret (v := .tuple #[(.agg #[.int .i64 0, .int .i64 0, .int .i64 0, .int .i64 0, .int .i64 0, .string ⟨#[]⟩, .slice none 0 0]), .iface 217 (.pointer (some (a 0)))]) (by simp [results, Tryz.results30, go_sem, y0, y1, y2, y3, y4, y5, y6]) rfl (sread_zero rfl hB3.drew)
  have HD2 : Hid (R = if g ≠ (SM : Nat) then (zeroS, 10, none) else
      if LE.1 ≠ 0 then (zeroS, LE) else
      if (snapE (x1, x2, x3, x4, x5, T6, fs)).1 ≠ 0 then (zeroS, snapE (x1, x2, x3, x4, x5, T6, fs)) else
      ((x1, x2, x3, x4, x5, T6, fs), 0, none)) := by
    show _ = _
    rw [HD.out, if_neg (by simp)]
  clear HD
  have hsu1 := hsu w3
  clear hsu
  go_wp2_with fail
  refine hsu1.mono ?_
  rintro e w4 ⟨rfl, hb4⟩
  clear hsu1
  have hB4 : Below w.heap.size w w4 := hB3.trans (hb4.mono hB3.size)
  have hz4 := hz3.below hb4
  have hx4 := hx3.below hb4
  clear hB3 hz3 hx3 hb4
  by_cases hg : g = (SM : Nat)
  case neg =>
    have hRR : R = (zeroS, 10, none) := by rw [HD2.out, if_pos hg]
    subst hRR
    clear HD2 hrl hx4
    have et := (h.below hB4).sum
    obtain ⟨y0, y1, y2, y3, y4, y5, y6, yf⟩ := hz4.zero
    have s0 := setCell_self y0
    have s1 := setCell_self y1
    have s2 := setCell_self y2
    have s3 := setCell_self y3
    have s4 := setCell_self y4
    have s5 := setCell_self y5
    have s6 := setCell_self y6
    go_wp2
    go_region
    all_goals go_wp2
    all_goals exact bodyPost_ret (v := .tuple #[(.agg #[.int .i64 0, .int .i64 0, .int .i64 0, .int .i64 0, .int .i64 0, .string ⟨#[]⟩, .slice none 0 0]), .iface 217 (.pointer (some (a 9)))]) (by simp [results, Tryz.results30, go_sem, y0, y1, y2, y3, y4, y5, y6]) rfl (sread_zero rfl hB4.drew)
  case pos =>
  have HD3 : Hid (R = if LE.1 ≠ 0 then (zeroS, LE) else
      if (snapE (x1, x2, x3, x4, x5, T6, fs)).1 ≠ 0 then (zeroS, snapE (x1, x2, x3, x4, x5, T6, fs)) else
      ((x1, x2, x3, x4, x5, T6, fs), 0, none)) := by
    show _ = _
    rw [HD2.out, if_neg (by simpa using hg)]
  clear HD2
  subst hg
  have hrl1 := hrl w4 (h.below hB4).text
  clear hrl
  go_wp2_with fail
  refine hrl1.mono ?_
  rintro e w5 ⟨v5, ev, rfl, hv5, ht, hb5⟩
  clear hrl1 hwS
  have hB5 : Below w.heap.size w w5 := hB4.trans (hb5.mono hB4.size)
  have hz5 := hz4.below hb5
  have hx5 := hx4.below hb5
  clear hB4 hz4 hx4 hb5
  by_cases hE : LE.1 = 0
  case neg =>
    have hRR : R = (zeroS, LE) := by rw [HD3.out, if_pos hE]
    subst hRR
    obtain ⟨t, u, rfl⟩ := ht.bad hE
    have HT : Hid (ToldE w5 a (.iface t u) LE) := ht
    clear HD3 ht hx5 hv5
    obtain ⟨y0, y1, y2, y3, y4, y5, y6, yf⟩ := hz5.zero
    have s0 := setCell_self y0
    have s1 := setCell_self y1
    have s2 := setCell_self y2
    have s3 := setCell_self y3
    have s4 := setCell_self y4
    have s5 := setCell_self y5
    have s6 := setCell_self y6
    go_wp2
    exact bodyPost_ret (v := .tuple #[(.agg #[.int .i64 0, .int .i64 0, .int .i64 0, .int .i64 0, .int .i64 0, .string ⟨#[]⟩, .slice none 0 0]), .iface t u]) (by simp [results, Tryz.results30, go_sem, y0, y1, y2, y3, y4, y5, y6]) rfl (sread_zero HT.out hB5)
  case pos =>
  obtain rfl := ht.ok hE
  have HD4 : Hid (R = if (snapE (x1, x2, x3, x4, x5, T6, fs)).1 ≠ 0 then (zeroS, snapE (x1, x2, x3, x4, x5, T6, fs)) else
      ((x1, x2, x3, x4, x5, T6, fs), 0, none)) := by
    show _ = _
    rw [HD3.out, if_neg (by simpa using hE)]
  clear HD3 ht hE
  obtain ⟨qv, cv, hq⟩ := hv5.form
  subst hq
  have hoX := off_of hx5 hv5
  have hv6 := hv5.set_off hoX 6 (.slice qv fs.length cv)
  have hx6 : SnAt (w5.setCell ⟨X, 6, none⟩ (.slice qv fs.length cv)) X (x1, x2, x3, x4, x5, T6, fs) (.slice qv fs.length cv) := by
    have := hx5
    unfold SnAt at *
    rw [heap_setCell_same _ _ _ _ _ _ this]; rfl
  have hz6 := sn_other hz5 (show X ≠ w.heap.size by omega) 6 (.slice qv fs.length cv)
  have hB6 : Below w.heap.size w (w5.setCell ⟨X, 6, none⟩ (.slice qv fs.length cv)) := hB5.setCell (Nat.le_of_lt hXR) _
  have fX := hx5.fz
  have x6 := hx5.cells.2.2.2.2.2.2
  have hck6 := scheck_any (x1, x2, x3, x4, x5, T6, fs) (.slice qv fs.length cv) _ a (h.below hB6).text.list hv6 (by have := HSH.out.2; dsimp only; omega) HSH.out.1
  unfold snV at hck6
  dsimp only at hck6
  have HXE : Hid (X ≠ w.heap.size) := by show _ ≠ _; omega
  generalize hSE : snapE (x1, x2, x3, x4, x5, T6, fs) = XE at hck6 HD4
  clear hSE hx5 hv5 hz5 hB5 hoX
  obtain ⟨L, hL⟩ : ∃ L, fs.length = L := ⟨_, rfl⟩
  rw [hL] at hv6 hx6 hz6 hB6 hck6 ⊢
  clear hL
  go_upto_region 13 with fail
  generalize w5.setCell ⟨X, 6, none⟩ (.slice qv L cv) = w6 at hv6 hx6 hz6 hB6 hck6 ⊢
  obtain ⟨p0, p1, p2, p3, p4, p5, p6⟩ := hx6.cells
  dsimp only at p0 p1 p2 p3 p4 p5
  clear fX x6
  go_wp2_with fail
  refine hck6.mono ?_
  rintro e w7 ⟨ev, rfl, ht, hb7⟩
  clear hck6 p0 p1 p2 p3 p4 p5 p6
  have hB7 : Below w.heap.size w w7 := hB6.trans (hb7.mono hB6.size)
  have hz7 := hz6.below hb7
  have hx7 := hx6.below hb7
  have hv7 := hv6.below hb7
  clear hv6 hx6 hz6 hB6 hb7
  by_cases hE : XE.1 = 0
  case neg =>
    have hRR : R = (zeroS, XE) := by rw [HD4.out, if_pos hE]
    subst hRR
    obtain ⟨t, u, rfl⟩ := ht.bad hE
    have HT : Hid (ToldE w7 a (.iface t u) XE) := ht
    clear HD4 ht hx7 hv7
    obtain ⟨y0, y1, y2, y3, y4, y5, y6, yf⟩ := hz7.zero
    have s0 := setCell_self y0
    have s1 := setCell_self y1
    have s2 := setCell_self y2
    have s3 := setCell_self y3
    have s4 := setCell_self y4
    have s5 := setCell_self y5
    have s6 := setCell_self y6
    go_wp2
    exact bodyPost_ret (v := .tuple #[(.agg #[.int .i64 0, .int .i64 0, .int .i64 0, .int .i64 0, .int .i64 0, .string ⟨#[]⟩, .slice none 0 0]), .iface t u]) (by simp [results, Tryz.results30, go_sem, y0, y1, y2, y3, y4, y5, y6]) rfl (sread_zero HT.out hB7)
  case pos =>
  obtain rfl := ht.ok hE
  have hRR : R = ((x1, x2, x3, x4, x5, T6, fs), 0, none) := by rw [HD4.out, if_neg (by simpa using hE)]
  subst hRR
  clear HD4 ht hE
  obtain ⟨p0, p1, p2, p3, p4, p5, p6⟩ := hx7.cells
  dsimp only at p0 p1 p2 p3 p4 p5
  obtain ⟨y0, y1, y2, y3, y4, y5, y6, yf⟩ := hz7.zero
  have hoR := off_of hz7 hv7
  have HVF : Hid (FlsAt (((((((w7.setCell ⟨w.heap.size, 0, none⟩ (.int .i64 x1)).setCell ⟨w.heap.size, 1, none⟩ (.int .i64 x2)).setCell ⟨w.heap.size, 2, none⟩ (.int .i64 x3)).setCell ⟨w.heap.size, 3, none⟩ (.int .i64 x4)).setCell ⟨w.heap.size, 4, none⟩ (.int .i64 x5)).setCell ⟨w.heap.size, 5, none⟩ (.string T6)).setCell ⟨w.heap.size, 6, none⟩ (.slice qv L cv)) (.slice qv L cv) fs) := (((((((hv7.set_off hoR 0 _).set_off hoR 1 _).set_off hoR 2 _).set_off hoR 3 _).set_off hoR 4 _).set_off hoR 5 _).set_off hoR 6 _)
  obtain ⟨u0, u1, u2, u3, u4, u5, u6⟩ := (hz7.set (x1, x2, x3, x4, x5, T6, fs) (.slice qv L cv)).cells
  have hB8 := snSet_below (s := (x1, x2, x3, x4, x5, T6, fs)) (vf := .slice qv L cv) hB7 (Nat.le_refl w.heap.size)
  unfold snSet at u0 u1 u2 u3 u4 u5 u6 hB8
  dsimp only at u0 u1 u2 u3 u4 u5 hB8
  clear hz7 hx7 hv7 hoR
  go_wp2
  refine bodyPost_ret (v := .tuple #[.agg #[.int .i64 x1, .int .i64 x2, .int .i64 x3, .int .i64 x4, .int .i64 x5, .string T6, .slice qv L cv], .nilIface]) (by simp [results, Tryz.results30, go_sem, u0, u1, u2, u3, u4, u5, u6]) rfl ?_
  exact ⟨.slice qv L cv, .nilIface, rfl, HVF.out, rfl, hB8⟩
end Go.Proofs.YtpiagofhgalklacGreatDoor
