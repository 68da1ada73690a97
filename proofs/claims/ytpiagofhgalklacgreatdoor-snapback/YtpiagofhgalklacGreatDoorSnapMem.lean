/-
  A snap in memory; the contracts of the document's own InTexts and SnapFault.
  The contracts of the document's own SnapText and SameSnap.
  A snap's block, stored over; what is read of a snap's text.
-/
import Derived.Test.YtpiagofhgalklacGreatDoorSnapPure
import Derived.Test.YtpiagofhgalklacGreatDoorRefList1
import Derived.Test.YtpiagofhgalklacGreatDoorRefReadData
import Derived.Test.YtpiagofhgalklacGreatDoorRefSum
import Derived.Test.YtpiagofhgalklacGreatDoorRefFile
import Derived.Test.YtpiagofhgalklacGreatDoorListRd
namespace Go.Proofs.YtpiagofhgalklacGreatDoor
open Go.RowKit Go.Extern.Stop Go.Stop Go.Extern Go.Sort Go.Shelf Go.Lib

/-- A snap's value; the value of its files is handed in. -/
def snV (s : Sn) (vf : Value) : Value := .agg #[.int .i64 s.1, .int .i64 s.2.1, .int .i64 s.2.2.1, .int .i64 s.2.2.2.1, .int .i64 s.2.2.2.2.1, .string s.2.2.2.2.2.1, vf]

/-- A snap's block. -/
def SnAt (W : World) (b : Nat) (s : Sn) (vf : Value) : Prop := W.heap[b]? = some (.cells #[.int .i64 s.1, .int .i64 s.2.1, .int .i64 s.2.2.1, .int .i64 s.2.2.2.1, .int .i64 s.2.2.2.2.1, .string s.2.2.2.2.2.1, vf] 52 (0, 0))
theorem SnAt.lt {W : World} {b : Nat} {s : Sn} {vf : Value} (h : SnAt W b s vf) : b < W.heap.size := lt_of_block h
theorem SnAt.below {W W' : World} {b : Nat} {s : Sn} {vf : Value} (h : SnAt W b s vf) (hb : Below W.heap.size W W') : SnAt W' b s vf := (hb.block b h.lt).trans h
theorem SnAt.cells {W : World} {b : Nat} {s : Sn} {vf : Value} (h : SnAt W b s vf) : W.cell? ⟨b, 0, none⟩ = some (.int .i64 s.1) ∧ W.cell? ⟨b, 1, none⟩ = some (.int .i64 s.2.1) ∧ W.cell? ⟨b, 2, none⟩ = some (.int .i64 s.2.2.1) ∧ W.cell? ⟨b, 3, none⟩ = some (.int .i64 s.2.2.2.1) ∧ W.cell? ⟨b, 4, none⟩ = some (.int .i64 s.2.2.2.2.1) ∧ W.cell? ⟨b, 5, none⟩ = some (.string s.2.2.2.2.2.1) ∧ W.cell? ⟨b, 6, none⟩ = some vf := by
  refine ⟨?_, ?_, ?_, ?_, ?_, ?_, ?_⟩ <;> rw [cell_of_row _ _ _ _ _ _ h] <;> rfl
theorem SnAt.new (w : World) (s : Sn) (vf : Value) : SnAt (w.alloc (.cells #[.int .i64 s.1, .int .i64 s.2.1, .int .i64 s.2.2.1, .int .i64 s.2.2.2.1, .int .i64 s.2.2.2.2.1, .string s.2.2.2.2.2.1, vf] 52)) w.heap.size s vf := heap_alloc_new _ _

theorem tx_succ {ts : List ByteArray} {s : ByteArray} {n : Nat} (h : ∀ j (h : j < ts.length), j < n → ts[j] ≠ s) (hn : n < ts.length) (e : ts[n] ≠ s) : ∀ j (h : j < ts.length), j < n + 1 → ts[j] ≠ s := fun j hj hjn => by
  by_cases e' : j = n
  · subst e'; exact e
  · exact h j hj (by omega)

set_option maxRecDepth 100000 in
set_option maxHeartbeats 2000000 in
theorem inTexts_any (s : ByteArray) (b cap : Nat) (ts : List ByteArray) (w : World) (hc : ∀ j (h : j < ts.length), w.cell? ⟨b, j, none⟩ = some (.string ts[j])) (hl : ts.length ≤ 20000) :
    Calls Tryz.prog 67 #[.string s, .slice (some ⟨b, 0, none⟩) ts.length cap] w fun e w' => e = .returned (.bool (ts.any fun t => decide (t = s))) ∧ w' = w := by
  have HC : Hid (∀ j (h : j < ts.length), w.cell? ⟨b, j, none⟩ = some (.string ts[j])) := hc
  obtain ⟨L, hL⟩ : ∃ L, ts.length = L := ⟨_, rfl⟩
  have HX : Hid (ts.length = L) := hL
  rw [hL] at hl ⊢
  generalize hR : (ts.any fun t => decide (t = s)) = R
  have HR : Hid ((ts.any fun t => decide (t = s)) = R) := hR
  clear hL hc hR
  go_enter Tryz.func67, Tryz.ntmps67
  go_wp2
  go_loop [5] (fun k => ∃ n : Nat, n ≤ L ∧ k = .int .i64 n ∧ ∀ j (h : j < ts.length), j < n → ts[j] ≠ s) (fun k => L - (intOf k).toNat)
  case atStart => exact ⟨0, by omega, rfl, fun j h h' => absurd h' (Nat.not_lt_zero _)⟩
  case round =>
    obtain ⟨n, hn, rfl, hno⟩ := hrel
    have HNO : Hid (∀ j (h : j < ts.length), j < n → ts[j] ≠ s) := hno
    clear hno
    by_cases hlt : n < L
    · have hltx : n < ts.length := by rw [HX.out]; exact hlt
      have c0 := HC.out n hltx
      have hi : (n : Int) < (L : Int) := by omega
      have hi0' : (0 : Int) ≤ (n : Int) := by omega
      by_cases he : ts[n] = s
      · have hRR : R = true := by rw [← HR.out]; exact List.any_eq_true.2 ⟨_, List.getElem_mem hltx, decide_eq_true he⟩
        subst hRR
        rw [he] at c0
        have d1 : (s.toList == s.toList) = true := by simp
        clear he hltx
        go_wp2
        go_ret
        exact ⟨rfl, rfl⟩
      · have HN1 : Hid (∀ j (h : j < ts.length), j < n + 1 → ts[j] ≠ s) := tx_succ HNO.out hltx he
        have d1 : (ts[n].toList == s.toList) = false := neBB (fun e => he (part_ext e))
        generalize ts[n] = t at c0 d1
        clear he hltx
        go_wp2
        go_round
        case rel => exact ⟨n + 1, by omega, by go_num, HN1.out⟩
        case measure => simp [intOf]; omega
    · obtain rfl : n = L := by omega
      have hRR : R = false := by
        rw [← HR.out]
        refine List.any_eq_false.2 fun t ht e => ?_
        obtain ⟨j, hj, e'⟩ := List.mem_iff_getElem.1 ht
        exact HNO.out j hj (by rw [← HX.out]; exact hj) (e'.trans (of_decide_eq_true e))
      subst hRR
      go_wp2
      go_ret
      exact ⟨rfl, rfl⟩

theorem op_mem (op : ByteArray) : ([(⟨#[115, 116, 97, 114, 116]⟩ : ByteArray), ⟨#[97, 112, 112, 101, 110, 100]⟩, ⟨#[100, 101, 108, 101, 116, 101]⟩, ⟨#[114, 101, 119, 114, 105, 116, 101]⟩].any fun t => decide (t = op)) = opB op.data.toList := by
  have key : ∀ t : List UInt8, (⟨t.toArray⟩ : ByteArray) = op ↔ op.data.toList = t := fun t => by
    constructor
    · rintro rfl; simp
    · intro h
      have : bytesOf op.data.toList = bytesOf t := by rw [h]
      rw [bytesOf_data] at this
      exact this.symm
  have e1 := key kStart
  have e2 := key kAppend
  have e3 := key kDelete
  have e4 := key kRewrite
  rw [Bool.eq_iff_iff]
  simp only [opB, List.any_cons, List.any_nil, Bool.or_false, Bool.or_eq_true, decide_eq_true_eq]
  constructor
  · rintro (h | h | h | h)
    · exact Or.inl (Or.inl (Or.inl (e1.1 h)))
    · exact Or.inl (Or.inl (Or.inr (e2.1 h)))
    · exact Or.inl (Or.inr (e3.1 h))
    · exact Or.inr (e4.1 h)
  · rintro (((h | h) | h) | h)
    · exact Or.inl (e1.2 h)
    · exact Or.inr (Or.inl (e2.2 h))
    · exact Or.inr (Or.inr (Or.inl (e3.2 h)))
    · exact Or.inr (Or.inr (Or.inr (e4.2 h)))

theorem snap_unbound {s : Sn} (h : s.1 < 1 ∨ 1073741824 < s.1 ∨ s.2.1 < 0 ∨ s.1 ≤ s.2.1 ∨ s.2.2.1 < 0 ∨ 1073741824 < s.2.2.1 ∨ s.2.2.2.1 < 0 ∨ 100000 < s.2.2.2.1 ∨ s.2.2.2.2.1 < 0 ∨ 1073741824 < s.2.2.2.2.1) : snapE s = (2, none) := by
  unfold snapE
  rw [if_pos]
  cases hb : sbndB s with
  | false => rfl
  | true =>
    have := sbnd_all.1 hb
    omega

/-- The files from the n-th on are as new as all. -/
def SeqLeft (seq : Int) (fs : List Fl) (n : Nat) : Prop := seqG seq fs 0 = seqG seq (fs.drop n) n
theorem seqL_zero (seq : Int) (fs : List Fl) : SeqLeft seq fs 0 := rfl
theorem seqL_bad {seq : Int} {fs : List Fl} {n : Nat} (h : SeqLeft seq fs n) (hn : n < fs.length) (e : seq < fs[n].2.2.2.2.2) : seqG seq fs 0 = (9, some n) := by
  unfold SeqLeft at h
  rw [h, List.drop_eq_getElem_cons hn]
  unfold seqG
  rw [if_pos e]
theorem seqL_succ {seq : Int} {fs : List Fl} {n : Nat} (h : SeqLeft seq fs n) (hn : n < fs.length) (e : ¬ seq < fs[n].2.2.2.2.2) : SeqLeft seq fs (n + 1) := by
  unfold SeqLeft at h ⊢
  rw [h]
  conv => lhs; rw [List.drop_eq_getElem_cons hn]
  conv => lhs; unfold seqG
  rw [if_neg e]
theorem seqL_all {seq : Int} {fs : List Fl} (h : SeqLeft seq fs fs.length) : seqG seq fs 0 = (0, none) := by
  unfold SeqLeft at h
  rw [h, List.drop_length]
  rfl

theorem snapE_rest {s : Sn} (hb : sbndB s = true) : (opB s.2.2.2.2.2.1.data.toList = false → snapE s = (4, none)) ∧ (opB s.2.2.2.2.2.1.data.toList = true → ((listE s.2.2.2.2.2.2).1 ≠ 0 → snapE s = listE s.2.2.2.2.2.2) ∧ ((listE s.2.2.2.2.2.2).1 = 0 → snapE s = seqG s.2.2.1 s.2.2.2.2.2.2 0)) := by
  unfold snapE
  rw [if_neg (by rw [hb]; simp)]
  refine ⟨fun h => by rw [if_pos h], fun h => ⟨fun h1 => ?_, fun h1 => ?_⟩⟩
  · rw [if_neg (by rw [h]; simp), if_pos h1]
  · rw [if_neg (by rw [h]; simp), if_neg (by simpa using h1)]

set_option maxRecDepth 100000 in
set_option maxHeartbeats 16000000 in
theorem snapFault_any (s : Sn) (vf : Value) (w : World) (hx : FlsAt w vf s.2.2.2.2.2.2) (hl : s.2.2.2.2.2.2.length ≤ 20000) (hsz : ∀ f ∈ s.2.2.2.2.2.2, f.1.size ≤ 100000 ∧ f.2.1.size ≤ 100000) :
    Calls Tryz.prog 33 #[snV s vf] w fun e w' => e = .returned (.agg #[.int .i64 (snapE s).1, .int .i64 (atZ (snapE s).2)]) ∧ Below w.heap.size w w' := by
  have hub := @snap_unbound s
  have hrs := @snapE_rest s
  have hsb := @sbnd_all s
  obtain ⟨id, par, seq, day, idx, op, fs⟩ := s
  unfold snV
  dsimp only at hx hl hsz hub hrs hsb ⊢
  have hal : Below w.heap.size w ((w.alloc (.cells #[.int .i64 id, .int .i64 par, .int .i64 seq, .int .i64 day, .int .i64 idx, .string op, vf] 52)).alloc (.cells #[.int .i64 0, .int .i64 0] 30)) := ((Below.refl _ _).alloc (Nat.le_refl _) _).alloc (by simp) _
  have hsn : SnAt ((w.alloc (.cells #[.int .i64 id, .int .i64 par, .int .i64 seq, .int .i64 day, .int .i64 idx, .string op, vf] 52)).alloc (.cells #[.int .i64 0, .int .i64 0] 30)) w.heap.size (id, par, seq, day, idx, op, fs) vf := heap_alloc2_old w _ _
  have hfc : FC ((w.alloc (.cells #[.int .i64 id, .int .i64 par, .int .i64 seq, .int .i64 day, .int .i64 idx, .string op, vf] 52)).alloc (.cells #[.int .i64 0, .int .i64 0] 30)) (w.heap.size + 1) 0 0 := heap_alloc2_new w _ _
  generalize hR : snapE (id, par, seq, day, idx, op, fs) = R at hub hrs ⊢
  generalize hSB : sbndB (id, par, seq, day, idx, op, fs) = SBB at hrs hsb
  clear hR hSB
  have hle : w.heap.size ≤ w.heap.size + 1 := Nat.le_succ _
  by_cases q0 : id < 1
  · obtain rfl := hub (by omega)
    clear hrs hsb hx hsz
    have hbr := bare_of 2 ((w.alloc (.cells #[.int .i64 id, .int .i64 par, .int .i64 seq, .int .i64 day, .int .i64 idx, .string op, vf] 52)).alloc (.cells #[.int .i64 0, .int .i64 0] 30))
    go_enter Tryz.func33, Tryz.ntmps33
    go_wp2_with fail
    generalize (w.alloc (.cells #[.int .i64 id, .int .i64 par, .int .i64 seq, .int .i64 day, .int .i64 idx, .string op, vf] 52)).alloc (.cells #[.int .i64 0, .int .i64 0] 30) = WA at hbr hfc hal ⊢
    refine hbr.mono ?_
    rintro e w1 ⟨rfl, hb1⟩
    clear hbr
    have hf1 := hfc.below hb1
    have hB1 : Below w.heap.size w w1 := hal.trans (hb1.mono hal.size)
    have j0 := hf1.c0
    have j1 := hf1.c1
    have jz := hf1.fz
    clear hfc hal hb1
    go_wp2
    refine bodyPost_ret (v := .agg #[.int .i64 2, .int .i64 (-1)]) (by simp [results, Tryz.results33, go_sem, j0, j1]) rfl ⟨rfl, ?_⟩
    exact (hB1.setCell hle _).setCell hle _
  by_cases q1 : 1073741824 < id
  · obtain rfl := hub (by omega)
    clear hrs hsb hx hsz
    have hbr := bare_of 2 ((w.alloc (.cells #[.int .i64 id, .int .i64 par, .int .i64 seq, .int .i64 day, .int .i64 idx, .string op, vf] 52)).alloc (.cells #[.int .i64 0, .int .i64 0] 30))
    go_enter Tryz.func33, Tryz.ntmps33
    go_wp2_with fail
    generalize (w.alloc (.cells #[.int .i64 id, .int .i64 par, .int .i64 seq, .int .i64 day, .int .i64 idx, .string op, vf] 52)).alloc (.cells #[.int .i64 0, .int .i64 0] 30) = WA at hbr hfc hal ⊢
    refine hbr.mono ?_
    rintro e w1 ⟨rfl, hb1⟩
    clear hbr
    have hf1 := hfc.below hb1
    have hB1 : Below w.heap.size w w1 := hal.trans (hb1.mono hal.size)
    have j0 := hf1.c0
    have j1 := hf1.c1
    have jz := hf1.fz
    clear hfc hal hb1
    go_wp2
    refine bodyPost_ret (v := .agg #[.int .i64 2, .int .i64 (-1)]) (by simp [results, Tryz.results33, go_sem, j0, j1]) rfl ⟨rfl, ?_⟩
    exact (hB1.setCell hle _).setCell hle _
  by_cases q2 : par < 0
  · obtain rfl := hub (by omega)
    clear hrs hsb hx hsz
    have hbr := bare_of 2 ((w.alloc (.cells #[.int .i64 id, .int .i64 par, .int .i64 seq, .int .i64 day, .int .i64 idx, .string op, vf] 52)).alloc (.cells #[.int .i64 0, .int .i64 0] 30))
    go_enter Tryz.func33, Tryz.ntmps33
    go_wp2_with fail
    generalize (w.alloc (.cells #[.int .i64 id, .int .i64 par, .int .i64 seq, .int .i64 day, .int .i64 idx, .string op, vf] 52)).alloc (.cells #[.int .i64 0, .int .i64 0] 30) = WA at hbr hfc hal ⊢
    refine hbr.mono ?_
    rintro e w1 ⟨rfl, hb1⟩
    clear hbr
    have hf1 := hfc.below hb1
    have hB1 : Below w.heap.size w w1 := hal.trans (hb1.mono hal.size)
    have j0 := hf1.c0
    have j1 := hf1.c1
    have jz := hf1.fz
    clear hfc hal hb1
    go_wp2
    refine bodyPost_ret (v := .agg #[.int .i64 2, .int .i64 (-1)]) (by simp [results, Tryz.results33, go_sem, j0, j1]) rfl ⟨rfl, ?_⟩
    exact (hB1.setCell hle _).setCell hle _
  by_cases q3 : id ≤ par
  · obtain rfl := hub (by omega)
    clear hrs hsb hx hsz
    have hbr := bare_of 2 ((w.alloc (.cells #[.int .i64 id, .int .i64 par, .int .i64 seq, .int .i64 day, .int .i64 idx, .string op, vf] 52)).alloc (.cells #[.int .i64 0, .int .i64 0] 30))
    go_enter Tryz.func33, Tryz.ntmps33
    go_wp2_with fail
    generalize (w.alloc (.cells #[.int .i64 id, .int .i64 par, .int .i64 seq, .int .i64 day, .int .i64 idx, .string op, vf] 52)).alloc (.cells #[.int .i64 0, .int .i64 0] 30) = WA at hbr hfc hal ⊢
    refine hbr.mono ?_
    rintro e w1 ⟨rfl, hb1⟩
    clear hbr
    have hf1 := hfc.below hb1
    have hB1 : Below w.heap.size w w1 := hal.trans (hb1.mono hal.size)
    have j0 := hf1.c0
    have j1 := hf1.c1
    have jz := hf1.fz
    clear hfc hal hb1
    go_wp2
    refine bodyPost_ret (v := .agg #[.int .i64 2, .int .i64 (-1)]) (by simp [results, Tryz.results33, go_sem, j0, j1]) rfl ⟨rfl, ?_⟩
    exact (hB1.setCell hle _).setCell hle _
  by_cases q4 : seq < 0
  · obtain rfl := hub (by omega)
    clear hrs hsb hx hsz
    have hbr := bare_of 2 ((w.alloc (.cells #[.int .i64 id, .int .i64 par, .int .i64 seq, .int .i64 day, .int .i64 idx, .string op, vf] 52)).alloc (.cells #[.int .i64 0, .int .i64 0] 30))
    go_enter Tryz.func33, Tryz.ntmps33
    go_wp2_with fail
    generalize (w.alloc (.cells #[.int .i64 id, .int .i64 par, .int .i64 seq, .int .i64 day, .int .i64 idx, .string op, vf] 52)).alloc (.cells #[.int .i64 0, .int .i64 0] 30) = WA at hbr hfc hal ⊢
    refine hbr.mono ?_
    rintro e w1 ⟨rfl, hb1⟩
    clear hbr
    have hf1 := hfc.below hb1
    have hB1 : Below w.heap.size w w1 := hal.trans (hb1.mono hal.size)
    have j0 := hf1.c0
    have j1 := hf1.c1
    have jz := hf1.fz
    clear hfc hal hb1
    go_wp2
    refine bodyPost_ret (v := .agg #[.int .i64 2, .int .i64 (-1)]) (by simp [results, Tryz.results33, go_sem, j0, j1]) rfl ⟨rfl, ?_⟩
    exact (hB1.setCell hle _).setCell hle _
  by_cases q5 : 1073741824 < seq
  · obtain rfl := hub (by omega)
    clear hrs hsb hx hsz
    have hbr := bare_of 2 ((w.alloc (.cells #[.int .i64 id, .int .i64 par, .int .i64 seq, .int .i64 day, .int .i64 idx, .string op, vf] 52)).alloc (.cells #[.int .i64 0, .int .i64 0] 30))
    go_enter Tryz.func33, Tryz.ntmps33
    go_wp2_with fail
    generalize (w.alloc (.cells #[.int .i64 id, .int .i64 par, .int .i64 seq, .int .i64 day, .int .i64 idx, .string op, vf] 52)).alloc (.cells #[.int .i64 0, .int .i64 0] 30) = WA at hbr hfc hal ⊢
    refine hbr.mono ?_
    rintro e w1 ⟨rfl, hb1⟩
    clear hbr
    have hf1 := hfc.below hb1
    have hB1 : Below w.heap.size w w1 := hal.trans (hb1.mono hal.size)
    have j0 := hf1.c0
    have j1 := hf1.c1
    have jz := hf1.fz
    clear hfc hal hb1
    go_wp2
    refine bodyPost_ret (v := .agg #[.int .i64 2, .int .i64 (-1)]) (by simp [results, Tryz.results33, go_sem, j0, j1]) rfl ⟨rfl, ?_⟩
    exact (hB1.setCell hle _).setCell hle _
  by_cases q6 : day < 0
  · obtain rfl := hub (by omega)
    clear hrs hsb hx hsz
    have hbr := bare_of 2 ((w.alloc (.cells #[.int .i64 id, .int .i64 par, .int .i64 seq, .int .i64 day, .int .i64 idx, .string op, vf] 52)).alloc (.cells #[.int .i64 0, .int .i64 0] 30))
    go_enter Tryz.func33, Tryz.ntmps33
    go_wp2_with fail
    generalize (w.alloc (.cells #[.int .i64 id, .int .i64 par, .int .i64 seq, .int .i64 day, .int .i64 idx, .string op, vf] 52)).alloc (.cells #[.int .i64 0, .int .i64 0] 30) = WA at hbr hfc hal ⊢
    refine hbr.mono ?_
    rintro e w1 ⟨rfl, hb1⟩
    clear hbr
    have hf1 := hfc.below hb1
    have hB1 : Below w.heap.size w w1 := hal.trans (hb1.mono hal.size)
    have j0 := hf1.c0
    have j1 := hf1.c1
    have jz := hf1.fz
    clear hfc hal hb1
    go_wp2
    refine bodyPost_ret (v := .agg #[.int .i64 2, .int .i64 (-1)]) (by simp [results, Tryz.results33, go_sem, j0, j1]) rfl ⟨rfl, ?_⟩
    exact (hB1.setCell hle _).setCell hle _
  by_cases q7 : 100000 < day
  · obtain rfl := hub (by omega)
    clear hrs hsb hx hsz
    have hbr := bare_of 2 ((w.alloc (.cells #[.int .i64 id, .int .i64 par, .int .i64 seq, .int .i64 day, .int .i64 idx, .string op, vf] 52)).alloc (.cells #[.int .i64 0, .int .i64 0] 30))
    go_enter Tryz.func33, Tryz.ntmps33
    go_wp2_with fail
    generalize (w.alloc (.cells #[.int .i64 id, .int .i64 par, .int .i64 seq, .int .i64 day, .int .i64 idx, .string op, vf] 52)).alloc (.cells #[.int .i64 0, .int .i64 0] 30) = WA at hbr hfc hal ⊢
    refine hbr.mono ?_
    rintro e w1 ⟨rfl, hb1⟩
    clear hbr
    have hf1 := hfc.below hb1
    have hB1 : Below w.heap.size w w1 := hal.trans (hb1.mono hal.size)
    have j0 := hf1.c0
    have j1 := hf1.c1
    have jz := hf1.fz
    clear hfc hal hb1
    go_wp2
    refine bodyPost_ret (v := .agg #[.int .i64 2, .int .i64 (-1)]) (by simp [results, Tryz.results33, go_sem, j0, j1]) rfl ⟨rfl, ?_⟩
    exact (hB1.setCell hle _).setCell hle _
  by_cases q8 : idx < 0
  · obtain rfl := hub (by omega)
    clear hrs hsb hx hsz
    have hbr := bare_of 2 ((w.alloc (.cells #[.int .i64 id, .int .i64 par, .int .i64 seq, .int .i64 day, .int .i64 idx, .string op, vf] 52)).alloc (.cells #[.int .i64 0, .int .i64 0] 30))
    go_enter Tryz.func33, Tryz.ntmps33
    go_wp2_with fail
    generalize (w.alloc (.cells #[.int .i64 id, .int .i64 par, .int .i64 seq, .int .i64 day, .int .i64 idx, .string op, vf] 52)).alloc (.cells #[.int .i64 0, .int .i64 0] 30) = WA at hbr hfc hal ⊢
    refine hbr.mono ?_
    rintro e w1 ⟨rfl, hb1⟩
    clear hbr
    have hf1 := hfc.below hb1
    have hB1 : Below w.heap.size w w1 := hal.trans (hb1.mono hal.size)
    have j0 := hf1.c0
    have j1 := hf1.c1
    have jz := hf1.fz
    clear hfc hal hb1
    go_wp2
    refine bodyPost_ret (v := .agg #[.int .i64 2, .int .i64 (-1)]) (by simp [results, Tryz.results33, go_sem, j0, j1]) rfl ⟨rfl, ?_⟩
    exact (hB1.setCell hle _).setCell hle _
  by_cases q9 : 1073741824 < idx
  · obtain rfl := hub (by omega)
    clear hrs hsb hx hsz
    have hbr := bare_of 2 ((w.alloc (.cells #[.int .i64 id, .int .i64 par, .int .i64 seq, .int .i64 day, .int .i64 idx, .string op, vf] 52)).alloc (.cells #[.int .i64 0, .int .i64 0] 30))
    go_enter Tryz.func33, Tryz.ntmps33
    go_wp2_with fail
    generalize (w.alloc (.cells #[.int .i64 id, .int .i64 par, .int .i64 seq, .int .i64 day, .int .i64 idx, .string op, vf] 52)).alloc (.cells #[.int .i64 0, .int .i64 0] 30) = WA at hbr hfc hal ⊢
    refine hbr.mono ?_
    rintro e w1 ⟨rfl, hb1⟩
    clear hbr
    have hf1 := hfc.below hb1
    have hB1 : Below w.heap.size w w1 := hal.trans (hb1.mono hal.size)
    have j0 := hf1.c0
    have j1 := hf1.c1
    have jz := hf1.fz
    clear hfc hal hb1
    go_wp2
    refine bodyPost_ret (v := .agg #[.int .i64 2, .int .i64 (-1)]) (by simp [results, Tryz.results33, go_sem, j0, j1]) rfl ⟨rfl, ?_⟩
    exact (hB1.setCell hle _).setCell hle _
  obtain rfl : SBB = true := hsb.2 (by omega)
  obtain ⟨hop0, hop1⟩ := hrs rfl
  clear hub hsb hrs
  have hit := inTexts_any op (w.heap.size + 1 + 1) 4 [⟨#[115, 116, 97, 114, 116]⟩, ⟨#[97, 112, 112, 101, 110, 100]⟩, ⟨#[100, 101, 108, 101, 116, 101]⟩, ⟨#[114, 101, 119, 114, 105, 116, 101]⟩] (((w.alloc (.cells #[.int .i64 id, .int .i64 par, .int .i64 seq, .int .i64 day, .int .i64 idx, .string op, vf] 52)).alloc (.cells #[.int .i64 0, .int .i64 0] 30)).alloc (.cells #[.string ⟨#[115, 116, 97, 114, 116]⟩, .string ⟨#[97, 112, 112, 101, 110, 100]⟩, .string ⟨#[100, 101, 108, 101, 116, 101]⟩, .string ⟨#[114, 101, 119, 114, 105, 116, 101]⟩] 9)) (fun j hj => by
    have hs2 : ((w.alloc (.cells #[.int .i64 id, .int .i64 par, .int .i64 seq, .int .i64 day, .int .i64 idx, .string op, vf] 52)).alloc (.cells #[.int .i64 0, .int .i64 0] 30)).heap.size = w.heap.size + 1 + 1 := by simp
    have hb : (((w.alloc (.cells #[.int .i64 id, .int .i64 par, .int .i64 seq, .int .i64 day, .int .i64 idx, .string op, vf] 52)).alloc (.cells #[.int .i64 0, .int .i64 0] 30)).alloc (.cells #[.string ⟨#[115, 116, 97, 114, 116]⟩, .string ⟨#[97, 112, 112, 101, 110, 100]⟩, .string ⟨#[100, 101, 108, 101, 116, 101]⟩, .string ⟨#[114, 101, 119, 114, 105, 116, 101]⟩] 9)).heap[w.heap.size + 1 + 1]? = some (.cells #[.string ⟨#[115, 116, 97, 114, 116]⟩, .string ⟨#[97, 112, 112, 101, 110, 100]⟩, .string ⟨#[100, 101, 108, 101, 116, 101]⟩, .string ⟨#[114, 101, 119, 114, 105, 116, 101]⟩] 9 (0, 0)) := by
      have := heap_alloc_new ((w.alloc (.cells #[.int .i64 id, .int .i64 par, .int .i64 seq, .int .i64 day, .int .i64 idx, .string op, vf] 52)).alloc (.cells #[.int .i64 0, .int .i64 0] 30)) (.cells #[.string ⟨#[115, 116, 97, 114, 116]⟩, .string ⟨#[97, 112, 112, 101, 110, 100]⟩, .string ⟨#[100, 101, 108, 101, 116, 101]⟩, .string ⟨#[114, 101, 119, 114, 105, 116, 101]⟩] 9)
      rw [hs2] at this
      exact this
    rw [cell_of_row _ _ _ _ _ _ hb]
    obtain rfl | rfl | rfl | rfl : j = 0 ∨ j = 1 ∨ j = 2 ∨ j = 3 := by simp at hj; omega
    all_goals rfl) (by simp)
  rw [op_mem] at hit
  have hB2 : Below w.heap.size w (((w.alloc (.cells #[.int .i64 id, .int .i64 par, .int .i64 seq, .int .i64 day, .int .i64 idx, .string op, vf] 52)).alloc (.cells #[.int .i64 0, .int .i64 0] 30)).alloc (.cells #[.string ⟨#[115, 116, 97, 114, 116]⟩, .string ⟨#[97, 112, 112, 101, 110, 100]⟩, .string ⟨#[100, 101, 108, 101, 116, 101]⟩, .string ⟨#[114, 101, 119, 114, 105, 116, 101]⟩] 9)) := hal.alloc hal.size _
  have h12 : Below ((w.alloc (.cells #[.int .i64 id, .int .i64 par, .int .i64 seq, .int .i64 day, .int .i64 idx, .string op, vf] 52)).alloc (.cells #[.int .i64 0, .int .i64 0] 30)).heap.size ((w.alloc (.cells #[.int .i64 id, .int .i64 par, .int .i64 seq, .int .i64 day, .int .i64 idx, .string op, vf] 52)).alloc (.cells #[.int .i64 0, .int .i64 0] 30)) (((w.alloc (.cells #[.int .i64 id, .int .i64 par, .int .i64 seq, .int .i64 day, .int .i64 idx, .string op, vf] 52)).alloc (.cells #[.int .i64 0, .int .i64 0] 30)).alloc (.cells #[.string ⟨#[115, 116, 97, 114, 116]⟩, .string ⟨#[97, 112, 112, 101, 110, 100]⟩, .string ⟨#[100, 101, 108, 101, 116, 101]⟩, .string ⟨#[114, 101, 119, 114, 105, 116, 101]⟩] 9)) := (Below.refl _ _).alloc (Nat.le_refl _) _
  have hsn2 := hsn.below h12
  have hfc2 := hfc.below h12
  have hlf := fun W (hb : Below w.heap.size w W) => listFault_any vf fs W (hx.below hb) hl hsz
  have HXX : Hid (FlsAt w vf fs) := hx
  clear hsn hfc hal h12 hx hsz
  generalize hOB : opB op.data.toList = OB at hit hop0 hop1
  clear hOB
  go_enter Tryz.func33, Tryz.ntmps33
  go_wp2_with fail
  generalize ((w.alloc (.cells #[.int .i64 id, .int .i64 par, .int .i64 seq, .int .i64 day, .int .i64 idx, .string op, vf] 52)).alloc (.cells #[.int .i64 0, .int .i64 0] 30)).alloc (.cells #[.string ⟨#[115, 116, 97, 114, 116]⟩, .string ⟨#[97, 112, 112, 101, 110, 100]⟩, .string ⟨#[100, 101, 108, 101, 116, 101]⟩, .string ⟨#[114, 101, 119, 114, 105, 116, 101]⟩] 9) = W2 at hit hB2 hsn2 hfc2 ⊢
  refine hit.mono ?_
  rintro e w1 ⟨rfl, rfl⟩
  clear hit
  cases OB with
  | false =>
    obtain rfl := hop0 rfl
    clear hop0 hop1 hlf hsn2
    have hbr := bare_of 4 w1
    go_wp2_with fail
    refine hbr.mono ?_
    rintro e w2 ⟨rfl, hb2⟩
    clear hbr
    have hf1 := hfc2.below hb2
    have hB3 : Below w.heap.size w w2 := hB2.trans (hb2.mono hB2.size)
    have j0 := hf1.c0
    have j1 := hf1.c1
    have jz := hf1.fz
    clear hfc2 hB2 hb2
    go_wp2
    refine bodyPost_ret (v := .agg #[.int .i64 4, .int .i64 (-1)]) (by simp [results, Tryz.results33, go_sem, j0, j1]) rfl ⟨rfl, ?_⟩
    exact (hB3.setCell hle _).setCell hle _
  | true =>
    obtain ⟨hl1, hl2⟩ := hop1 rfl
    clear hop0 hop1
    have hlf1 := hlf w1 hB2
    clear hlf
    have z6 := hsn2.cells.2.2.2.2.2.2
    generalize hLE : listE fs = LE at hl1 hl2 hlf1
    obtain ⟨EC, EA⟩ := LE
    dsimp only at hl1 hl2 hlf1
    clear hLE
    obtain ⟨qf, cf, hvf⟩ := HXX.out.form
    subst hvf
    obtain ⟨L, hL⟩ : ∃ L, fs.length = L := ⟨_, rfl⟩
    have HL : Hid (fs.length = L) := hL
    rw [hL] at hlf1 z6 hl
    have hsn2' : SnAt w1 w.heap.size (id, par, seq, day, idx, op, fs) (.slice qf L cf) := by rw [← hL]; exact hsn2
    clear hsn2 hL
    go_wp2_with fail
    refine hlf1.mono ?_
    rintro e w2 ⟨rfl, hb2⟩
    clear hlf1 z6
    have hB3 : Below w.heap.size w w2 := hB2.trans (hb2.mono hB2.size)
    have hsn3 := hsn2'.below hb2
    have hfc3 := hfc2.below hb2
    clear hsn2' hfc2 hB2 hb2
    by_cases hE : EC = 0
    · subst hE
      have HRE : Hid (R = seqG seq fs 0) := hl2 rfl
      clear hl1 hl2
      have hal3 : Below w2.heap.size w2 (w2.alloc (.cells #[.int .i64 ((0 : Nat) : Int), .int .i64 (atZ EA)] 30)) := (Below.refl _ _).alloc (Nat.le_refl _) _
      have hB4 : Below w.heap.size w (w2.alloc (.cells #[.int .i64 ((0 : Nat) : Int), .int .i64 (atZ EA)] 30)) := hB3.trans (hal3.mono hB3.size)
      have hsn4 := hsn3.below hal3
      have hfc4 := hfc3.below hal3
      clear hsn3 hfc3 hal3
      go_wp2
      go_loopw [5] (fun k wr => ∃ n : Nat, n ≤ L ∧ k = .int .i64 n ∧ SeqLeft seq fs n ∧ Below w.heap.size w wr ∧ SnAt wr w.heap.size (id, par, seq, day, idx, op, fs) (.slice qf L cf) ∧ FC wr (w.heap.size + 1) 0 0) (fun k _ => L - (intOf k).toNat)
      case atStart => exact ⟨0, by omega, rfl, seqL_zero seq fs, hB4, hsn4, hfc4⟩
      case round =>
        clear hB4 hsn4 hfc4
        obtain ⟨n, hn, rfl, hsl, hb, hsn, hfc⟩ := hrel
        have HSL : Hid (SeqLeft seq fs n) := hsl
        have HSN : Hid (SnAt wr w.heap.size (id, par, seq, day, idx, op, fs) (.slice qf L cf)) := hsn
        have HFC : Hid (FC wr (w.heap.size + 1) 0 0) := hfc
        obtain ⟨-, -, z2, -, -, -, z6⟩ := hsn.cells
        dsimp only at z2
        clear hsl hsn hfc
        by_cases hlt : n < L
        · have hltx : n < fs.length := by rw [HL.out]; exact hlt
          obtain ⟨b, o, hq, hc⟩ := (HXX.out.below hb).cells (fun e => by rw [e] at hltx; simp at hltx)
          subst hq
          have c5 := (hc n hltx).2.2.2.2.2
          have hbad := fun e => seqL_bad HSL.out hltx e
          have hnxt := fun e => seqL_succ HSL.out hltx e
          generalize fs[n].2.2.2.2.2 = z at c5 hbad hnxt
          have hi : (n : Int) < (L : Int) := by omega
          have hi0' : (0 : Int) ≤ (n : Int) := by omega
          clear hc hltx
          go_wp2_with fail
          go_quiet (fail)
          have hbq : Below wr.heap.size wr (wr.drewN nq) := below_drewN (Below.refl _ _) nq
          have hbd : Below w.heap.size w (wr.drewN nq) := below_drewN hb nq
          have HSN2 : Hid (SnAt (wr.drewN nq) w.heap.size (id, par, seq, day, idx, op, fs) (.slice (some ⟨b, o, none⟩) L cf)) := HSN.out.below hbq
          have hfd := HFC.out.below hbq
          have HFC2 : Hid (FC (wr.drewN nq) (w.heap.size + 1) 0 0) := hfd
          clear hbq c5 z2 z6
          generalize wr.drewN nq = W5 at hbd HSN2 hfd HFC2 ⊢
          by_cases hz : seq < z
          · have hRR : R = (9, some n) := by rw [HRE.out]; exact hbad hz
            subst hRR
            have j0 := hfd.c0
            have j1 := hfd.c1
            have jz := hfd.fz
            clear hbad hnxt hfd
            go_wp2
            refine bodyPost_ret (v := .agg #[.int .i64 9, .int .i64 n]) (by simp [results, Tryz.results33, go_sem, j0, j1]) rfl ⟨rfl, ?_⟩
            exact (hbd.setCell hle _).setCell hle _
          · have HNX : Hid (SeqLeft seq fs (n + 1)) := hnxt (by omega)
            clear hbad hnxt hfd
            go_wp2
            go_roundw
            case rel => exact ⟨n + 1, by omega, by go_num, HNX.out, hbd, HSN2.out, HFC2.out⟩
            case measure => simp [intOf]; omega
        · obtain rfl : n = L := by omega
          have hRR : R = (0, none) := by
            rw [HRE.out]
            have h' := HSL.out
            rw [← HL.out] at h'
            exact seqL_all h'
          subst hRR
          have hfi := fine_of wr
          go_wp2_with fail
          refine hfi.mono ?_
          rintro e w5 ⟨rfl, hb5⟩
          clear hfi
          have hb6 : Below w.heap.size w w5 := hb.trans (hb5.mono hb.size)
          have hf5 := HFC.out.below hb5
          have j0 := hf5.c0
          have j1 := hf5.c1
          have jz := hf5.fz
          clear z2 z6
          go_wp2
          refine bodyPost_ret (v := .agg #[.int .i64 0, .int .i64 (-1)]) (by simp [results, Tryz.results33, go_sem, j0, j1]) rfl ⟨rfl, ?_⟩
          exact (hb6.setCell hle _).setCell hle _
    · obtain rfl := hl1 hE
      have hEp : (0 : Int) < (EC : Int) := by omega
      have hal3 : Below w2.heap.size w2 (w2.alloc (.cells #[.int .i64 (EC : Int), .int .i64 (atZ EA)] 30)) := (Below.refl _ _).alloc (Nat.le_refl _) _
      have hB4 : Below w.heap.size w (w2.alloc (.cells #[.int .i64 (EC : Int), .int .i64 (atZ EA)] 30)) := hB3.trans (hal3.mono hB3.size)
      have hf4 := hfc3.below hal3
      have hnew : FC (w2.alloc (.cells #[.int .i64 (EC : Int), .int .i64 (atZ EA)] 30)) w2.heap.size EC (atZ EA) := heap_alloc_new _ _
      have hsz2 : w2.heap.size = w2.heap.size := rfl
      clear hl2 hfc3 hal3 hsn3
      go_upto_region 11 with fail
      generalize w2.alloc (.cells #[.int .i64 (EC : Int), .int .i64 (atZ EA)] 30) = W4 at hB4 hf4 hnew ⊢
      generalize w2.heap.size = F2 at hnew ⊢
      have j0 := hf4.c0
      have j1 := hf4.c1
      have jz := hf4.fz
      have n0 := hnew.c0
      have n1 := hnew.c1
      clear hf4 hnew hsz2
      go_wp2
      refine bodyPost_ret (v := .agg #[.int .i64 (EC : Int), .int .i64 (atZ EA)]) (by simp [results, Tryz.results33, go_sem, j0, j1]) rfl ⟨rfl, ?_⟩
      exact (hB4.setCell hle _).setCell hle _
end Go.Proofs.YtpiagofhgalklacGreatDoor
namespace Go.Proofs.YtpiagofhgalklacGreatDoor
open Go.RowKit Go.Extern.Stop Go.Stop Go.Extern Go.Sort Go.Shelf Go.Lib

theorem ok_sizes {f : Fl} (h : fileE f = 0) : f.1.size ≤ 100 ∧ f.2.1.size ≤ 100 := by
  have hl := file_short h
  unfold fileL at hl
  simp only [List.length_append, List.length_cons, size_list] at hl
  omega

theorem itoa_size {n : Int} (h0 : -1073741824 ≤ n) (h1 : n ≤ 4294967296) : (bytesOf (itoa n)).size ≤ 11 := by rw [bytes_len]; exact itoa_short h0 h1

/-- A number of 64 bits. -/
def inW (n : Int) : Prop := -9223372036854775808 ≤ n ∧ n ≤ 9223372036854775807

set_option maxRecDepth 100000 in
set_option maxHeartbeats 8000000 in
theorem snapText_any (s : Sn) (vf : Value) (w : World) (hx : FlsAt w vf s.2.2.2.2.2.2) (hok : (snapE s).1 = 0) :
    Calls Tryz.prog 35 #[snV s vf] w fun e w' => e = .returned (.string (bytesOf (snapL s))) ∧ Below w.heap.size w w' := by
  obtain ⟨hb, ho, hle, _⟩ := snap_good hok
  obtain ⟨⟨⟨b1, b2⟩, b3, b4⟩, ⟨⟨b5, b6⟩, b7, b8⟩, b9, b10⟩ := sbnd_all.1 hb
  obtain ⟨h60, hr⟩ := listE_ok.1 hle
  have hll := (snap_len hok).2
  have hlt := fun W (hb : Below w.heap.size w W) => listText_any vf s.2.2.2.2.2.2 W (hx.below hb) (by omega) (fun f hf => ⟨(hr.1 f hf).1, (ok_sizes (hr.1 f hf).1).1, (ok_sizes (hr.1 f hf).1).2⟩)
  have hol := op_len ho
  rw [size_list] at hol
  have hsm := sumL_lt (listL s.2.2.2.2.2.2)
  have HSN : Hid (bytesOf (snapL s) = bytesOf (snapH s (sumL (listL s.2.2.2.2.2.2)) ++ 10 :: listL s.2.2.2.2.2.2)) := rfl
  have hso := fun W => sumOf_any (bytesOf (listL s.2.2.2.2.2.2)) W (by rw [bytes_len]; unfold maxLen; omega)
  have eL : (bytesOf (listL s.2.2.2.2.2.2)).data.toList = listL s.2.2.2.2.2.2 := by simp [bytesOf]
  rw [eL] at hso
  have hbl : (bytesOf (listL s.2.2.2.2.2.2)).size ≤ 6060 := by rw [bytes_len]; exact hll
  obtain ⟨id, par, seq, day, idx, op, fs⟩ := s
  unfold snV
  dsimp only at *
  have hal : Below w.heap.size w (w.alloc (.cells #[.int .i64 id, .int .i64 par, .int .i64 seq, .int .i64 day, .int .i64 idx, .string op, vf] 52)) := (Below.refl _ _).alloc (Nat.le_refl _) _
  have hsn : SnAt (w.alloc (.cells #[.int .i64 id, .int .i64 par, .int .i64 seq, .int .i64 day, .int .i64 idx, .string op, vf] 52)) w.heap.size (id, par, seq, day, idx, op, fs) vf := heap_alloc_new _ _
  rw [HSN.out]
  have HT : Hid ((⟨#[115, 110, 97, 112, 32]⟩ : ByteArray) ++ bytesOf (itoa id) ++ ⟨#[32]⟩ ++ bytesOf (itoa par) ++ ⟨#[32]⟩ ++ bytesOf (itoa seq) ++ ⟨#[32]⟩ ++ bytesOf (itoa day) ++ ⟨#[32]⟩ ++ bytesOf (itoa idx) ++ ⟨#[32]⟩ ++ op ++ ⟨#[32]⟩ ++ bytesOf (itoa ((sumL (listL fs) : Nat) : Int)) ++ ⟨#[10]⟩ ++ bytesOf (listL fs) = bytesOf (snapH (id, par, seq, day, idx, op, fs) (sumL (listL fs)) ++ 10 :: listL fs)) := by
    show _ = _
    rw [← bytesOf_data ((⟨#[115, 110, 97, 112, 32]⟩ : ByteArray) ++ bytesOf (itoa id) ++ ⟨#[32]⟩ ++ bytesOf (itoa par) ++ ⟨#[32]⟩ ++ bytesOf (itoa seq) ++ ⟨#[32]⟩ ++ bytesOf (itoa day) ++ ⟨#[32]⟩ ++ bytesOf (itoa idx) ++ ⟨#[32]⟩ ++ op ++ ⟨#[32]⟩ ++ bytesOf (itoa ((sumL (listL fs) : Nat) : Int)) ++ ⟨#[10]⟩ ++ bytesOf (listL fs))]
    congr 1
    simp [snapH, kSnap, bytesOf, ByteArray.data_append]
  rw [← HT.out]
  have s1 := itoa_size (n := id) (by omega) (by omega)
  have s2 := itoa_size (n := par) (by omega) (by omega)
  have s3 := itoa_size (n := seq) (by omega) (by omega)
  have s4 := itoa_size (n := day) (by omega) (by omega)
  have s5 := itoa_size (n := idx) (by omega) (by omega)
  have s6 := itoa_size (n := ((sumL (listL fs) : Nat) : Int)) (by omega) (by omega)
  have i1 : inW id := ⟨by omega, by omega⟩
  have i2 : inW par := ⟨by omega, by omega⟩
  have i3 : inW seq := ⟨by omega, by omega⟩
  have i4 : inW day := ⟨by omega, by omega⟩
  have i5 : inW idx := ⟨by omega, by omega⟩
  have i6 : inW ((sumL (listL fs) : Nat) : Int) := ⟨by omega, by omega⟩
  clear HSN HT hb ho hle hr hok eL hsm hll h60 b1 b2 b3 b4 b5 b6 b7 b8 b9 b10
  obtain ⟨qf, cf, hvf⟩ := hx.form
  subst hvf
  generalize fs.length = L at *
  generalize sumL (listL fs) = SM at *
  generalize bytesOf (listL fs) = bd at *
  have n0 : ¬ 9223372036854775807 < 5 + (bytesOf (itoa id)).size := by omega
  have n1 : ¬ 9223372036854775802 < (bytesOf (itoa id)).size := by omega
  have n2 : ¬ 9223372036854775806 < 5 + (bytesOf (itoa id)).size := by omega
  have n3 : ¬ 9223372036854775807 < 5 + (bytesOf (itoa id)).size + 1 := by omega
  have n4 : ¬ 9223372036854775807 < 5 + (bytesOf (itoa id)).size + 1 + (bytesOf (itoa par)).size := by omega
  have n5 : ¬ 9223372036854775806 < 5 + (bytesOf (itoa id)).size + 1 + (bytesOf (itoa par)).size := by omega
  have n6 : ¬ 9223372036854775807 < 5 + (bytesOf (itoa id)).size + 1 + (bytesOf (itoa par)).size + 1 := by omega
  have n7 : ¬ 9223372036854775807 < 5 + (bytesOf (itoa id)).size + 1 + (bytesOf (itoa par)).size + 1 + (bytesOf (itoa seq)).size := by omega
  have n8 : ¬ 9223372036854775806 < 5 + (bytesOf (itoa id)).size + 1 + (bytesOf (itoa par)).size + 1 + (bytesOf (itoa seq)).size := by omega
  have n9 : ¬ 9223372036854775807 < 5 + (bytesOf (itoa id)).size + 1 + (bytesOf (itoa par)).size + 1 + (bytesOf (itoa seq)).size + 1 := by omega
  have n10 : ¬ 9223372036854775807 < 5 + (bytesOf (itoa id)).size + 1 + (bytesOf (itoa par)).size + 1 + (bytesOf (itoa seq)).size + 1 + (bytesOf (itoa day)).size := by omega
  have n11 : ¬ 9223372036854775806 < 5 + (bytesOf (itoa id)).size + 1 + (bytesOf (itoa par)).size + 1 + (bytesOf (itoa seq)).size + 1 + (bytesOf (itoa day)).size := by omega
  have n12 : ¬ 9223372036854775807 < 5 + (bytesOf (itoa id)).size + 1 + (bytesOf (itoa par)).size + 1 + (bytesOf (itoa seq)).size + 1 + (bytesOf (itoa day)).size + 1 := by omega
  have n13 : ¬ 9223372036854775807 < 5 + (bytesOf (itoa id)).size + 1 + (bytesOf (itoa par)).size + 1 + (bytesOf (itoa seq)).size + 1 + (bytesOf (itoa day)).size + 1 + (bytesOf (itoa idx)).size := by omega
  have n14 : ¬ 9223372036854775806 < 5 + (bytesOf (itoa id)).size + 1 + (bytesOf (itoa par)).size + 1 + (bytesOf (itoa seq)).size + 1 + (bytesOf (itoa day)).size + 1 + (bytesOf (itoa idx)).size := by omega
  have n15 : ¬ 9223372036854775807 < 5 + (bytesOf (itoa id)).size + 1 + (bytesOf (itoa par)).size + 1 + (bytesOf (itoa seq)).size + 1 + (bytesOf (itoa day)).size + 1 + (bytesOf (itoa idx)).size + 1 := by omega
  have n16 : ¬ 9223372036854775807 < 5 + (bytesOf (itoa id)).size + 1 + (bytesOf (itoa par)).size + 1 + (bytesOf (itoa seq)).size + 1 + (bytesOf (itoa day)).size + 1 + (bytesOf (itoa idx)).size + 1 + op.size := by omega
  have n17 : ¬ 9223372036854775806 < 5 + (bytesOf (itoa id)).size + 1 + (bytesOf (itoa par)).size + 1 + (bytesOf (itoa seq)).size + 1 + (bytesOf (itoa day)).size + 1 + (bytesOf (itoa idx)).size + 1 + op.size := by omega
  have n18 : ¬ 9223372036854775807 < 5 + (bytesOf (itoa id)).size + 1 + (bytesOf (itoa par)).size + 1 + (bytesOf (itoa seq)).size + 1 + (bytesOf (itoa day)).size + 1 + (bytesOf (itoa idx)).size + 1 + op.size + 1 := by omega
  have n19 : ¬ 9223372036854775807 < 5 + (bytesOf (itoa id)).size + 1 + (bytesOf (itoa par)).size + 1 + (bytesOf (itoa seq)).size + 1 + (bytesOf (itoa day)).size + 1 + (bytesOf (itoa idx)).size + 1 + op.size + 1 + (bytesOf (itoa (SM : Int))).size := by omega
  have n20 : ¬ 9223372036854775806 < 5 + (bytesOf (itoa id)).size + 1 + (bytesOf (itoa par)).size + 1 + (bytesOf (itoa seq)).size + 1 + (bytesOf (itoa day)).size + 1 + (bytesOf (itoa idx)).size + 1 + op.size + 1 + (bytesOf (itoa (SM : Int))).size := by omega
  have n21 : ¬ 9223372036854775807 < 5 + (bytesOf (itoa id)).size + 1 + (bytesOf (itoa par)).size + 1 + (bytesOf (itoa seq)).size + 1 + (bytesOf (itoa day)).size + 1 + (bytesOf (itoa idx)).size + 1 + op.size + 1 + (bytesOf (itoa (SM : Int))).size + 1 := by omega
  have n22 : ¬ 9223372036854775807 < 5 + (bytesOf (itoa id)).size + 1 + (bytesOf (itoa par)).size + 1 + (bytesOf (itoa seq)).size + 1 + (bytesOf (itoa day)).size + 1 + (bytesOf (itoa idx)).size + 1 + op.size + 1 + (bytesOf (itoa (SM : Int))).size + 1 + bd.size := by omega
  have hm : Tryz.prog.follows .mixedOrders = true := by kernel_rfl
  go_enter Tryz.func35, Tryz.ntmps35
  go_upto_region 1 with fail
  generalize w.alloc (.cells #[.int .i64 id, .int .i64 par, .int .i64 seq, .int .i64 day, .int .i64 idx, .string op, .slice qf L cf] 52) = WA at hal hsn ⊢
  have z6 := hsn.cells.2.2.2.2.2.2
  have hl1 := hlt WA hal
  clear hlt
  go_wp2_with fail
  refine hl1.mono ?_
  rintro e w1 ⟨rfl, hb1⟩
  clear hl1 z6
  have hB1 : Below w.heap.size w w1 := hal.trans (hb1.mono hal.size)
  obtain ⟨c0, c1, c2, c3, c4, c5, -⟩ := (hsn.below hb1).cells
  dsimp only at c0 c1 c2 c3 c4 c5
  have d0 := fun n os => cell_grown (cell_lt c0) c0 n os
  have d1 := fun n os => cell_grown (cell_lt c1) c1 n os
  have d2 := fun n os => cell_grown (cell_lt c2) c2 n os
  have d3 := fun n os => cell_grown (cell_lt c3) c3 n os
  have d4 := fun n os => cell_grown (cell_lt c4) c4 n os
  have d5 := fun n os => cell_grown (cell_lt c5) c5 n os
  have hI : ∀ m : Int, inW m → ∀ n os, Calls Tryz.prog 70 #[.int .i64 m] (grow (w1.drewN n) os) fun e w' => e = .returned (.string (bytesOf (itoa m))) ∧ ∃ q os', w' = grow ((grow (w1.drewN n) os).drewN q) os' := fun m hm n os => decimal_any m _ hm.1 hm.2
  have hS : ∀ n os, Calls Tryz.prog 71 #[.string bd] (grow (w1.drewN n) os) fun e w' => e = .returned (.int .i64 (SM : Nat)) ∧ ∃ q os', w' = grow ((grow (w1.drewN n) os).drewN q) os' := fun n os => (hso _).mono fun e w' ⟨he, hw⟩ => ⟨he, by rw [hw]; exact Grew.refl _⟩
  clear hsn hso hx s1 s2 s3 s4 s5 s6 hbl hol
  go_wp2_with fail
  go_quiet_grown (first
    | (go_at_call 70; exact Calls.grown_of (hI _ (by assumption) _ _))
    | (go_at_call 71; exact Calls.grown_of (hS _ _)))
  go_wp2
  go_ret
  exact ⟨rfl, hB1.trans ((grow_below nq osq).mono hB1.size)⟩

set_option maxRecDepth 100000 in
set_option maxHeartbeats 2000000 in
theorem sameSnap_yes (s : Sn) (va vb : Value) (w : World) (ha : FlsAt w va s.2.2.2.2.2.2) (hb : FlsAt w vb s.2.2.2.2.2.2) (hl : s.2.2.2.2.2.2.length ≤ 20000) :
    Calls Tryz.prog 31 #[snV s va, snV s vb] w fun e w' => e = .returned (.bool true) ∧ Below w.heap.size w w' := by
  have hsf := fun W (h : Below w.heap.size w W) => sameFiles_yes va vb s.2.2.2.2.2.2 W (ha.below h) (hb.below h) hl
  obtain ⟨qa, ca, rfl⟩ := ha.form
  obtain ⟨qb, cb, rfl⟩ := hb.form
  obtain ⟨id, par, seq, day, idx, op, fs⟩ := s
  unfold snV
  dsimp only at *
  generalize fs.length = L at *
  have hal : Below w.heap.size w ((w.alloc (.cells #[.int .i64 id, .int .i64 par, .int .i64 seq, .int .i64 day, .int .i64 idx, .string op, .slice qa L ca] 52)).alloc (.cells #[.int .i64 id, .int .i64 par, .int .i64 seq, .int .i64 day, .int .i64 idx, .string op, .slice qb L cb] 52)) := ((Below.refl _ _).alloc (Nat.le_refl _) _).alloc (by simp) _
  have hA : SnAt ((w.alloc (.cells #[.int .i64 id, .int .i64 par, .int .i64 seq, .int .i64 day, .int .i64 idx, .string op, .slice qa L ca] 52)).alloc (.cells #[.int .i64 id, .int .i64 par, .int .i64 seq, .int .i64 day, .int .i64 idx, .string op, .slice qb L cb] 52)) w.heap.size (id, par, seq, day, idx, op, fs) (.slice qa L ca) := heap_alloc2_old w _ _
  have hB : SnAt ((w.alloc (.cells #[.int .i64 id, .int .i64 par, .int .i64 seq, .int .i64 day, .int .i64 idx, .string op, .slice qa L ca] 52)).alloc (.cells #[.int .i64 id, .int .i64 par, .int .i64 seq, .int .i64 day, .int .i64 idx, .string op, .slice qb L cb] 52)) (w.heap.size + 1) (id, par, seq, day, idx, op, fs) (.slice qb L cb) := heap_alloc2_new w _ _
  have hs1 := hsf _ hal
  clear hsf ha hb
  obtain ⟨a0, a1, a2, a3, a4, a5, a6⟩ := hA.cells
  obtain ⟨b0, b1, b2, b3, b4, b5, b6⟩ := hB.cells
  dsimp only at a0 a1 a2 a3 a4 a5 b0 b1 b2 b3 b4 b5
  have d1 : (op.toList == op.toList) = true := by simp
  clear hA hB
  go_enter Tryz.func31, Tryz.ntmps31
  go_upto_region 1 with fail
  generalize (w.alloc (.cells #[.int .i64 id, .int .i64 par, .int .i64 seq, .int .i64 day, .int .i64 idx, .string op, .slice qa L ca] 52)).alloc (.cells #[.int .i64 id, .int .i64 par, .int .i64 seq, .int .i64 day, .int .i64 idx, .string op, .slice qb L cb] 52) = WA at hal hs1 a0 a1 a2 a3 a4 a5 a6 b0 b1 b2 b3 b4 b5 b6 ⊢
  go_wp2_with fail
  refine hs1.mono ?_
  rintro e w1 ⟨rfl, hb1⟩
  clear hs1
  go_wp2
  go_ret
  exact ⟨rfl, hal.trans (hb1.mono hal.size)⟩
end Go.Proofs.YtpiagofhgalklacGreatDoor
namespace Go.Proofs.YtpiagofhgalklacGreatDoor
open Go.RowKit Go.Extern.Stop Go.Stop Go.Extern Go.Sort Go.Shelf Go.Lib

theorem SnAt.fz {W : World} {b : Nat} {s : Sn} {vf : Value} (h : SnAt W b s vf) (o : Nat) : W.frozen? ⟨b, o, none⟩ = false := frozen_of_row _ _ _ _ _ h

/-- A store over a snap's block. -/
def snSet (W : World) (b : Nat) (s : Sn) (vf : Value) : World := ((((((W.setCell ⟨b, 0, none⟩ (.int .i64 s.1)).setCell ⟨b, 1, none⟩ (.int .i64 s.2.1)).setCell ⟨b, 2, none⟩ (.int .i64 s.2.2.1)).setCell ⟨b, 3, none⟩ (.int .i64 s.2.2.2.1)).setCell ⟨b, 4, none⟩ (.int .i64 s.2.2.2.2.1)).setCell ⟨b, 5, none⟩ (.string s.2.2.2.2.2.1)).setCell ⟨b, 6, none⟩ vf
theorem SnAt.set {W : World} {b : Nat} {s : Sn} {vf : Value} (h : SnAt W b s vf) (s' : Sn) (vf' : Value) : SnAt (snSet W b s' vf') b s' vf' := by
  unfold SnAt snSet at *
  rw [heap_setCell_same _ _ _ _ _ _ (heap_setCell_same _ _ _ _ _ _ (heap_setCell_same _ _ _ _ _ _ (heap_setCell_same _ _ _ _ _ _ (heap_setCell_same _ _ _ _ _ _ (heap_setCell_same _ _ _ _ _ _ (heap_setCell_same _ _ _ _ _ _ h))))))]
  rfl
theorem snSet_below {W W0 : World} {B b : Nat} {s : Sn} {vf : Value} (h : Below B W0 W) (hb : B ≤ b) : Below B W0 (snSet W b s vf) := ((((((h.setCell hb _).setCell hb _).setCell hb _).setCell hb _).setCell hb _).setCell hb _).setCell hb _

theorem sn_other {W : World} {F G : Nat} {s : Sn} {vf : Value} (h : SnAt W F s vf) (hne : G ≠ F) (o : Nat) (z : Value) : SnAt (W.setCell ⟨G, o, none⟩ z) F s vf := (heap_setCell_other _ _ _ _ (fun e => hne e.symm)).trans h

/-- Files lie in no snap's block. -/
def OffF (v : Value) (fs : List Fl) (R : Nat) : Prop := ∀ b o c n, v = .slice (some ⟨b, o, none⟩) n c → fs ≠ [] → b ≠ R

theorem off_of {W : World} {R : Nat} {s : Sn} {q : Option Addr} {n c : Nat} {v : Value} {fs : List Fl} (h : SnAt W R s (.slice q n c)) (hr : FlsAt W v fs) : OffF v fs R := by
  intro b o c' n' hv hne e
  subst e
  rcases hr with ⟨_, _, _, _, e⟩ | ⟨b2, o2, c2, e2, _, hc⟩
  · exact hne e
  · rw [e2] at hv
    injection hv with e3
    injection e3 with e3
    injection e3 with e3 e4
    subst e3
    subst e4
    obtain ⟨h0, h1, _⟩ := hc 0 (List.length_pos_iff.2 hne)
    rw [cell_of_row _ _ _ _ _ _ h] at h0 h1
    simp only [Nat.zero_mul, Nat.add_zero] at h0 h1
    match o2, h0, h1 with
    | 0, h0, _ => simp at h0
    | 1, h0, _ => simp at h0
    | 2, h0, _ => simp at h0
    | 3, h0, _ => simp at h0
    | 4, h0, _ => simp at h0
    | 5, _, h1 => simp at h1
    | 6, h0, _ => simp at h0
    | k + 7, h0, _ => simp at h0

theorem FlsAt.set_off {W : World} {R : Nat} {v : Value} {fs : List Fl} (h : FlsAt W v fs) (ho : OffF v fs R) (k : Nat) (z : Value) : FlsAt (W.setCell ⟨R, k, none⟩ z) v fs := by
  rcases h with h | ⟨b, o, c, hv, hl, hc⟩
  · exact Or.inl h
  · by_cases hne : fs = []
    · exact Or.inl ⟨some ⟨b, o, none⟩, c, by rw [hv, hne]; rfl, fun e => (nomatch e), hne⟩
    · have hb := ho b o c _ hv hne
      have hk : ∀ p, (W.setCell ⟨R, k, none⟩ z).cell? ⟨b, p, none⟩ = W.cell? ⟨b, p, none⟩ := fun p => World.cell?_setCell_other _ _ _ _ (by intro e; injection e with e; exact hb e.symm)
      refine Or.inr ⟨b, o, c, hv, hl, fun j hj => ?_⟩
      obtain ⟨h0, h1, h2, h3, h4, h5⟩ := hc j hj
      exact ⟨(hk _).trans h0, (hk _).trans h1, (hk _).trans h2, (hk _).trans h3, (hk _).trans h4, (hk _).trans h5⟩

/-- What ReadSnap hands back. -/
def ReadSP (w : World) (R : Sn × Nat × Option Nat) (e : Ending) (w' : World) : Prop := ∃ vf, e = .returned (.tuple #[snV R.1 vf, .agg #[.int .i64 R.2.1, .int .i64 (atZ R.2.2)]]) ∧ FlsAt w' vf R.1.2.2.2.2.2.2 ∧ Below w.heap.size w w'

theorem readS_big {l : List UInt8} (h : 20000 < l.length) : readS l = (zeroS, 2, none) := by unfold readS; rw [if_pos h]
theorem readS_none {l : List UInt8} (h : ¬ 20000 < l.length) (hc : Lib.cut l [10] = (l, [], false)) : readS l = (zeroS, 1, none) := by unfold readS; rw [if_neg h, hc, if_pos rfl]
theorem readS_cut {l a b : List UInt8} (h : ¬ 20000 < l.length) (hc : Lib.cut l [10] = (a, b, true)) : readS l = match snapO a with
  | none => (zeroS, 1, none)
  | some (x1, x2, x3, x4, x5, op, g) => if g ≠ sumL b then (zeroS, 10, none) else
    if (readL b).2.1 ≠ 0 then (zeroS, (readL b).2) else
    if (snapE (x1, x2, x3, x4, x5, bytesOf op, (readL b).1)).1 ≠ 0 then (zeroS, snapE (x1, x2, x3, x4, x5, bytesOf op, (readL b).1)) else
    ((x1, x2, x3, x4, x5, bytesOf op, (readL b).1), 0, none) := by
  unfold readS
  rw [if_neg h, hc, if_neg (by simp)]
  rfl

theorem snapO_len {a : List UInt8} (h : (words a).length ≠ 8) : snapO a = none := by
  unfold snapO
  split
  · rename_i e; rw [e] at h; simp at h
  · rfl

theorem eight {α : Type} {l : List α} (h : l.length = 8) : ∃ a b c d e f g i, l = [a, b, c, d, e, f, g, i] := by
  match l, h with
  | [a, b, c, d, e, f, g, i], _ => exact ⟨a, b, c, d, e, f, g, i, rfl⟩
theorem five {α : Type} {l : List α} (h : l.length = 5) : ∃ a b c d e, l = [a, b, c, d, e] := by
  match l, h with
  | [a, b, c, d, e], _ => exact ⟨a, b, c, d, e, rfl⟩

theorem snapO_eight {a : List UInt8} {k w1 w2 w3 w4 w5 op w7 : List UInt8} (h : words a = [k, w1, w2, w3, w4, w5, op, w7]) : snapO a = match sixO w1 w2 w3 w4 w5 w7 with
    | some (x1, x2, x3, x4, x5, g) => if k = kSnap then some (x1, x2, x3, x4, x5, op, g) else none
    | none => none := by
  unfold snapO
  rw [h]
  rfl

theorem six_bad {w1 w2 w3 w4 w5 w7 : List UInt8} (h : numO w1 = none ∨ numO w2 = none ∨ numO w3 = none ∨ numO w4 = none ∨ numO w5 = none ∨ numO w7 = none) : sixO w1 w2 w3 w4 w5 w7 = none := by
  unfold sixO
  split
  · rename_i e1 e2 e3 e4 e5 e6
    rw [e1, e2, e3, e4, e5, e6] at h
    simp at h
  · rfl

theorem six_good {w1 w2 w3 w4 w5 w7 : List UInt8} {x1 x2 x3 x4 x5 g : Int} (h1 : numO w1 = some x1) (h2 : numO w2 = some x2) (h3 : numO w3 = some x3) (h4 : numO w4 = some x4) (h5 : numO w5 = some x5) (h7 : numO w7 = some g) : sixO w1 w2 w3 w4 w5 w7 = some (x1, x2, x3, x4, x5, g) := by
  unfold sixO
  rw [h1, h2, h3, h4, h5, h7]

theorem rowsF_good : ∀ (ps : List (List UInt8)) (n : Nat) (acc : List Fl), (∀ g ∈ acc, fileE g = 0) → ∀ g ∈ (rowsG fileK ps n acc).1, fileE g = 0
  | [], n, acc, h => by
    intro g hg
    unfold rowsG at hg
    first | exact h g hg | simp at hg
  | [l], n, acc, h => by
    intro g hg
    rw [rowsF_one] at hg
    split at hg
    · exact h g hg
    · simp at hg
  | l :: l2 :: r, n, acc, h => by
    intro g hg
    rw [rowsF_cons] at hg
    split at hg
    · simp at hg
    · rename_i hr
      split at hg
      · simp at hg
      · refine rowsF_good (l2 :: r) (n + 1) (acc ++ [(readF l).1]) (fun x hx => ?_) g hg
        rw [List.mem_append, List.mem_singleton] at hx
        rcases hx with hx | rfl
        · exact h x hx
        · exact readF_ok l (by simpa using hr)

theorem readL_good (b : List UInt8) : ∀ f ∈ (readL b).1, fileE f = 0 := by
  intro f hf
  rw [readL_def] at hf
  split at hf
  · simp at hf
  · split at hf
    · simp at hf
    · exact rowsF_good (pieces 10 b) 0 [] (by simp) f hf

theorem readL_sizes (b : List UInt8) : ∀ f ∈ (readL b).1, f.1.size ≤ 100000 ∧ f.2.1.size ≤ 100000 := fun f hf => by
  have := ok_sizes (readL_good b f hf)
  omega

theorem readL_len2 (s : List UInt8) : (readL s).1.length ≤ s.length := by
  rw [readL_def]
  split
  · exact Nat.zero_le _
  · split
    · exact Nat.zero_le _
    · rename_i h
      have hp := pieces_count 10 s
      have hne : pieces 10 s ≠ [] := by intro e; rw [e] at hp; simp at hp
      have := rowsG_len fileK (pieces 10 s) 0 [] hne (by simpa using h)
      have hc := List.count_le_length (a := (10 : UInt8)) (l := s)
      simp only [List.length_nil] at this
      show (rowsG fileK (pieces 10 s) 0 []).1.length ≤ _
      omega
end Go.Proofs.YtpiagofhgalklacGreatDoor
