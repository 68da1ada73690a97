/-
  A snap in memory; the contracts of the document's own InTexts and SnapFault.
-/
import Derived.Test.YtpkoefpdpoikkaaGreatDoorRefList3
import Derived.Deep.CutBlock
namespace Go.Proofs.YtpkoefpdpoikkaaGreatDoor
open Go.RowKit Go.Extern.Stop Go.Stop Go.Extern Go.Sort Go.Shelf Go.Lib

def snV (s : Sn) (vf : Value) : Value := .agg #[.int .i64 s.1, .int .i64 s.2.1, .int .i64 s.2.2.1, .int .i64 s.2.2.2.1, .int .i64 s.2.2.2.2.1, .string s.2.2.2.2.2.1, vf]

def SnAt (W : World) (b : Nat) (s : Sn) (vf : Value) : Prop := W.heap[b]? = some (.cells #[.int .i64 s.1, .int .i64 s.2.1, .int .i64 s.2.2.1, .int .i64 s.2.2.2.1, .int .i64 s.2.2.2.2.1, .string s.2.2.2.2.2.1, vf] 74 (0, 0))
theorem SnAt.lt {W : World} {b : Nat} {s : Sn} {vf : Value} (h : SnAt W b s vf) : b < W.heap.size := lt_of_block h
theorem SnAt.below {W W' : World} {b : Nat} {s : Sn} {vf : Value} (h : SnAt W b s vf) (hb : Below W.heap.size W W') : SnAt W' b s vf := (hb.block b h.lt).trans h
theorem SnAt.cells {W : World} {b : Nat} {s : Sn} {vf : Value} (h : SnAt W b s vf) : W.cell? ⟨b, 0, none⟩ = some (.int .i64 s.1) ∧ W.cell? ⟨b, 1, none⟩ = some (.int .i64 s.2.1) ∧ W.cell? ⟨b, 2, none⟩ = some (.int .i64 s.2.2.1) ∧ W.cell? ⟨b, 3, none⟩ = some (.int .i64 s.2.2.2.1) ∧ W.cell? ⟨b, 4, none⟩ = some (.int .i64 s.2.2.2.2.1) ∧ W.cell? ⟨b, 5, none⟩ = some (.string s.2.2.2.2.2.1) ∧ W.cell? ⟨b, 6, none⟩ = some vf := by
  refine ⟨?_, ?_, ?_, ?_, ?_, ?_, ?_⟩ <;> rw [cell_of_row _ _ _ _ _ _ h] <;> rfl
theorem SnAt.new (w : World) (s : Sn) (vf : Value) : SnAt (w.alloc (.cells #[.int .i64 s.1, .int .i64 s.2.1, .int .i64 s.2.2.1, .int .i64 s.2.2.2.1, .int .i64 s.2.2.2.2.1, .string s.2.2.2.2.2.1, vf] 74)) w.heap.size s vf := heap_alloc_new _ _

theorem tx_succ {ts : List ByteArray} {s : ByteArray} {n : Nat} (h : ∀ j (h : j < ts.length), j < n → ts[j] ≠ s) (hn : n < ts.length) (e : ts[n] ≠ s) : ∀ j (h : j < ts.length), j < n + 1 → ts[j] ≠ s := fun j hj hjn => by
  by_cases e' : j = n
  · subst e'; exact e
  · exact h j hj (by omega)

set_option maxRecDepth 100000 in
set_option maxHeartbeats 2000000 in
theorem inTexts_any (s : ByteArray) (b cap : Nat) (ts : List ByteArray) (w : World) (hc : ∀ j (h : j < ts.length), w.cell? ⟨b, j, none⟩ = some (.string ts[j])) (hl : ts.length ≤ 20000) :
    Calls Tryz.prog 107 #[.string s, .slice (some ⟨b, 0, none⟩) ts.length cap] w fun e w' => e = .returned (.bool (ts.any fun t => decide (t = s))) ∧ w' = w := by
  have HC : Hid (∀ j (h : j < ts.length), w.cell? ⟨b, j, none⟩ = some (.string ts[j])) := hc
  obtain ⟨L, hL⟩ : ∃ L, ts.length = L := ⟨_, rfl⟩
  have HX : Hid (ts.length = L) := hL
  rw [hL] at hl ⊢
  generalize hR : (ts.any fun t => decide (t = s)) = R
  have HR : Hid ((ts.any fun t => decide (t = s)) = R) := hR
  clear hL hc hR
  go_enter Tryz.func107, Tryz.ntmps107
  go_wp2
  go_loop [5] (fun k => ∃ n : Nat, n ≤ L ∧ k = .int .i64 n ∧ ∀ j (h : j < ts.length), j < n → ts[j] ≠ s) (fun k => L - (intOf k).toNat)
  case atStart => exact ⟨0, by omega, rfl, fun j h h' => absurd h' (Nat.not_lt_zero _)⟩
  case round =>
    obtain ⟨n, hn, rfl, hno⟩ := hrel
    have HNO : Hid (∀ j (h : j < ts.length), j < n → ts[j] ≠ s) := hno
    clear hno
    by_cases hlt : n < L
    · have hltx : n < ts.length := by rw [HX.out]; exact hlt
      have c0 := HC.out n hltx
      have hi : (n : Int) < (L : Int) := by omega
      have hi0' : (0 : Int) ≤ (n : Int) := by omega
      by_cases he : ts[n] = s
      · have hRR : R = true := by rw [← HR.out]; exact List.any_eq_true.2 ⟨_, List.getElem_mem hltx, decide_eq_true he⟩
        subst hRR
        rw [he] at c0
        have d1 : (s.toList == s.toList) = true := by simp
        clear he hltx
        go_wp2
        go_ret
        exact ⟨rfl, rfl⟩
      · have HN1 : Hid (∀ j (h : j < ts.length), j < n + 1 → ts[j] ≠ s) := tx_succ HNO.out hltx he
        have d1 : (ts[n].toList == s.toList) = false := neBB (fun e => he (part_ext e))
        generalize ts[n] = t at c0 d1
        clear he hltx
        go_wp2
        go_round
        case rel => exact ⟨n + 1, by omega, by go_num, HN1.out⟩
        case measure => simp [intOf]; omega
    · obtain rfl : n = L := by omega
      have hRR : R = false := by
        rw [← HR.out]
        refine List.any_eq_false.2 fun t ht e => ?_
        obtain ⟨j, hj, e'⟩ := List.mem_iff_getElem.1 ht
        exact HNO.out j hj (by rw [← HX.out]; exact hj) (e'.trans (of_decide_eq_true e))
      subst hRR
      go_wp2
      go_ret
      exact ⟨rfl, rfl⟩

theorem op_mem (op : ByteArray) : ([(⟨#[115, 116, 97, 114, 116]⟩ : ByteArray), ⟨#[97, 112, 112, 101, 110, 100]⟩, ⟨#[100, 101, 108, 101, 116, 101]⟩, ⟨#[114, 101, 119, 114, 105, 116, 101]⟩].any fun t => decide (t = op)) = opB op.data.toList := by
  have key : ∀ t : List UInt8, (⟨t.toArray⟩ : ByteArray) = op ↔ op.data.toList = t := fun t => by
    constructor
    · rintro rfl; simp
    · intro h
      have : bytesOf op.data.toList = bytesOf t := by rw [h]
      rw [bytesOf_data] at this
      exact this.symm
  have e1 := key kStart
  have e2 := key kAppend
  have e3 := key kDelete
  have e4 := key kRewrite
  rw [Bool.eq_iff_iff]
  simp only [opB, List.any_cons, List.any_nil, Bool.or_false, Bool.or_eq_true, decide_eq_true_eq]
  constructor
  · rintro (h | h | h | h)
    · exact Or.inl (Or.inl (Or.inl (e1.1 h)))
    · exact Or.inl (Or.inl (Or.inr (e2.1 h)))
    · exact Or.inl (Or.inr (e3.1 h))
    · exact Or.inr (e4.1 h)
  · rintro (((h | h) | h) | h)
    · exact Or.inl (e1.2 h)
    · exact Or.inr (Or.inl (e2.2 h))
    · exact Or.inr (Or.inr (Or.inl (e3.2 h)))
    · exact Or.inr (Or.inr (Or.inr (e4.2 h)))

theorem snap_unbound {s : Sn} (h : s.1 < 1 ∨ 1073741824 < s.1 ∨ s.2.1 < 0 ∨ s.1 ≤ s.2.1 ∨ s.2.2.1 < 0 ∨ 1073741824 < s.2.2.1 ∨ s.2.2.2.1 < 0 ∨ 100000 < s.2.2.2.1 ∨ s.2.2.2.2.1 < 0 ∨ 1073741824 < s.2.2.2.2.1) : snapE s = (2, none) := by
  unfold snapE
  rw [if_pos]
  cases hb : sbndB s with
  | false => rfl
  | true =>
    have := sbnd_all.1 hb
    omega

def SeqLeft (seq : Int) (fs : List Fl) (n : Nat) : Prop := seqG seq fs 0 = seqG seq (fs.drop n) n
theorem seqL_zero (seq : Int) (fs : List Fl) : SeqLeft seq fs 0 := rfl
theorem seqL_bad {seq : Int} {fs : List Fl} {n : Nat} (h : SeqLeft seq fs n) (hn : n < fs.length) (e : seq < fs[n].2.2.2.2.2) : seqG seq fs 0 = (9, some n) := by
  unfold SeqLeft at h
  rw [h, List.drop_eq_getElem_cons hn]
  unfold seqG
  rw [if_pos e]
theorem seqL_succ {seq : Int} {fs : List Fl} {n : Nat} (h : SeqLeft seq fs n) (hn : n < fs.length) (e : ¬ seq < fs[n].2.2.2.2.2) : SeqLeft seq fs (n + 1) := by
  unfold SeqLeft at h ⊢
  rw [h]
  conv => lhs; rw [List.drop_eq_getElem_cons hn]
  conv => lhs; unfold seqG
  rw [if_neg e]
theorem seqL_all {seq : Int} {fs : List Fl} (h : SeqLeft seq fs fs.length) : seqG seq fs 0 = (0, none) := by
  unfold SeqLeft at h
  rw [h, List.drop_length]
  rfl

theorem snapE_rest {s : Sn} (hb : sbndB s = true) : (opB s.2.2.2.2.2.1.data.toList = false → snapE s = (4, none)) ∧ (opB s.2.2.2.2.2.1.data.toList = true → ((listE s.2.2.2.2.2.2).1 ≠ 0 → snapE s = listE s.2.2.2.2.2.2) ∧ ((listE s.2.2.2.2.2.2).1 = 0 → snapE s = seqG s.2.2.1 s.2.2.2.2.2.2 0)) := by
  unfold snapE
  rw [if_neg (by rw [hb]; simp)]
  refine ⟨fun h => by rw [if_pos h], fun h => ⟨fun h1 => ?_, fun h1 => ?_⟩⟩
  · rw [if_neg (by rw [h]; simp), if_pos h1]
  · rw [if_neg (by rw [h]; simp), if_neg (by simpa using h1)]

set_option maxRecDepth 100000 in
set_option maxHeartbeats 16000000 in
theorem snapFault_any (s : Sn) (vf : Value) (w : World) (hx : FlsAt w vf s.2.2.2.2.2.2) (hl : s.2.2.2.2.2.2.length ≤ 20000) (hsz : ∀ f ∈ s.2.2.2.2.2.2, f.1.size ≤ 100000 ∧ f.2.1.size ≤ 100000) :
    Calls Tryz.prog 51 #[snV s vf] w fun e w' => e = .returned (.agg #[.int .i64 (snapE s).1, .int .i64 (atZ (snapE s).2)]) ∧ Below w.heap.size w w' := by
  have hub := @snap_unbound s
  have hrs := @snapE_rest s
  have hsb := @sbnd_all s
  obtain ⟨id, par, seq, day, idx, op, fs⟩ := s
  unfold snV
  dsimp only at hx hl hsz hub hrs hsb ⊢
  have hal : Below w.heap.size w ((w.alloc (.cells #[.int .i64 id, .int .i64 par, .int .i64 seq, .int .i64 day, .int .i64 idx, .string op, vf] 74)).alloc (.cells #[.int .i64 0, .int .i64 0] 64)) := ((Below.refl _ _).alloc (Nat.le_refl _) _).alloc (by simp) _
  have hsn : SnAt ((w.alloc (.cells #[.int .i64 id, .int .i64 par, .int .i64 seq, .int .i64 day, .int .i64 idx, .string op, vf] 74)).alloc (.cells #[.int .i64 0, .int .i64 0] 64)) w.heap.size (id, par, seq, day, idx, op, fs) vf := heap_alloc2_old w _ _
  have hfc : FC ((w.alloc (.cells #[.int .i64 id, .int .i64 par, .int .i64 seq, .int .i64 day, .int .i64 idx, .string op, vf] 74)).alloc (.cells #[.int .i64 0, .int .i64 0] 64)) (w.heap.size + 1) 0 0 := heap_alloc2_new w _ _
  generalize hR : snapE (id, par, seq, day, idx, op, fs) = R at hub hrs ⊢
  generalize hSB : sbndB (id, par, seq, day, idx, op, fs) = SBB at hrs hsb
  clear hR hSB
  have hle : w.heap.size ≤ w.heap.size + 1 := Nat.le_succ _
  by_cases q0 : id < 1
  · obtain rfl := hub (by omega)
    clear hrs hsb hx hsz
    have hbr := bare_of 2 ((w.alloc (.cells #[.int .i64 id, .int .i64 par, .int .i64 seq, .int .i64 day, .int .i64 idx, .string op, vf] 74)).alloc (.cells #[.int .i64 0, .int .i64 0] 64))
    go_enter Tryz.func51, Tryz.ntmps51
    go_wp2_with fail
    generalize (w.alloc (.cells #[.int .i64 id, .int .i64 par, .int .i64 seq, .int .i64 day, .int .i64 idx, .string op, vf] 74)).alloc (.cells #[.int .i64 0, .int .i64 0] 64) = WA at hbr hfc hal ⊢
    refine hbr.mono ?_
    rintro e w1 ⟨rfl, hb1⟩
    clear hbr
    have hf1 := hfc.below hb1
    have hB1 : Below w.heap.size w w1 := hal.trans (hb1.mono hal.size)
    have j0 := hf1.c0
    have j1 := hf1.c1
    have jz := hf1.fz
    clear hfc hal hb1
    go_wp2
    refine bodyPost_ret (v := .agg #[.int .i64 2, .int .i64 (-1)]) (by simp [results, Tryz.results51, go_sem, j0, j1]) rfl ⟨rfl, ?_⟩
    exact (hB1.setCell hle _).setCell hle _
  by_cases q1 : 1073741824 < id
  · obtain rfl := hub (by omega)
    clear hrs hsb hx hsz
    have hbr := bare_of 2 ((w.alloc (.cells #[.int .i64 id, .int .i64 par, .int .i64 seq, .int .i64 day, .int .i64 idx, .string op, vf] 74)).alloc (.cells #[.int .i64 0, .int .i64 0] 64))
    go_enter Tryz.func51, Tryz.ntmps51
    go_wp2_with fail
    generalize (w.alloc (.cells #[.int .i64 id, .int .i64 par, .int .i64 seq, .int .i64 day, .int .i64 idx, .string op, vf] 74)).alloc (.cells #[.int .i64 0, .int .i64 0] 64) = WA at hbr hfc hal ⊢
    refine hbr.mono ?_
    rintro e w1 ⟨rfl, hb1⟩
    clear hbr
    have hf1 := hfc.below hb1
    have hB1 : Below w.heap.size w w1 := hal.trans (hb1.mono hal.size)
    have j0 := hf1.c0
    have j1 := hf1.c1
    have jz := hf1.fz
    clear hfc hal hb1
    go_wp2
    refine bodyPost_ret (v := .agg #[.int .i64 2, .int .i64 (-1)]) (by simp [results, Tryz.results51, go_sem, j0, j1]) rfl ⟨rfl, ?_⟩
    exact (hB1.setCell hle _).setCell hle _
  by_cases q2 : par < 0
  · obtain rfl := hub (by omega)
    clear hrs hsb hx hsz
    have hbr := bare_of 2 ((w.alloc (.cells #[.int .i64 id, .int .i64 par, .int .i64 seq, .int .i64 day, .int .i64 idx, .string op, vf] 74)).alloc (.cells #[.int .i64 0, .int .i64 0] 64))
    go_enter Tryz.func51, Tryz.ntmps51
    go_wp2_with fail
    generalize (w.alloc (.cells #[.int .i64 id, .int .i64 par, .int .i64 seq, .int .i64 day, .int .i64 idx, .string op, vf] 74)).alloc (.cells #[.int .i64 0, .int .i64 0] 64) = WA at hbr hfc hal ⊢
    refine hbr.mono ?_
    rintro e w1 ⟨rfl, hb1⟩
    clear hbr
    have hf1 := hfc.below hb1
    have hB1 : Below w.heap.size w w1 := hal.trans (hb1.mono hal.size)
    have j0 := hf1.c0
    have j1 := hf1.c1
    have jz := hf1.fz
    clear hfc hal hb1
    go_wp2
    refine bodyPost_ret (v := .agg #[.int .i64 2, .int .i64 (-1)]) (by simp [results, Tryz.results51, go_sem, j0, j1]) rfl ⟨rfl, ?_⟩
    exact (hB1.setCell hle _).setCell hle _
  by_cases q3 : id ≤ par
  · obtain rfl := hub (by omega)
    clear hrs hsb hx hsz
    have hbr := bare_of 2 ((w.alloc (.cells #[.int .i64 id, .int .i64 par, .int .i64 seq, .int .i64 day, .int .i64 idx, .string op, vf] 74)).alloc (.cells #[.int .i64 0, .int .i64 0] 64))
    go_enter Tryz.func51, Tryz.ntmps51
    go_wp2_with fail
    generalize (w.alloc (.cells #[.int .i64 id, .int .i64 par, .int .i64 seq, .int .i64 day, .int .i64 idx, .string op, vf] 74)).alloc (.cells #[.int .i64 0, .int .i64 0] 64) = WA at hbr hfc hal ⊢
    refine hbr.mono ?_
    rintro e w1 ⟨rfl, hb1⟩
    clear hbr
    have hf1 := hfc.below hb1
    have hB1 : Below w.heap.size w w1 := hal.trans (hb1.mono hal.size)
    have j0 := hf1.c0
    have j1 := hf1.c1
    have jz := hf1.fz
    clear hfc hal hb1
    go_wp2
    refine bodyPost_ret (v := .agg #[.int .i64 2, .int .i64 (-1)]) (by simp [results, Tryz.results51, go_sem, j0, j1]) rfl ⟨rfl, ?_⟩
    exact (hB1.setCell hle _).setCell hle _
  by_cases q4 : seq < 0
  · obtain rfl := hub (by omega)
    clear hrs hsb hx hsz
    have hbr := bare_of 2 ((w.alloc (.cells #[.int .i64 id, .int .i64 par, .int .i64 seq, .int .i64 day, .int .i64 idx, .string op, vf] 74)).alloc (.cells #[.int .i64 0, .int .i64 0] 64))
    go_enter Tryz.func51, Tryz.ntmps51
    go_wp2_with fail
    generalize (w.alloc (.cells #[.int .i64 id, .int .i64 par, .int .i64 seq, .int .i64 day, .int .i64 idx, .string op, vf] 74)).alloc (.cells #[.int .i64 0, .int .i64 0] 64) = WA at hbr hfc hal ⊢
    refine hbr.mono ?_
    rintro e w1 ⟨rfl, hb1⟩
    clear hbr
    have hf1 := hfc.below hb1
    have hB1 : Below w.heap.size w w1 := hal.trans (hb1.mono hal.size)
    have j0 := hf1.c0
    have j1 := hf1.c1
    have jz := hf1.fz
    clear hfc hal hb1
    go_wp2
    refine bodyPost_ret (v := .agg #[.int .i64 2, .int .i64 (-1)]) (by simp [results, Tryz.results51, go_sem, j0, j1]) rfl ⟨rfl, ?_⟩
    exact (hB1.setCell hle _).setCell hle _
  by_cases q5 : 1073741824 < seq
  · obtain rfl := hub (by omega)
    clear hrs hsb hx hsz
    have hbr := bare_of 2 ((w.alloc (.cells #[.int .i64 id, .int .i64 par, .int .i64 seq, .int .i64 day, .int .i64 idx, .string op, vf] 74)).alloc (.cells #[.int .i64 0, .int .i64 0] 64))
    go_enter Tryz.func51, Tryz.ntmps51
    go_wp2_with fail
    generalize (w.alloc (.cells #[.int .i64 id, .int .i64 par, .int .i64 seq, .int .i64 day, .int .i64 idx, .string op, vf] 74)).alloc (.cells #[.int .i64 0, .int .i64 0] 64) = WA at hbr hfc hal ⊢
    refine hbr.mono ?_
    rintro e w1 ⟨rfl, hb1⟩
    clear hbr
    have hf1 := hfc.below hb1
    have hB1 : Below w.heap.size w w1 := hal.trans (hb1.mono hal.size)
    have j0 := hf1.c0
    have j1 := hf1.c1
    have jz := hf1.fz
    clear hfc hal hb1
    go_wp2
    refine bodyPost_ret (v := .agg #[.int .i64 2, .int .i64 (-1)]) (by simp [results, Tryz.results51, go_sem, j0, j1]) rfl ⟨rfl, ?_⟩
    exact (hB1.setCell hle _).setCell hle _
  by_cases q6 : day < 0
  · obtain rfl := hub (by omega)
    clear hrs hsb hx hsz
    have hbr := bare_of 2 ((w.alloc (.cells #[.int .i64 id, .int .i64 par, .int .i64 seq, .int .i64 day, .int .i64 idx, .string op, vf] 74)).alloc (.cells #[.int .i64 0, .int .i64 0] 64))
    go_enter Tryz.func51, Tryz.ntmps51
    go_wp2_with fail
    generalize (w.alloc (.cells #[.int .i64 id, .int .i64 par, .int .i64 seq, .int .i64 day, .int .i64 idx, .string op, vf] 74)).alloc (.cells #[.int .i64 0, .int .i64 0] 64) = WA at hbr hfc hal ⊢
    refine hbr.mono ?_
    rintro e w1 ⟨rfl, hb1⟩
    clear hbr
    have hf1 := hfc.below hb1
    have hB1 : Below w.heap.size w w1 := hal.trans (hb1.mono hal.size)
    have j0 := hf1.c0
    have j1 := hf1.c1
    have jz := hf1.fz
    clear hfc hal hb1
    go_wp2
    refine bodyPost_ret (v := .agg #[.int .i64 2, .int .i64 (-1)]) (by simp [results, Tryz.results51, go_sem, j0, j1]) rfl ⟨rfl, ?_⟩
    exact (hB1.setCell hle _).setCell hle _
  by_cases q7 : 100000 < day
  · obtain rfl := hub (by omega)
    clear hrs hsb hx hsz
    have hbr := bare_of 2 ((w.alloc (.cells #[.int .i64 id, .int .i64 par, .int .i64 seq, .int .i64 day, .int .i64 idx, .string op, vf] 74)).alloc (.cells #[.int .i64 0, .int .i64 0] 64))
    go_enter Tryz.func51, Tryz.ntmps51
    go_wp2_with fail
    generalize (w.alloc (.cells #[.int .i64 id, .int .i64 par, .int .i64 seq, .int .i64 day, .int .i64 idx, .string op, vf] 74)).alloc (.cells #[.int .i64 0, .int .i64 0] 64) = WA at hbr hfc hal ⊢
    refine hbr.mono ?_
    rintro e w1 ⟨rfl, hb1⟩
    clear hbr
    have hf1 := hfc.below hb1
    have hB1 : Below w.heap.size w w1 := hal.trans (hb1.mono hal.size)
    have j0 := hf1.c0
    have j1 := hf1.c1
    have jz := hf1.fz
    clear hfc hal hb1
    go_wp2
    refine bodyPost_ret (v := .agg #[.int .i64 2, .int .i64 (-1)]) (by simp [results, Tryz.results51, go_sem, j0, j1]) rfl ⟨rfl, ?_⟩
    exact (hB1.setCell hle _).setCell hle _
  by_cases q8 : idx < 0
  · obtain rfl := hub (by omega)
    clear hrs hsb hx hsz
    have hbr := bare_of 2 ((w.alloc (.cells #[.int .i64 id, .int .i64 par, .int .i64 seq, .int .i64 day, .int .i64 idx, .string op, vf] 74)).alloc (.cells #[.int .i64 0, .int .i64 0] 64))
    go_enter Tryz.func51, Tryz.ntmps51
    go_wp2_with fail
    generalize (w.alloc (.cells #[.int .i64 id, .int .i64 par, .int .i64 seq, .int .i64 day, .int .i64 idx, .string op, vf] 74)).alloc (.cells #[.int .i64 0, .int .i64 0] 64) = WA at hbr hfc hal ⊢
    refine hbr.mono ?_
    rintro e w1 ⟨rfl, hb1⟩
    clear hbr
    have hf1 := hfc.below hb1
    have hB1 : Below w.heap.size w w1 := hal.trans (hb1.mono hal.size)
    have j0 := hf1.c0
    have j1 := hf1.c1
    have jz := hf1.fz
    clear hfc hal hb1
    go_wp2
    refine bodyPost_ret (v := .agg #[.int .i64 2, .int .i64 (-1)]) (by simp [results, Tryz.results51, go_sem, j0, j1]) rfl ⟨rfl, ?_⟩
    exact (hB1.setCell hle _).setCell hle _
  by_cases q9 : 1073741824 < idx
  · obtain rfl := hub (by omega)
    clear hrs hsb hx hsz
    have hbr := bare_of 2 ((w.alloc (.cells #[.int .i64 id, .int .i64 par, .int .i64 seq, .int .i64 day, .int .i64 idx, .string op, vf] 74)).alloc (.cells #[.int .i64 0, .int .i64 0] 64))
    go_enter Tryz.func51, Tryz.ntmps51
    go_wp2_with fail
    generalize (w.alloc (.cells #[.int .i64 id, .int .i64 par, .int .i64 seq, .int .i64 day, .int .i64 idx, .string op, vf] 74)).alloc (.cells #[.int .i64 0, .int .i64 0] 64) = WA at hbr hfc hal ⊢
    refine hbr.mono ?_
    rintro e w1 ⟨rfl, hb1⟩
    clear hbr
    have hf1 := hfc.below hb1
    have hB1 : Below w.heap.size w w1 := hal.trans (hb1.mono hal.size)
    have j0 := hf1.c0
    have j1 := hf1.c1
    have jz := hf1.fz
    clear hfc hal hb1
    go_wp2
    refine bodyPost_ret (v := .agg #[.int .i64 2, .int .i64 (-1)]) (by simp [results, Tryz.results51, go_sem, j0, j1]) rfl ⟨rfl, ?_⟩
    exact (hB1.setCell hle _).setCell hle _
  obtain rfl : SBB = true := hsb.2 (by omega)
  obtain ⟨hop0, hop1⟩ := hrs rfl
  clear hub hsb hrs
  have hit := inTexts_any op (w.heap.size + 1 + 1) 4 [⟨#[115, 116, 97, 114, 116]⟩, ⟨#[97, 112, 112, 101, 110, 100]⟩, ⟨#[100, 101, 108, 101, 116, 101]⟩, ⟨#[114, 101, 119, 114, 105, 116, 101]⟩] (((w.alloc (.cells #[.int .i64 id, .int .i64 par, .int .i64 seq, .int .i64 day, .int .i64 idx, .string op, vf] 74)).alloc (.cells #[.int .i64 0, .int .i64 0] 64)).alloc (.cells #[.string ⟨#[115, 116, 97, 114, 116]⟩, .string ⟨#[97, 112, 112, 101, 110, 100]⟩, .string ⟨#[100, 101, 108, 101, 116, 101]⟩, .string ⟨#[114, 101, 119, 114, 105, 116, 101]⟩] 9)) (fun j hj => by
    have hs2 : ((w.alloc (.cells #[.int .i64 id, .int .i64 par, .int .i64 seq, .int .i64 day, .int .i64 idx, .string op, vf] 74)).alloc (.cells #[.int .i64 0, .int .i64 0] 64)).heap.size = w.heap.size + 1 + 1 := by simp
    have hb : (((w.alloc (.cells #[.int .i64 id, .int .i64 par, .int .i64 seq, .int .i64 day, .int .i64 idx, .string op, vf] 74)).alloc (.cells #[.int .i64 0, .int .i64 0] 64)).alloc (.cells #[.string ⟨#[115, 116, 97, 114, 116]⟩, .string ⟨#[97, 112, 112, 101, 110, 100]⟩, .string ⟨#[100, 101, 108, 101, 116, 101]⟩, .string ⟨#[114, 101, 119, 114, 105, 116, 101]⟩] 9)).heap[w.heap.size + 1 + 1]? = some (.cells #[.string ⟨#[115, 116, 97, 114, 116]⟩, .string ⟨#[97, 112, 112, 101, 110, 100]⟩, .string ⟨#[100, 101, 108, 101, 116, 101]⟩, .string ⟨#[114, 101, 119, 114, 105, 116, 101]⟩] 9 (0, 0)) := by
      have := heap_alloc_new ((w.alloc (.cells #[.int .i64 id, .int .i64 par, .int .i64 seq, .int .i64 day, .int .i64 idx, .string op, vf] 74)).alloc (.cells #[.int .i64 0, .int .i64 0] 64)) (.cells #[.string ⟨#[115, 116, 97, 114, 116]⟩, .string ⟨#[97, 112, 112, 101, 110, 100]⟩, .string ⟨#[100, 101, 108, 101, 116, 101]⟩, .string ⟨#[114, 101, 119, 114, 105, 116, 101]⟩] 9)
      rw [hs2] at this
      exact this
    rw [cell_of_row _ _ _ _ _ _ hb]
    obtain rfl | rfl | rfl | rfl : j = 0 ∨ j = 1 ∨ j = 2 ∨ j = 3 := by simp at hj; omega
    all_goals rfl) (by simp)
  rw [op_mem] at hit
  have hB2 : Below w.heap.size w (((w.alloc (.cells #[.int .i64 id, .int .i64 par, .int .i64 seq, .int .i64 day, .int .i64 idx, .string op, vf] 74)).alloc (.cells #[.int .i64 0, .int .i64 0] 64)).alloc (.cells #[.string ⟨#[115, 116, 97, 114, 116]⟩, .string ⟨#[97, 112, 112, 101, 110, 100]⟩, .string ⟨#[100, 101, 108, 101, 116, 101]⟩, .string ⟨#[114, 101, 119, 114, 105, 116, 101]⟩] 9)) := hal.alloc hal.size _
  have h12 : Below ((w.alloc (.cells #[.int .i64 id, .int .i64 par, .int .i64 seq, .int .i64 day, .int .i64 idx, .string op, vf] 74)).alloc (.cells #[.int .i64 0, .int .i64 0] 64)).heap.size ((w.alloc (.cells #[.int .i64 id, .int .i64 par, .int .i64 seq, .int .i64 day, .int .i64 idx, .string op, vf] 74)).alloc (.cells #[.int .i64 0, .int .i64 0] 64)) (((w.alloc (.cells #[.int .i64 id, .int .i64 par, .int .i64 seq, .int .i64 day, .int .i64 idx, .string op, vf] 74)).alloc (.cells #[.int .i64 0, .int .i64 0] 64)).alloc (.cells #[.string ⟨#[115, 116, 97, 114, 116]⟩, .string ⟨#[97, 112, 112, 101, 110, 100]⟩, .string ⟨#[100, 101, 108, 101, 116, 101]⟩, .string ⟨#[114, 101, 119, 114, 105, 116, 101]⟩] 9)) := (Below.refl _ _).alloc (Nat.le_refl _) _
  have hsn2 := hsn.below h12
  have hfc2 := hfc.below h12
  have hlf := fun W (hb : Below w.heap.size w W) => listFault_any vf fs W (hx.below hb) hl hsz
  have HXX : Hid (FlsAt w vf fs) := hx
  clear hsn hfc hal h12 hx hsz
  generalize hOB : opB op.data.toList = OB at hit hop0 hop1
  clear hOB
  go_enter Tryz.func51, Tryz.ntmps51
  go_wp2_with fail
  generalize ((w.alloc (.cells #[.int .i64 id, .int .i64 par, .int .i64 seq, .int .i64 day, .int .i64 idx, .string op, vf] 74)).alloc (.cells #[.int .i64 0, .int .i64 0] 64)).alloc (.cells #[.string ⟨#[115, 116, 97, 114, 116]⟩, .string ⟨#[97, 112, 112, 101, 110, 100]⟩, .string ⟨#[100, 101, 108, 101, 116, 101]⟩, .string ⟨#[114, 101, 119, 114, 105, 116, 101]⟩] 9) = W2 at hit hB2 hsn2 hfc2 ⊢
  refine hit.mono ?_
  rintro e w1 ⟨rfl, rfl⟩
  clear hit
  cases OB with
  | false =>
    obtain rfl := hop0 rfl
    clear hop0 hop1 hlf hsn2
    have hbr := bare_of 4 w1
    go_wp2_with fail
    refine hbr.mono ?_
    rintro e w2 ⟨rfl, hb2⟩
    clear hbr
    have hf1 := hfc2.below hb2
    have hB3 : Below w.heap.size w w2 := hB2.trans (hb2.mono hB2.size)
    have j0 := hf1.c0
    have j1 := hf1.c1
    have jz := hf1.fz
    clear hfc2 hB2 hb2
    go_wp2
    refine bodyPost_ret (v := .agg #[.int .i64 4, .int .i64 (-1)]) (by simp [results, Tryz.results51, go_sem, j0, j1]) rfl ⟨rfl, ?_⟩
    exact (hB3.setCell hle _).setCell hle _
  | true =>
    obtain ⟨hl1, hl2⟩ := hop1 rfl
    clear hop0 hop1
    have hlf1 := hlf w1 hB2
    clear hlf
    have z6 := hsn2.cells.2.2.2.2.2.2
    generalize hLE : listE fs = LE at hl1 hl2 hlf1
    obtain ⟨EC, EA⟩ := LE
    dsimp only at hl1 hl2 hlf1
    clear hLE
    obtain ⟨qf, cf, hvf⟩ := HXX.out.form
    subst hvf
    obtain ⟨L, hL⟩ : ∃ L, fs.length = L := ⟨_, rfl⟩
    have HL : Hid (fs.length = L) := hL
    rw [hL] at hlf1 z6 hl
    have hsn2' : SnAt w1 w.heap.size (id, par, seq, day, idx, op, fs) (.slice qf L cf) := by rw [← hL]; exact hsn2
    clear hsn2 hL
    go_wp2_with fail
    refine hlf1.mono ?_
    rintro e w2 ⟨rfl, hb2⟩
    clear hlf1 z6
    have hB3 : Below w.heap.size w w2 := hB2.trans (hb2.mono hB2.size)
    have hsn3 := hsn2'.below hb2
    have hfc3 := hfc2.below hb2
    clear hsn2' hfc2 hB2 hb2
    by_cases hE : EC = 0
    · subst hE
      have HRE : Hid (R = seqG seq fs 0) := hl2 rfl
      clear hl1 hl2
      have hal3 : Below w2.heap.size w2 (w2.alloc (.cells #[.int .i64 ((0 : Nat) : Int), .int .i64 (atZ EA)] 64)) := (Below.refl _ _).alloc (Nat.le_refl _) _
      have hB4 : Below w.heap.size w (w2.alloc (.cells #[.int .i64 ((0 : Nat) : Int), .int .i64 (atZ EA)] 64)) := hB3.trans (hal3.mono hB3.size)
      have hsn4 := hsn3.below hal3
      have hfc4 := hfc3.below hal3
      clear hsn3 hfc3 hal3
      go_wp2
      go_loopw [5] (fun k wr => ∃ n : Nat, n ≤ L ∧ k = .int .i64 n ∧ SeqLeft seq fs n ∧ Below w.heap.size w wr ∧ SnAt wr w.heap.size (id, par, seq, day, idx, op, fs) (.slice qf L cf) ∧ FC wr (w.heap.size + 1) 0 0) (fun k _ => L - (intOf k).toNat)
      case atStart => exact ⟨0, by omega, rfl, seqL_zero seq fs, hB4, hsn4, hfc4⟩
      case round =>
        clear hB4 hsn4 hfc4
        obtain ⟨n, hn, rfl, hsl, hb, hsn, hfc⟩ := hrel
        have HSL : Hid (SeqLeft seq fs n) := hsl
        have HSN : Hid (SnAt wr w.heap.size (id, par, seq, day, idx, op, fs) (.slice qf L cf)) := hsn
        have HFC : Hid (FC wr (w.heap.size + 1) 0 0) := hfc
        obtain ⟨-, -, z2, -, -, -, z6⟩ := hsn.cells
        dsimp only at z2
        clear hsl hsn hfc
        by_cases hlt : n < L
        · have hltx : n < fs.length := by rw [HL.out]; exact hlt
          obtain ⟨b, o, hq, hc⟩ := (HXX.out.below hb).cells (fun e => by rw [e] at hltx; simp at hltx)
          subst hq
          have c5 := (hc n hltx).2.2.2.2.2
          have hbad := fun e => seqL_bad HSL.out hltx e
          have hnxt := fun e => seqL_succ HSL.out hltx e
          generalize fs[n].2.2.2.2.2 = z at c5 hbad hnxt
          have hi : (n : Int) < (L : Int) := by omega
          have hi0' : (0 : Int) ≤ (n : Int) := by omega
          clear hc hltx
          go_wp2_with fail
          go_quiet (fail)
          have hbq : Below wr.heap.size wr (wr.drewN nq) := below_drewN (Below.refl _ _) nq
          have hbd : Below w.heap.size w (wr.drewN nq) := below_drewN hb nq
          have HSN2 : Hid (SnAt (wr.drewN nq) w.heap.size (id, par, seq, day, idx, op, fs) (.slice (some ⟨b, o, none⟩) L cf)) := HSN.out.below hbq
          have hfd := HFC.out.below hbq
          have HFC2 : Hid (FC (wr.drewN nq) (w.heap.size + 1) 0 0) := hfd
          clear hbq c5 z2 z6
          generalize wr.drewN nq = W5 at hbd HSN2 hfd HFC2 ⊢
          by_cases hz : seq < z
          · have hRR : R = (9, some n) := by rw [HRE.out]; exact hbad hz
            subst hRR
            have j0 := hfd.c0
            have j1 := hfd.c1
            have jz := hfd.fz
            clear hbad hnxt hfd
            go_wp2
            refine bodyPost_ret (v := .agg #[.int .i64 9, .int .i64 n]) (by simp [results, Tryz.results51, go_sem, j0, j1]) rfl ⟨rfl, ?_⟩
            exact (hbd.setCell hle _).setCell hle _
          · have HNX : Hid (SeqLeft seq fs (n + 1)) := hnxt (by omega)
            clear hbad hnxt hfd
            go_wp2
            go_roundw
            case rel => exact ⟨n + 1, by omega, by go_num, HNX.out, hbd, HSN2.out, HFC2.out⟩
            case measure => simp [intOf]; omega
        · obtain rfl : n = L := by omega
          have hRR : R = (0, none) := by
            rw [HRE.out]
            have h' := HSL.out
            rw [← HL.out] at h'
            exact seqL_all h'
          subst hRR
          have hfi := fine_of wr
          go_wp2_with fail
          refine hfi.mono ?_
          rintro e w5 ⟨rfl, hb5⟩
          clear hfi
          have hb6 : Below w.heap.size w w5 := hb.trans (hb5.mono hb.size)
          have hf5 := HFC.out.below hb5
          have j0 := hf5.c0
          have j1 := hf5.c1
          have jz := hf5.fz
          clear z2 z6
          go_wp2
          refine bodyPost_ret (v := .agg #[.int .i64 0, .int .i64 (-1)]) (by simp [results, Tryz.results51, go_sem, j0, j1]) rfl ⟨rfl, ?_⟩
          exact (hb6.setCell hle _).setCell hle _
    · obtain rfl := hl1 hE
      have hEp : (0 : Int) < (EC : Int) := by omega
      have hal3 : Below w2.heap.size w2 (w2.alloc (.cells #[.int .i64 (EC : Int), .int .i64 (atZ EA)] 64)) := (Below.refl _ _).alloc (Nat.le_refl _) _
      have hB4 : Below w.heap.size w (w2.alloc (.cells #[.int .i64 (EC : Int), .int .i64 (atZ EA)] 64)) := hB3.trans (hal3.mono hB3.size)
      have hf4 := hfc3.below hal3
      have hnew : FC (w2.alloc (.cells #[.int .i64 (EC : Int), .int .i64 (atZ EA)] 64)) w2.heap.size EC (atZ EA) := heap_alloc_new _ _
      have hsz2 : w2.heap.size = w2.heap.size := rfl
      clear hl2 hfc3 hal3 hsn3
      go_upto_region 11 with fail
      generalize w2.alloc (.cells #[.int .i64 (EC : Int), .int .i64 (atZ EA)] 64) = W4 at hB4 hf4 hnew ⊢
      generalize w2.heap.size = F2 at hnew ⊢
      have j0 := hf4.c0
      have j1 := hf4.c1
      have jz := hf4.fz
      have n0 := hnew.c0
      have n1 := hnew.c1
      clear hf4 hnew hsz2
      go_wp2
      refine bodyPost_ret (v := .agg #[.int .i64 (EC : Int), .int .i64 (atZ EA)]) (by simp [results, Tryz.results51, go_sem, j0, j1]) rfl ⟨rfl, ?_⟩
      exact (hB4.setCell hle _).setCell hle _
end Go.Proofs.YtpkoefpdpoikkaaGreatDoor
