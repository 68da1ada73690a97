/-
  The contracts of slices.Clone and slices.DeleteFunc at files.
-/
import Derived.Test.YtcpplldfmmpaoaaGreatDoorListFnd
import Derived.Lib.SliceRun
namespace Go.Proofs.YtcpplldfmmpaoaaGreatDoor
open Go.RowKit Go.Extern.Stop Go.Stop Go.Extern Go.Sort Go.Shelf Go.Lib

def IdxOf {β : Type} (p : β → Bool) (fs : List β) (i : Int) : Prop := (i = -1 ∧ fs.any p = false) ∨ ∃ n : Nat, ∃ h : n < fs.length, i = n ∧ p fs[n] = true ∧ (∀ j (hj : j < fs.length), j < n → p fs[j] = false) ∧ fs.any p = true

theorem no_succ {β : Type} {p : β → Bool} {fs : List β} {n : Nat} (h : ∀ j (h : j < fs.length), j < n → p fs[j] = false) (hn : n < fs.length) (e : p fs[n] = false) : ∀ j (h : j < fs.length), j < n + 1 → p fs[j] = false := fun j hj hjn => by
  by_cases e' : j = n
  · subst e'; exact e
  · exact h j hj (by omega)
theorem idx_yes {β : Type} {p : β → Bool} {fs : List β} {n : Nat} (h : ∀ j (h : j < fs.length), j < n → p fs[j] = false) (hn : n < fs.length) (e : p fs[n] = true) : IdxOf p fs n := Or.inr ⟨n, hn, rfl, e, h, List.any_eq_true.2 ⟨_, List.getElem_mem hn, e⟩⟩
theorem idx_no {β : Type} {p : β → Bool} {fs : List β} (h : ∀ j (h : j < fs.length), j < fs.length → p fs[j] = false) : IdxOf p fs (-1) := Or.inl ⟨rfl, by
  rw [List.any_eq_false]
  intro x hx
  obtain ⟨j, hj, rfl⟩ := List.mem_iff_getElem.1 hx
  rw [h j hj hj]
  simp⟩

def AskF (g : Nat) (cb : Array Value) (p : Fl → Bool) (fs : List Fl) (w : World) : Prop := ∀ f ∈ fs, ∀ W, Below w.heap.size w W → Calls Tryz.prog g (#[flV f] ++ cb) W fun e w' => e = .returned (.bool (p f)) ∧ Below W.heap.size W w'
def AskS (g : Nat) (cb : Array Value) (p : ByteArray → Bool) (fs : List ByteArray) (w : World) : Prop := ∀ f ∈ fs, ∀ W, Below w.heap.size w W → Calls Tryz.prog g (#[.string f] ++ cb) W fun e w' => e = .returned (.bool (p f)) ∧ Below W.heap.size W w'

set_option maxRecDepth 100000 in
set_option maxHeartbeats 4000000 in
theorem indexG_any (g : Nat) (cb : Array Value) (p : Fl → Bool) (v : Value) (fs : List Fl) (w : World) (hx : FlsAt w v fs) (hl : fs.length ≤ 20000) (eg : ∀ args w, (callFunc g args).run Tryz.prog w = .ok (.enter g args) w) (hp : AskF g cb p fs w) :
    Calls Tryz.prog 50 #[v, .func (.func g) #[] cb] w fun e w' => ∃ i, e = .returned (.int .i64 i) ∧ IdxOf p fs i ∧ Below w.heap.size w w' := by
  obtain ⟨q, cap, rfl⟩ := hx.form
  have HFX : Hid (FlsAt w (.slice q fs.length cap) fs) := hx
  have HP : Hid (AskF g cb p fs w) := hp
  obtain ⟨L, hL⟩ : ∃ L, fs.length = L := ⟨_, rfl⟩
  have HX : Hid (fs.length = L) := hL
  rw [hL] at hl ⊢
  clear hL hx hp
  go_enter Tryz.func50, Tryz.ntmps50
  go_wp2
  go_loopw [8] (fun k wr => ∃ n : Nat, n ≤ L ∧ k = .int .i64 n ∧ (∀ j (h : j < fs.length), j < n → p fs[j] = false) ∧ Below w.heap.size w wr) (fun k _ => L - (intOf k).toNat)
  case atStart => exact ⟨0, by omega, rfl, fun j h h' => absurd h' (Nat.not_lt_zero _), Below.refl _ _⟩
  case round =>
    obtain ⟨n, hn, rfl, hno, hb⟩ := hrel
    have HNO : Hid (∀ j (h : j < fs.length), j < n → p fs[j] = false) := hno
    clear hno
    by_cases hlt : n < L
    · have hltx : n < fs.length := by rw [HX.out]; exact hlt
      obtain ⟨b, o, hq, hc⟩ := (HFX.out.below hb).cells (fun e => by rw [e] at hltx; simp at hltx)
      subst hq
      obtain ⟨c0, c1, c2, c3, c4, c5⟩ := hc n hltx
      have hcl := HP.out fs[n] (List.getElem_mem _) wr hb
      have hi : (n : Int) < (L : Int) := by omega
      have hi0' : (0 : Int) ≤ (n : Int) := by omega
      cases he : p fs[n] with
      | true =>
        have HI : Hid (IdxOf p fs n) := idx_yes HNO.out hltx he
        rw [he] at hcl
        unfold flV at hcl
        clear hc he
        generalize fs[n] = f at c0 c1 c2 c3 c4 c5 hcl
        clear hltx
        obtain ⟨fp, fq, fn, flo, fhi, fseq⟩ := f
        dsimp only at c0 c1 c2 c3 c4 c5 hcl
        go_wp2_with (go_at_fn g; refine hcl.mono ?_; rintro e w2 ⟨rfl, hb2⟩)
        go_ret
        exact ⟨_, rfl, HI.out, hb.trans (hb2.mono hb.size)⟩
      | false =>
        have HN1 : Hid (∀ j (h : j < fs.length), j < n + 1 → p fs[j] = false) := no_succ HNO.out hltx he
        rw [he] at hcl
        unfold flV at hcl
        clear hc he
        generalize fs[n] = f at c0 c1 c2 c3 c4 c5 hcl
        clear hltx
        obtain ⟨fp, fq, fn, flo, fhi, fseq⟩ := f
        dsimp only at c0 c1 c2 c3 c4 c5 hcl
        go_wp2_with (go_at_fn g; refine hcl.mono ?_; rintro e w2 ⟨rfl, hb2⟩)
        have hb3 : Below w.heap.size w w2 := hb.trans (hb2.mono hb.size)
        go_roundw
        case rel => exact ⟨n + 1, by omega, by go_num, HN1.out, hb3⟩
        case measure => simp [intOf]; omega
    · obtain rfl : n = L := by omega
      have HI : Hid (IdxOf p fs (-1)) := idx_no (fun j hj _ => HNO.out j hj (by rw [← HX.out]; exact hj))
      go_wp2
      go_ret
      exact ⟨_, rfl, HI.out, hb⟩

set_option maxRecDepth 100000 in
set_option maxHeartbeats 4000000 in
theorem indexS_any (g : Nat) (cb : Array Value) (p : ByteArray → Bool) (v : Value) (fs : List ByteArray) (w : World) (hx : TsAt w v fs) (hl : fs.length ≤ 20000) (eg : ∀ args w, (callFunc g args).run Tryz.prog w = .ok (.enter g args) w) (hp : AskS g cb p fs w) :
    Calls Tryz.prog 77 #[v, .func (.func g) #[] cb] w fun e w' => ∃ i, e = .returned (.int .i64 i) ∧ IdxOf p fs i ∧ Below w.heap.size w w' := by
  obtain ⟨q, cap, rfl⟩ := hx.form
  have HFX : Hid (TsAt w (.slice q fs.length cap) fs) := hx
  have HP : Hid (AskS g cb p fs w) := hp
  obtain ⟨L, hL⟩ : ∃ L, fs.length = L := ⟨_, rfl⟩
  have HX : Hid (fs.length = L) := hL
  rw [hL] at hl ⊢
  clear hL hx hp
  go_enter Tryz.func77, Tryz.ntmps77
  go_wp2
  go_loopw [8] (fun k wr => ∃ n : Nat, n ≤ L ∧ k = .int .i64 n ∧ (∀ j (h : j < fs.length), j < n → p fs[j] = false) ∧ Below w.heap.size w wr) (fun k _ => L - (intOf k).toNat)
  case atStart => exact ⟨0, by omega, rfl, fun j h h' => absurd h' (Nat.not_lt_zero _), Below.refl _ _⟩
  case round =>
    obtain ⟨n, hn, rfl, hno, hb⟩ := hrel
    have HNO : Hid (∀ j (h : j < fs.length), j < n → p fs[j] = false) := hno
    clear hno
    by_cases hlt : n < L
    · have hltx : n < fs.length := by rw [HX.out]; exact hlt
      obtain ⟨b, hq, hc⟩ := (HFX.out.below hb).cells (fun e => by rw [e] at hltx; simp at hltx)
      subst hq
      have c0 := hc n hltx
      have hcl := HP.out fs[n] (List.getElem_mem _) wr hb
      have hi : (n : Int) < (L : Int) := by omega
      have hi0' : (0 : Int) ≤ (n : Int) := by omega
      cases he : p fs[n] with
      | true =>
        have HI : Hid (IdxOf p fs n) := idx_yes HNO.out hltx he
        rw [he] at hcl
        clear hc he
        generalize fs[n] = f at c0 hcl
        clear hltx
        go_wp2_with (go_at_fn g; refine hcl.mono ?_; rintro e w2 ⟨rfl, hb2⟩)
        go_ret
        exact ⟨_, rfl, HI.out, hb.trans (hb2.mono hb.size)⟩
      | false =>
        have HN1 : Hid (∀ j (h : j < fs.length), j < n + 1 → p fs[j] = false) := no_succ HNO.out hltx he
        rw [he] at hcl
        clear hc he
        generalize fs[n] = f at c0 hcl
        clear hltx
        go_wp2_with (go_at_fn g; refine hcl.mono ?_; rintro e w2 ⟨rfl, hb2⟩)
        have hb3 : Below w.heap.size w w2 := hb.trans (hb2.mono hb.size)
        go_roundw
        case rel => exact ⟨n + 1, by omega, by go_num, HN1.out, hb3⟩
        case measure => simp [intOf]; omega
    · obtain rfl : n = L := by omega
      have HI : Hid (IdxOf p fs (-1)) := idx_no (fun j hj _ => HNO.out j hj (by rw [← HX.out]; exact hj))
      go_wp2
      go_ret
      exact ⟨_, rfl, HI.out, hb⟩

set_option maxRecDepth 100000 in
set_option maxHeartbeats 1000000 in
theorem containsG_any (g : Nat) (cb : Array Value) (p : Fl → Bool) (v : Value) (fs : List Fl) (w : World) (hx : FlsAt w v fs) (hl : fs.length ≤ 20000) (eg : ∀ args w, (callFunc g args).run Tryz.prog w = .ok (.enter g args) w) (hp : AskF g cb p fs w) :
    Calls Tryz.prog 56 #[v, .func (.func g) #[] cb] w fun e w' => e = .returned (.bool (fs.any p)) ∧ Below w.heap.size w w' := by
  have hix := indexG_any g cb p v fs w hx hl eg hp
  obtain ⟨q, cap, rfl⟩ := hx.form
  generalize fs.length = L at hix ⊢
  clear hx hp eg
  go_enter Tryz.func56, Tryz.ntmps56
  go_wp2_with fail
  refine hix.mono ?_
  rintro e w1 ⟨i, rfl, hi, hb1⟩
  clear hix
  have HB : Hid (Below w.heap.size w w1) := hb1
  clear hb1
  rcases hi with ⟨rfl, ha⟩ | ⟨n, hn, rfl, -, -, ha⟩
  · have HA : Hid (_ = _) := ha
    clear ha
    go_wp2
    go_ret
    exact ⟨by rw [HA.out]; rfl, HB.out⟩
  · have HA : Hid (_ = _) := ha
    have hd : (0 : Int) ≤ (n : Int) := by omega
    clear ha hn
    go_wp2
    go_ret
    exact ⟨by rw [HA.out]; rfl, HB.out⟩

set_option maxRecDepth 100000 in
set_option maxHeartbeats 1000000 in
theorem containsS_any (g : Nat) (cb : Array Value) (p : ByteArray → Bool) (v : Value) (fs : List ByteArray) (w : World) (hx : TsAt w v fs) (hl : fs.length ≤ 20000) (eg : ∀ args w, (callFunc g args).run Tryz.prog w = .ok (.enter g args) w) (hp : AskS g cb p fs w) :
    Calls Tryz.prog 54 #[v, .func (.func g) #[] cb] w fun e w' => e = .returned (.bool (fs.any p)) ∧ Below w.heap.size w w' := by
  have hix := indexS_any g cb p v fs w hx hl eg hp
  obtain ⟨q, cap, rfl⟩ := hx.form
  generalize fs.length = L at hix ⊢
  clear hx hp eg
  go_enter Tryz.func54, Tryz.ntmps54
  go_wp2_with fail
  refine hix.mono ?_
  rintro e w1 ⟨i, rfl, hi, hb1⟩
  clear hix
  have HB : Hid (Below w.heap.size w w1) := hb1
  clear hb1
  rcases hi with ⟨rfl, ha⟩ | ⟨n, hn, rfl, -, -, ha⟩
  · have HA : Hid (_ = _) := ha
    clear ha
    go_wp2
    go_ret
    exact ⟨by rw [HA.out]; rfl, HB.out⟩
  · have HA : Hid (_ = _) := ha
    have hd : (0 : Int) ≤ (n : Int) := by omega
    clear ha hn
    go_wp2
    go_ret
    exact ⟨by rw [HA.out]; rfl, HB.out⟩

set_option maxRecDepth 100000 in
set_option maxHeartbeats 2000000 in
theorem indexT_any (v : Value) (ts : List ByteArray) (p : ByteArray) (w : World) (hx : TsAt w v ts) (hl : ts.length ≤ 20000) :
    Calls Tryz.prog 52 #[v, .string p] w fun e w' => ∃ i, e = .returned (.int .i64 i) ∧ IdxOf (fun t => decide (t = p)) ts i ∧ w' = w := by
  obtain ⟨q, cap, rfl⟩ := hx.form
  have HFX : Hid (TsAt w (.slice q ts.length cap) ts) := hx
  obtain ⟨L, hL⟩ : ∃ L, ts.length = L := ⟨_, rfl⟩
  have HX : Hid (ts.length = L) := hL
  rw [hL] at hl ⊢
  clear hL hx
  go_enter Tryz.func52, Tryz.ntmps52
  go_wp2
  go_loopw [8] (fun k wr => ∃ n : Nat, n ≤ L ∧ k = .int .i64 n ∧ (∀ j (h : j < ts.length), j < n → decide (ts[j] = p) = false) ∧ wr = w) (fun k _ => L - (intOf k).toNat)
  case atStart => exact ⟨0, by omega, rfl, fun j h h' => absurd h' (Nat.not_lt_zero _), rfl⟩
  case round =>
    obtain ⟨n, hn, rfl, hno, rfl⟩ := hrel
    have HNO : Hid (∀ j (h : j < ts.length), j < n → decide (ts[j] = p) = false) := hno
    clear hno
    by_cases hlt : n < L
    · have hltx : n < ts.length := by rw [HX.out]; exact hlt
      obtain ⟨b, hq, hc⟩ := HFX.out.cells (fun e => by rw [e] at hltx; simp at hltx)
      subst hq
      have c0 := hc n hltx
      have hi : (n : Int) < (L : Int) := by omega
      have hi0' : (0 : Int) ≤ (n : Int) := by omega
      by_cases he : ts[n] = p
      · have HI : Hid (IdxOf (fun t => decide (t = p)) ts n) := idx_yes (p := fun t => decide (t = p)) HNO.out hltx (decide_eq_true he)
        rw [he] at c0
        clear hc he hltx
        have d1 : (p.toList == p.toList) = true := by simp
        go_wp2
        go_ret
        exact ⟨_, rfl, HI.out, rfl⟩
      · have HN1 : Hid (∀ j (h : j < ts.length), j < n + 1 → decide (ts[j] = p) = false) := no_succ (p := fun t => decide (t = p)) HNO.out hltx (decide_eq_false he)
        have d1 : (p.toList == ts[n].toList) = false := neBB (fun e => he (part_ext e).symm)
        clear hc he
        generalize ts[n] = f at c0 d1
        clear hltx
        go_wp2
        go_roundw
        case rel => exact ⟨n + 1, by omega, by go_num, HN1.out, by first | rfl | trivial⟩
        case measure => simp [intOf]; omega
    · obtain rfl : n = L := by omega
      have HI : Hid (IdxOf (fun t => decide (t = p)) ts (-1)) := idx_no (p := fun t => decide (t = p)) (fun j hj _ => HNO.out j hj (by rw [← HX.out]; exact hj))
      go_wp2
      go_ret
      exact ⟨_, rfl, HI.out, rfl⟩

set_option maxRecDepth 100000 in
set_option maxHeartbeats 1000000 in
theorem containsT_any (v : Value) (ts : List ByteArray) (p : ByteArray) (w : World) (hx : TsAt w v ts) (hl : ts.length ≤ 20000) :
    Calls Tryz.prog 30 #[v, .string p] w fun e w' => e = .returned (.bool (inT ts p)) ∧ w' = w := by
  have hix := indexT_any v ts p w hx hl
  unfold inT
  obtain ⟨q, cap, rfl⟩ := hx.form
  generalize ts.length = L at hix ⊢
  clear hx
  go_enter Tryz.func30, Tryz.ntmps30
  go_wp2_with fail
  refine hix.mono ?_
  rintro e w1 ⟨i, rfl, hi, rfl⟩
  clear hix
  rcases hi with ⟨rfl, ha⟩ | ⟨n, hn, rfl, -, -, ha⟩
  · have HA : Hid (_ = _) := ha
    clear ha
    go_wp2
    go_ret
    exact ⟨by rw [HA.out]; rfl, rfl⟩
  · have HA : Hid (_ = _) := ha
    have hd : (0 : Int) ≤ (n : Int) := by omega
    clear ha hn
    go_wp2
    go_ret
    exact ⟨by rw [HA.out]; rfl, rfl⟩
end Go.Proofs.YtcpplldfmmpaoaaGreatDoor
namespace Go.Proofs.YtcpplldfmmpaoaaGreatDoor
open Go.RowKit Go.Extern.Stop Go.Stop Go.Extern Go.Sort Go.Shelf Go.Lib

set_option maxRecDepth 100000 in
set_option maxHeartbeats 1000000 in
theorem cloneF_any (v : Value) (fs : List Fl) (w : World) (hx : FlsAt w v fs) (hl : fs.length ≤ 20000) :
    Calls Tryz.prog 26 #[v] w fun e w' => ∃ v', e = .returned v' ∧ w'.ownsRow w.heap.size 37 6 v' fs.length (flatF fs) ∧ Below w.heap.size w w' := by
  obtain ⟨i0, hi, hz, hs, hby⟩ := Tryz.fileInfo
  have q22 : ∀ (w : World) (a : Option Addr) (n c n' c' : Nat), (binOp .eql 22 (.slice a n c) (.slice none n' c')).run Tryz.prog w = .ok (.bool a.isNone) w := fun w a n c n' c' => Lib.run_eql_slice_nil w _ _ a n c n' c' Tryz.underlying22
  obtain ⟨q, cap, rfl⟩ := hx.form
  have hsrc := src_fls hx
  have hone := flatF_one fs
  have hfl := flatF_len fs
  have hal : Below w.heap.size w (w.alloc (.cells #[] 37)) := (Below.refl _ _).alloc (Nat.le_refl _) _
  have hsrc2 := hsrc.below hal
  cases q with
  | none =>
    have h0 : fs = [] := by
      rcases hx with ⟨_, _, _, _, h0⟩ | ⟨b, o, cap, e, _⟩
      · exact h0
      · injection e with e1; cases e1
    subst h0
    clear hx hsrc hsrc2 hone hfl
    go_enter Tryz.func26, Tryz.ntmps26
    go_wp2
    go_ret
    exact ⟨_, rfl, World.ownsRow_nil _ _ _ _, Below.refl _ _⟩
  | some ad =>
    generalize hX : flatF fs = X at hsrc2 hone hfl ⊢
    generalize fs.length = L at hl hsrc2 hfl ⊢
    clear hx hsrc hX
    go_enter Tryz.func26, Tryz.ntmps26
    go_wp2_with (at_builtin; refine wpList_append_src rfl _ _ 22 rfl w.heap.size 37 i0 (.agg #[.string ⟨#[]⟩, .string ⟨#[]⟩, .int .i64 0, .int .i64 0, .int .i64 0, .int .i64 0]) 6 64 Tryz.underlying22 hi hz hs hby rfl (by decide) _ 0 [] rfl (World.ownsRow_made w #[] 0 (Nat.le_refl _) (Nat.zero_le _) (by simp)) (some ad) L cap X rfl ?qa1 ?qa2 ?qa3 ?qa4 ?qa5 ?qa6 ?_)
    case qa1 => exact hfl
    case qa2 => exact hsrc2
    case qa3 => exact hone
    case qa4 => unfold maxLen; omega
    case qa5 => omega
    case qa6 => exact hal.size
    intro v1 y1 ho1 hg1 _
    have hb1 : Below w.heap.size w y1 := hal.grown hg1 hal.size (fun k hk => by simp [Value.ownBlock] at hk; omega)
    have HO : Hid (y1.ownsRow w.heap.size 37 6 v1 L X) := by
      show y1.ownsRow _ _ _ _ _ _
      simpa using ho1
    clear ho1 hg1
    go_wp2
    go_ret
    exact ⟨_, rfl, HO.out, hb1⟩

def put6 (W : World) (g x : Nat) (f : Fl) : World := (((((W.setCell ⟨g, x, none⟩ (.string f.1)).setCell ⟨g, x + 1, none⟩ (.string f.2.1)).setCell ⟨g, x + 2, none⟩ (.int .i64 f.2.2.1)).setCell ⟨g, x + 3, none⟩ (.int .i64 f.2.2.2.1)).setCell ⟨g, x + 4, none⟩ (.int .i64 f.2.2.2.2.1)).setCell ⟨g, x + 5, none⟩ (.int .i64 f.2.2.2.2.2)
def set6 (cur : Array Value) (x : Nat) (f : Fl) : Array Value := (((((cur.setIfInBounds x (.string f.1)).setIfInBounds (x + 1) (.string f.2.1)).setIfInBounds (x + 2) (.int .i64 f.2.2.1)).setIfInBounds (x + 3) (.int .i64 f.2.2.2.1)).setIfInBounds (x + 4) (.int .i64 f.2.2.2.2.1)).setIfInBounds (x + 5) (.int .i64 f.2.2.2.2.2)

theorem put6_heap {W : World} {g x : Nat} {f : Fl} {cur : Array Value} {T : TypeId} (h : W.heap[g]? = some (.cells cur T (0, 0))) : (put6 W g x f).heap[g]? = some (.cells (set6 cur x f) T (0, 0)) :=
  heap_setCell_same _ _ _ _ _ _ (heap_setCell_same _ _ _ _ _ _ (heap_setCell_same _ _ _ _ _ _ (heap_setCell_same _ _ _ _ _ _ (heap_setCell_same _ _ _ _ _ _ (heap_setCell_same _ _ _ _ _ _ h)))))
theorem put6_below {W0 W : World} {B g x : Nat} {f : Fl} (h : Below B W0 W) (hg : B ≤ g) : Below B W0 (put6 W g x f) := (((((h.setCell hg _).setCell hg _).setCell hg _).setCell hg _).setCell hg _).setCell hg _
theorem set6_size (cur : Array Value) (x : Nat) (f : Fl) : (set6 cur x f).size = cur.size := by simp [set6]
theorem set6_in (cur : Array Value) (x : Nat) (f : Fl) (c : Nat) (hc : c < 6) (hx : x + 6 ≤ cur.size) : (set6 cur x f)[x + c]? = (encF f)[c]? := by
  obtain rfl | rfl | rfl | rfl | rfl | rfl : c = 0 ∨ c = 1 ∨ c = 2 ∨ c = 3 ∨ c = 4 ∨ c = 5 := by omega
  all_goals
    simp only [set6, Array.getElem?_setIfInBounds, Array.size_setIfInBounds, encF]
    simp
    try omega
theorem set6_out (cur : Array Value) (x : Nat) (f : Fl) (y : Nat) (hy : y < x ∨ x + 6 ≤ y) : (set6 cur x f)[y]? = cur[y]? := by
  simp only [set6, Array.getElem?_setIfInBounds]
  rw [if_neg (by omega), if_neg (by omega), if_neg (by omega), if_neg (by omega), if_neg (by omega), if_neg (by omega)]

theorem zero6 (z : Array Value) (n : Nat) (h : ∀ v ∈ z, v.oneCell' = true) (hz : 0 < z.size) : ∀ v ∈ (Builtin.zeroCells z n).toList, v.oneCell' = true := by
  intro v hv
  simp only [Builtin.zeroCells, Array.toList_map, List.mem_map] at hv
  obtain ⟨i, _, rfl⟩ := hv
  have hi : i % z.size < z.size := Nat.mod_lt _ hz
  rw [getElem!_pos z _ hi]
  exact h _ (Array.getElem_mem hi)

theorem run_clear6 (w : World) (ty : TypeId) (b o n c : Nat) (hn : 0 < n) (hc : ∀ j, j < n * 6 → (w.cell? ⟨b, o + j, none⟩).isSome = true) (hf : ∀ j, w.frozen? ⟨b, j, none⟩ = false) :
    (Builtin.clear_ #[22] ty #[.slice (some ⟨b, o, none⟩) n c]).run Tryz.prog w = .ok (.tuple #[]) (w.setCells b o (Builtin.zeroCells (Value.cells (.agg #[.string ⟨#[]⟩, .string ⟨#[]⟩, .int .i64 0, .int .i64 0, .int .i64 0, .int .i64 0])) n).toList) := by
  obtain ⟨i0, hi, hz, hs, hby⟩ := Tryz.fileInfo
  have hv : ∀ w, (zeroValue 37).run Tryz.prog w = .ok (.agg #[.string ⟨#[]⟩, .string ⟨#[]⟩, .int .i64 0, .int .i64 0, .int .i64 0, .int .i64 0]) w := fun w => by simp [zeroValue, typeInfo, hi, hz]
  have hlen : (Builtin.zeroCells (Value.cells (.agg #[.string ⟨#[]⟩, .string ⟨#[]⟩, .int .i64 0, .int .i64 0, .int .i64 0, .int .i64 0])) n).toList.length = n * 6 := by
    rw [Array.length_toList, size_zeroCells]; rfl
  have hst := run_storeCells_cells (P := Tryz.prog) b o (Builtin.zeroCells (Value.cells (.agg #[.string ⟨#[]⟩, .string ⟨#[]⟩, .int .i64 0, .int .i64 0, .int .i64 0, .int .i64 0])) n).toList 0 w (by rw [hlen]; simpa using hc) (fun j _ => hf _) (zero6 _ _ (by intro v hv; simp [Value.cells] at hv; rcases hv with rfl | rfl <;> rfl) (by decide))
  simp only [Nat.add_zero] at hst
  obtain ⟨m, rfl⟩ : ∃ m, n = m + 1 := ⟨n - 1, by omega⟩
  simp [Builtin.clear_, run_underlying Tryz.underlying22, hv, hst]

theorem setCells_heap {T : TypeId} {b : Nat} : ∀ (vs : List Value) (o : Nat) (w : World) (cur : Array Value), w.heap[b]? = some (.cells cur T (0, 0)) → ∃ cur', (w.setCells b o vs).heap[b]? = some (.cells cur' T (0, 0)) ∧ cur'.size = cur.size ∧ ∀ y, y < o → cur'[y]? = cur[y]?
  | [], _, _, cur, h => ⟨cur, h, rfl, fun _ _ => rfl⟩
  | v :: r, o, w, cur, h => by
    obtain ⟨cur', h1, h2, h3⟩ := setCells_heap r (o + 1) (w.setCell ⟨b, o, none⟩ v) _ (heap_setCell_same w b o cur T v h)
    refine ⟨cur', h1, by rw [h2]; simp, fun y hy => ?_⟩
    rw [h3 y (by omega), Array.getElem?_setIfInBounds, if_neg (by omega)]
theorem setCells_below {b B : Nat} : ∀ (vs : List Value) (o : Nat) (W0 w : World), Below B W0 w → B ≤ b → Below B W0 (w.setCells b o vs)
  | [], _, _, _, h, _ => h
  | _ :: r, o, W0, _, h, hb => setCells_below r (o + 1) W0 _ (h.setCell hb _) hb

def DelInv (W : World) (g C : Nat) (P : Fl → Bool) (fs : List Fl) (i j : Nat) : Prop :=
  ∃ cur : Array Value, W.heap[g]? = some (.cells cur 37 (0, 0)) ∧ cur.size = C ∧ i = (kept P fs j).length ∧ (∀ (t : Nat) (u : Value), (flatF (kept P fs j))[t]? = some u → cur[t]? = some u) ∧ ∀ (t : Nat) (u : Value), j * 6 ≤ t → (flatF fs)[t]? = some u → cur[t]? = some u

theorem DelInv.below {W W' : World} {g C : Nat} {P : Fl → Bool} {fs : List Fl} {i j : Nat} (h : DelInv W g C P fs i j) (hb : Below W.heap.size W W') : DelInv W' g C P fs i j := by
  obtain ⟨cur, h1, h2⟩ := h
  exact ⟨cur, (hb.block g (lt_of_block h1)).trans h1, h2⟩

theorem DelInv.skip {W : World} {g C : Nat} {P : Fl → Bool} {fs : List Fl} {i j : Nat} (h : DelInv W g C P fs i j) (hj : j < fs.length) (hp : P fs[j] = false) : DelInv W g C P fs i (j + 1) := by
  obtain ⟨cur, h1, h2, h3, h4, h5⟩ := h
  have e : kept P fs (j + 1) = kept P fs j := by rw [kept_succ P fs j hj, if_neg (by rw [hp]; simp)]
  exact ⟨cur, h1, h2, by rw [e]; exact h3, by rw [e]; exact h4, fun t u ht => h5 t u (by omega)⟩

theorem DelInv.cell {W : World} {g C : Nat} {P : Fl → Bool} {fs : List Fl} {i j : Nat} (h : DelInv W g C P fs i j) (hj : j < fs.length) (c : Nat) (hc : c < 6) : W.cell? ⟨g, j * 6 + c, none⟩ = (encF fs[j])[c]? := by
  obtain ⟨cur, h1, h2, h3, h4, h5⟩ := h
  have e := flatF_get fs j c hj hc
  have hl : c < (encF fs[j]).length := by rw [encF_len]; exact hc
  rw [List.getElem?_eq_getElem hl] at e ⊢
  rw [cell_of_row _ _ _ _ _ _ h1]
  exact h5 _ _ (by omega) e

theorem DelInv.old {W : World} {g C : Nat} {P : Fl → Bool} {fs : List Fl} {i j : Nat} (h : DelInv W g C P fs i j) (x : Nat) (hx : x < C) : ∃ u, W.cell? ⟨g, x, none⟩ = some u := by
  obtain ⟨cur, h1, h2, _⟩ := h
  rw [cell_of_row _ _ _ _ _ _ h1]
  exact ⟨_, Array.getElem?_eq_getElem (by omega)⟩
theorem DelInv.fz {W : World} {g C : Nat} {P : Fl → Bool} {fs : List Fl} {i j : Nat} (h : DelInv W g C P fs i j) (x : Nat) : W.frozen? ⟨g, x, none⟩ = false := by
  obtain ⟨cur, h1, _⟩ := h
  exact frozen_of_row _ _ _ _ _ h1
theorem DelInv.le {W : World} {g C : Nat} {P : Fl → Bool} {fs : List Fl} {i j : Nat} (h : DelInv W g C P fs i j) : i ≤ j := by
  obtain ⟨cur, h1, h2, h3, _⟩ := h
  rw [h3]
  exact kept_len _ _ _

theorem DelInv.keep {W : World} {g C : Nat} {P : Fl → Bool} {fs : List Fl} {i j : Nat} (h : DelInv W g C P fs i j) (hj : j < fs.length) (hC : fs.length * 6 ≤ C) (hp : P fs[j] = true) : DelInv (put6 W g (i * 6) fs[j]) g C P fs (i + 1) (j + 1) := by
  have hij := h.le
  obtain ⟨cur, h1, h2, h3, h4, h5⟩ := h
  have e : kept P fs (j + 1) = kept P fs j ++ [fs[j]] := by rw [kept_succ P fs j hj, if_pos hp]
  refine ⟨set6 cur (i * 6) fs[j], put6_heap h1, by rw [set6_size]; exact h2, by rw [e, List.length_append, ← h3]; rfl, fun t u hu => ?_, fun t u ht hu => ?_⟩
  · rw [e, flatF_append] at hu
    have hl : (flatF (kept P fs j)).length = i * 6 := by rw [flatF_len, ← h3]
    rcases Nat.lt_or_ge t (i * 6) with h' | h'
    · rw [set6_out _ _ _ _ (Or.inl h')]
      rw [List.getElem?_append_left (by omega)] at hu
      exact h4 t u hu
    · rw [List.getElem?_append_right (by omega), hl] at hu
      have hlt : t - i * 6 < 6 := by
        rcases Nat.lt_or_ge (t - i * 6) 6 with h'' | h''
        · exact h''
        · rw [List.getElem?_eq_none (by simp [flatF, encF]; omega)] at hu; cases hu
      have e2 : flatF [fs[j]] = encF fs[j] := by simp [flatF]
      rw [e2] at hu
      have := set6_in cur (i * 6) fs[j] (t - i * 6) hlt (by omega)
      rw [show i * 6 + (t - i * 6) = t by omega] at this
      rw [this]; exact hu
  · rw [set6_out _ _ _ _ (Or.inr (by omega))]
    exact h5 t u (by omega) hu

theorem flatF_take (fs : List Fl) (n : Nat) (hn : n ≤ fs.length) : (flatF fs).take (n * 6) = flatF (fs.take n) := by
  have e : fs = fs.take n ++ fs.drop n := (List.take_append_drop n fs).symm
  conv => lhs; rw [e, flatF_append]
  have hl : (flatF (fs.take n)).length = n * 6 := by rw [flatF_len, List.length_take, Nat.min_eq_left hn]
  rw [← hl, List.take_left]

theorem kept_same {P : Fl → Bool} {fs : List Fl} : ∀ n, n ≤ fs.length → (∀ j (h : j < fs.length), j < n → P fs[j] = true) → kept P fs n = fs.take n
  | 0, _, _ => by simp [kept]
  | n + 1, hn, h => by
    rw [kept_succ P fs n (by omega), if_pos (h n (by omega) (by omega)), kept_same n (by omega) (fun j hj hjn => h j hj (by omega)), List.take_succ_eq_append_getElem (by omega)]

theorem delInv_start {W : World} {g cap : Nat} {cur : Array Value} {P : Fl → Bool} {fs : List Fl} {k : Nat} (hg : W.heap[g]? = some (.cells cur 37 (0, 0))) (hs : cur.size = cap * 6) (ht : cur.toList.take (fs.length * 6) = flatF fs) (hk : k < fs.length) (h1 : ∀ j (h : j < fs.length), j < k → P fs[j] = true) (h2 : P fs[k] = false) :
    DelInv W g (cap * 6) P fs k (k + 1) := by
  have hcur : ∀ t u, (flatF fs)[t]? = some u → cur[t]? = some u := fun t u hu => by
    have hlt : t < fs.length * 6 := by
      rw [← flatF_len]
      rcases Nat.lt_or_ge t (flatF fs).length with h' | h'
      · exact h'
      · rw [List.getElem?_eq_none h'] at hu; cases hu
    rw [← ht, List.getElem?_take, if_pos hlt, Array.getElem?_toList] at hu
    exact hu
  have e : kept P fs (k + 1) = fs.take k := by rw [kept_succ P fs k hk, if_neg (by rw [h2]; simp), kept_same k (by omega) h1]
  refine ⟨cur, hg, hs, by rw [e, List.length_take]; omega, fun t u hu => ?_, fun t u _ hu => hcur t u hu⟩
  rw [e, ← flatF_take fs k (by omega)] at hu
  rw [List.getElem?_take] at hu
  split at hu
  · exact hcur t u hu
  · cases hu

theorem own_of_del {W : World} {B g cap : Nat} {P : Fl → Bool} {fs : List Fl} {i : Nat} {cur : Array Value} (hB : B ≤ g) (hg : W.heap[g]? = some (.cells cur 37 (0, 0))) (hs : cur.size = cap * 6) (hm : cap ≤ maxLen) (hi : i = (fs.filter P).length) (hc : i ≤ cap) (hcur : ∀ (t : Nat) (u : Value), (flatF (fs.filter P))[t]? = some u → cur[t]? = some u) :
    W.ownsRow B 37 6 (.slice (some ⟨g, 0, none⟩) i cap) (fs.filter P).length (flatF (fs.filter P)) := by
  refine ⟨by rw [flatF_len], Or.inr ⟨g, cap, cur, by rw [hi], hB, hg, by omega, hm, hs, ?_⟩⟩
  apply List.ext_getElem?
  intro t
  rw [List.getElem?_take, Array.getElem?_toList]
  by_cases ht : t < (fs.filter P).length * 6
  · rw [if_pos ht]
    have hl : t < (flatF (fs.filter P)).length := by rw [flatF_len]; exact ht
    rw [List.getElem?_eq_getElem hl]
    exact hcur t _ (List.getElem?_eq_getElem hl)
  · rw [if_neg ht, List.getElem?_eq_none (by rw [flatF_len]; omega)]
end Go.Proofs.YtcpplldfmmpaoaaGreatDoor
