/-
  The contract of list.Find.
-/
import Derived.Test.YtcpplldfmmpaoaaGreatDoorObMem
namespace Go.Proofs.YtcpplldfmmpaoaaGreatDoor
open Go.RowKit Go.Extern.Stop Go.Stop Go.Extern Go.Sort Go.Shelf Go.Lib

theorem But.grown {w w' : World} {row : Option Nat} (h : w.grownBy w' row) : But (fun k => row = some k) w w' := ⟨h.os, h.tape, h.output, h.size, fun k hk hn => h.block k hk (fun e => hn e.symm)⟩

theorem FlsAt.but {P : Nat → Prop} {w w' : World} {v : Value} {fs : List Fl} (h : FlsAt w v fs) (hb : But P w w') (hp : ∀ k, v.ownBlock = some k → ¬ P k) : FlsAt w' v fs := by
  rcases h with h | ⟨b, o, cap, hv, hl, hc⟩
  · exact Or.inl h
  · refine Or.inr ⟨b, o, cap, hv, hl, fun j hj => ?_⟩
    have hn : ¬ P b := hp b (by rw [hv]; rfl)
    obtain ⟨c0, c1, c2, c3, c4, c5⟩ := hc j hj
    exact ⟨hb.keep hn c0, hb.keep hn c1, hb.keep hn c2, hb.keep hn c3, hb.keep hn c4, hb.keep hn c5⟩

theorem own_but {P : Nat → Prop} {w w' : World} {B : Nat} {e : TypeId} {z : Nat} {v : Value} {n : Nat} {xs : List Value} (h : w.ownsRow B e z v n xs) (hb : But P w w') (hp : ∀ k, v.ownBlock = some k → ¬ P k) : w'.ownsRow B e z v n xs := by
  refine ⟨h.1, ?_⟩
  rcases h.2 with h' | ⟨g, cap, cur, hv, hB, hg, rest⟩
  · exact Or.inl h'
  · exact Or.inr ⟨g, cap, cur, hv, hB, (hb.block g (lt_of_block hg) (hp g (by rw [hv]; rfl))).trans hg, rest⟩

def TsAt (w : World) (v : Value) (ts : List ByteArray) : Prop :=
  (v = .slice none 0 0 ∧ ts = []) ∨ ∃ b cap, v = .slice (some ⟨b, 0, none⟩) ts.length cap ∧ ts.length ≤ cap ∧ ∀ j (h : j < ts.length), w.cell? ⟨b, j, none⟩ = some (.string ts[j])

theorem TsAt.form {w : World} {v : Value} {ts : List ByteArray} (h : TsAt w v ts) : ∃ q c, v = .slice q ts.length c := by
  rcases h with ⟨rfl, rfl⟩ | ⟨b, cap, rfl, _⟩
  · exact ⟨_, _, rfl⟩
  · exact ⟨_, _, rfl⟩
theorem TsAt.below {w w' : World} {v : Value} {ts : List ByteArray} (h : TsAt w v ts) (hb : Below w.heap.size w w') : TsAt w' v ts := by
  rcases h with h | ⟨b, cap, hv, hl, hc⟩
  · exact Or.inl h
  · exact Or.inr ⟨b, cap, hv, hl, fun j hj => below_keep hb (hc j hj)⟩
theorem TsAt.cells {w : World} {q : Option Addr} {n c : Nat} {ts : List ByteArray} (h : TsAt w (.slice q n c) ts) (hne : ts ≠ []) : ∃ b, q = some ⟨b, 0, none⟩ ∧ ∀ j (h : j < ts.length), w.cell? ⟨b, j, none⟩ = some (.string ts[j]) := by
  rcases h with ⟨_, e⟩ | ⟨b, cap, e, _, hc⟩
  · exact absurd e hne
  · injection e with e1 e2 e3
    exact ⟨b, e1, hc⟩
theorem tsAt_own {w : World} {B : Nat} {v : Value} {ts : List ByteArray} (h : w.ownsRow B 9 1 v ts.length (ts.map Value.string)) : TsAt w v ts := by
  rcases h.2 with ⟨hv, hn⟩ | ⟨g, cap, cur, hv, _, hg, hc, _, _, ht⟩
  · exact Or.inl ⟨hv, List.length_eq_zero_iff.1 hn⟩
  · refine Or.inr ⟨g, cap, hv, hc, fun j hj => ?_⟩
    rw [cell_of_row _ _ _ _ _ _ hg]
    have e : (cur.toList.take (ts.length * 1))[j]? = (ts.map Value.string)[j]? := by rw [ht]
    rw [List.getElem?_take, if_pos (by omega), Array.getElem?_toList] at e
    rw [e]
    simp [hj]

def TxC (T : TypeId) (W : World) (tb : Nat) (s : Sn) (vb va vr : Value) : Prop := W.heap[tb]? = some (.cells #[.int .i64 s.1, .int .i64 s.2.1, .int .i64 s.2.2.1, .int .i64 s.2.2.2.1, .int .i64 s.2.2.2.2.1, .string s.2.2.2.2.2.1, vb, va, vr] T (0, 0))
theorem TxC.lt {T : TypeId} {W : World} {tb : Nat} {s : Sn} {vb va vr : Value} (h : TxC T W tb s vb va vr) : tb < W.heap.size := lt_of_block h
theorem TxC.cells {T : TypeId} {W : World} {tb : Nat} {s : Sn} {vb va vr : Value} (h : TxC T W tb s vb va vr) : W.cell? ⟨tb, 2, none⟩ = some (.int .i64 s.2.2.1) ∧ W.cell? ⟨tb, 6, none⟩ = some vb ∧ W.cell? ⟨tb, 7, none⟩ = some va ∧ W.cell? ⟨tb, 8, none⟩ = some vr := by
  refine ⟨?_, ?_, ?_, ?_⟩ <;> rw [cell_of_row _ _ _ _ _ _ h] <;> rfl
theorem TxC.fz {T : TypeId} {W : World} {tb : Nat} {s : Sn} {vb va vr : Value} (h : TxC T W tb s vb va vr) (o : Nat) : W.frozen? ⟨tb, o, none⟩ = false := frozen_of_row _ _ _ _ _ h
theorem TxC.set7 {T : TypeId} {W : World} {tb : Nat} {s : Sn} {vb va vr : Value} (h : TxC T W tb s vb va vr) (x : Value) : TxC T (W.setCell ⟨tb, 7, none⟩ x) tb s vb x vr := by
  unfold TxC at *
  rw [heap_setCell_same _ _ _ _ _ _ h]
  rfl
theorem TxC.set8 {T : TypeId} {W : World} {tb : Nat} {s : Sn} {vb va vr : Value} (h : TxC T W tb s vb va vr) (x : Value) : TxC T (W.setCell ⟨tb, 8, none⟩ x) tb s vb va x := by
  unfold TxC at *
  rw [heap_setCell_same _ _ _ _ _ _ h]
  rfl
theorem TxC.but {P : Nat → Prop} {T : TypeId} {W W' : World} {tb : Nat} {s : Sn} {vb va vr : Value} (h : TxC T W tb s vb va vr) (hb : But P W W') (hp : ¬ P tb) : TxC T W' tb s vb va vr := (hb.block tb h.lt hp).trans h

structure TxIn (T : TypeId) (B : Nat) (W : World) (tb : Nat) (vb va vr : Value) (t : Tx) : Prop where
  cells : TxC T W tb t.1 vb va vr
  lo : B ≤ tb
  base : FlsAt W vb t.1.2.2.2.2.2.2
  adds : W.ownsRow B 37 6 va t.2.1.length (flatF t.2.1)
  rems : W.ownsRow B 9 1 vr t.2.2.length (t.2.2.map Value.string)
  nb : ∀ k, vb.ownBlock = some k → k ≠ tb ∧ va.ownBlock ≠ some k ∧ vr.ownBlock ≠ some k

def fpT (tb : Nat) (va vr : Value) (k : Nat) : Prop := k = tb ∨ va.ownBlock = some k ∨ vr.ownBlock = some k

theorem TxIn.but {P : Nat → Prop} {T : TypeId} {B : Nat} {W W' : World} {tb : Nat} {vb va vr : Value} {t : Tx} (h : TxIn T B W tb vb va vr t) (hb : But P W W') (hp : ∀ k, fpT tb va vr k → ¬ P k) (hq : ∀ k, vb.ownBlock = some k → ¬ P k) : TxIn T B W' tb vb va vr t :=
  ⟨h.cells.but hb (hp tb (Or.inl rfl)), h.lo, h.base.but hb hq, own_but h.adds hb (fun k hk => hp k (Or.inr (Or.inl hk))), own_but h.rems hb (fun k hk => hp k (Or.inr (Or.inr hk))), h.nb⟩
theorem TxIn.below {T : TypeId} {B : Nat} {W W' : World} {tb : Nat} {vb va vr : Value} {t : Tx} (h : TxIn T B W tb vb va vr t) (hb : Below W.heap.size W W') : TxIn T B W' tb vb va vr t :=
  h.but (But.of_below (P := fun _ => False) hb) (fun _ _ h => h) (fun _ _ h => h)

theorem own_blk {w : World} {B : Nat} {e : TypeId} {z : Nat} {v : Value} {n : Nat} {xs : List Value} (h : w.ownsRow B e z v n xs) {k : Nat} (hk : v.ownBlock = some k) : B ≤ k ∧ k < w.heap.size ∧ ∃ cur, w.heap[k]? = some (.cells cur e (0, 0)) := by
  rcases h.2 with ⟨rfl, _⟩ | ⟨g, cap, cur, rfl, hB, hg, _⟩
  · simp [Value.ownBlock] at hk
  · simp only [Value.ownBlock, Option.some.injEq] at hk
    subst hk
    exact ⟨hB, lt_of_block hg, cur, hg⟩

theorem TxIn.apart {T : TypeId} {B : Nat} {W : World} {tb : Nat} {vb va vr : Value} {t : Tx} (h : TxIn T B W tb vb va vr t) (h1 : T ≠ 37) (h2 : T ≠ 9) : va.ownBlock ≠ some tb ∧ vr.ownBlock ≠ some tb ∧ ∀ k, va.ownBlock = some k → vr.ownBlock ≠ some k := by
  refine ⟨fun e => ?_, fun e => ?_, fun k e1 e2 => ?_⟩
  · obtain ⟨_, _, cur, hc⟩ := own_blk h.adds e
    have := h.cells.symm.trans hc
    simp only [Option.some.injEq, Obj.cells.injEq] at this
    exact h1 this.2.1
  · obtain ⟨_, _, cur, hc⟩ := own_blk h.rems e
    have := h.cells.symm.trans hc
    simp only [Option.some.injEq, Obj.cells.injEq] at this
    exact h2 this.2.1
  · obtain ⟨_, _, c1, g1⟩ := own_blk h.adds e1
    obtain ⟨_, _, c2, g2⟩ := own_blk h.rems e2
    have := g1.symm.trans g2
    simp only [Option.some.injEq, Obj.cells.injEq] at this
    exact absurd this.2.1 (by decide)

theorem TxIn.added {T : TypeId} {B : Nat} {W W2 : World} {tb : Nat} {vb va vr va' : Value} {t : Tx} (h : TxIn T B W tb vb va vr t) (h1 : T ≠ 37) (h2 : T ≠ 9) {fs : List Fl} (ho : W2.ownsRow B 37 6 va' fs.length (flatF fs))
    (hg : W.grownBy W2 va.ownBlock) (hv : va'.ownBlock = va.ownBlock ∨ va'.ownBlock = some W.heap.size) (hvb : ∀ k, vb.ownBlock = some k → k < W.heap.size) :
    TxIn T B (W2.setCell ⟨tb, 7, none⟩ va') tb vb va' vr (t.1, fs, t.2.2) ∧ But (fpT tb va vr) W (W2.setCell ⟨tb, 7, none⟩ va') ∧ ∀ k, fpT tb va' vr k → fpT tb va vr k ∨ W.heap.size ≤ k := by
  obtain ⟨a1, a2, a3⟩ := h.apart h1 h2
  have b1 := But.grown hg
  have c1 : TxC T W2 tb t.1 vb va vr := h.cells.but b1 a1
  have b2 : But (fun k => k = tb) W2 (W2.setCell ⟨tb, 7, none⟩ va') := (But.refl (fun k => k = tb) W2).setCell (Or.inl (Eq.refl tb)) _
  have hlt := h.cells.lt
  have ha' : va'.ownBlock ≠ some tb := fun e => by
    rcases hv with hv | hv
    · exact a1 (hv.symm.trans e)
    · rw [hv] at e
      injection e with e
      omega
  have hbv : ∀ k, vb.ownBlock = some k → ¬ va.ownBlock = some k := fun k hk => (h.nb k hk).2.1
  refine ⟨⟨c1.set7 _, h.lo, (h.base.but b1 hbv).but b2 (fun k hk => (h.nb k hk).1), own_but ho b2 (fun k hk e => ha' (by rw [← e]; exact hk)), own_but (own_but h.rems b1 (fun k hk e => a3 k e hk)) b2 (fun k hk e => a2 (by rw [← e]; exact hk)), fun k hk => ⟨(h.nb k hk).1, fun e => ?_, (h.nb k hk).2.2⟩⟩, ?_, fun k hk => ?_⟩
  · rcases hv with hv | hv
    · exact (h.nb k hk).2.1 (hv.symm.trans e)
    · rw [hv] at e
      injection e with e
      have := hvb k hk
      omega
  · exact (b1.mono fun k hk => Or.inr (Or.inl hk)).trans b2 (fun k hk _ => Or.inl hk)
  · rcases hk with hk | hk | hk
    · exact Or.inl (Or.inl hk)
    · rcases hv with hv | hv
      · exact Or.inl (Or.inr (Or.inl (hv.symm.trans hk)))
      · rw [hv] at hk
        injection hk with hk
        exact Or.inr (by omega)
    · exact Or.inl (Or.inr (Or.inr hk))

theorem TxIn.removed {T : TypeId} {B : Nat} {W W2 : World} {tb : Nat} {vb va vr vr' : Value} {t : Tx} (h : TxIn T B W tb vb va vr t) (h1 : T ≠ 37) (h2 : T ≠ 9) {ps : List ByteArray} (ho : W2.ownsRow B 9 1 vr' ps.length (ps.map Value.string))
    (hg : W.grownBy W2 vr.ownBlock) (hv : vr'.ownBlock = vr.ownBlock ∨ vr'.ownBlock = some W.heap.size) (hvb : ∀ k, vb.ownBlock = some k → k < W.heap.size) :
    TxIn T B (W2.setCell ⟨tb, 8, none⟩ vr') tb vb va vr' (t.1, t.2.1, ps) ∧ But (fpT tb va vr) W (W2.setCell ⟨tb, 8, none⟩ vr') ∧ ∀ k, fpT tb va vr' k → fpT tb va vr k ∨ W.heap.size ≤ k := by
  obtain ⟨a1, a2, a3⟩ := h.apart h1 h2
  have b1 := But.grown hg
  have c1 : TxC T W2 tb t.1 vb va vr := h.cells.but b1 a2
  have b2 : But (fun k => k = tb) W2 (W2.setCell ⟨tb, 8, none⟩ vr') := (But.refl (fun k => k = tb) W2).setCell (Or.inl (Eq.refl tb)) _
  have hlt := h.cells.lt
  have ha' : vr'.ownBlock ≠ some tb := fun e => by
    rcases hv with hv | hv
    · exact a2 (hv.symm.trans e)
    · rw [hv] at e
      injection e with e
      omega
  have hbv : ∀ k, vb.ownBlock = some k → ¬ vr.ownBlock = some k := fun k hk => (h.nb k hk).2.2
  refine ⟨⟨c1.set8 _, h.lo, (h.base.but b1 hbv).but b2 (fun k hk => (h.nb k hk).1), own_but (own_but h.adds b1 (fun k hk e => a3 k hk e)) b2 (fun k hk e => a1 (by rw [← e]; exact hk)), own_but ho b2 (fun k hk e => ha' (by rw [← e]; exact hk)), fun k hk => ⟨(h.nb k hk).1, (h.nb k hk).2.1, fun e => ?_⟩⟩, ?_, fun k hk => ?_⟩
  · rcases hv with hv | hv
    · exact (h.nb k hk).2.2 (hv.symm.trans e)
    · rw [hv] at e
      injection e with e
      have := hvb k hk
      omega
  · exact (b1.mono fun k hk => Or.inr (Or.inr hk)).trans b2 (fun k hk _ => Or.inl hk)
  · rcases hk with hk | hk | hk
    · exact Or.inl (Or.inl hk)
    · exact Or.inl (Or.inr (Or.inl hk))
    · rcases hv with hv | hv
      · exact Or.inl (Or.inr (Or.inr (hv.symm.trans hk)))
      · rw [hv] at hk
        injection hk with hk
        exact Or.inr (by omega)

def TxHas (T : TypeId) (B : Nat) (W : World) (v : Value) (FP : Nat → Prop) (t : Tx) : Prop :=
  ∃ tb vb va vr, v = .pointer (some ⟨tb, 0, none⟩) ∧ TxIn T B W tb vb va vr t ∧ (∀ k, fpT tb va vr k → FP k) ∧ (∀ k, vb.ownBlock = some k → (FP k ∨ k < B) ∧ k < W.heap.size) ∧ ∀ k, FP k → B ≤ k ∧ k < W.heap.size

theorem TxHas.but {P : Nat → Prop} {T : TypeId} {B : Nat} {W W' : World} {v : Value} {FP : Nat → Prop} {t : Tx} (h : TxHas T B W v FP t) (hb : But P W W') (hp : ∀ k, P k → B ≤ k ∧ ¬ FP k) : TxHas T B W' v FP t := by
  obtain ⟨tb, vb, va, vr, rfl, hin, h1, h2, h3⟩ := h
  refine ⟨tb, vb, va, vr, rfl, hin.but hb (fun k hk hP => (hp k hP).2 (h1 k hk)) (fun k hk hP => ?_), h1, fun k hk => ⟨(h2 k hk).1, Nat.lt_of_lt_of_le (h2 k hk).2 hb.size⟩, fun k hk => ⟨(h3 k hk).1, Nat.lt_of_lt_of_le (h3 k hk).2 hb.size⟩⟩
  rcases (h2 k hk).1 with h | h
  · exact (hp k hP).2 h
  · exact absurd (hp k hP).1 (by omega)
theorem TxHas.below {T : TypeId} {B : Nat} {W W' : World} {v : Value} {FP : Nat → Prop} {t : Tx} (h : TxHas T B W v FP t) (hb : Below W.heap.size W W') : TxHas T B W' v FP t :=
  h.but (But.of_below (P := fun _ => False) hb) (fun _ h => h.elim)

def TxPost (T : TypeId) (B : Nat) (W : World) (v : Value) (FP : Nat → Prop) (t : Tx) (w' : World) : Prop := ∃ FP', TxHas T B w' v FP' t ∧ But FP W w' ∧ ∀ k, FP' k → FP k ∨ W.heap.size ≤ k

theorem tx_post {T : TypeId} {B : Nat} {W W1 W3 : World} {tb : Nat} {vb va vr va' vr' : Value} {t : Tx} {FP : Nat → Prop} (hfp : ∀ k, fpT tb va vr k → FP k) (hvb : ∀ k, vb.ownBlock = some k → (FP k ∨ k < B) ∧ k < W.heap.size) (hFP : ∀ k, FP k → B ≤ k ∧ k < W.heap.size)
    (hW : Below W.heap.size W W1) (hin : TxIn T B W3 tb vb va' vr' t) (hbut : But (fpT tb va vr) W1 W3) (hnew : ∀ k, fpT tb va' vr' k → fpT tb va vr k ∨ W1.heap.size ≤ k) : TxPost T B W (.pointer (some ⟨tb, 0, none⟩)) FP t W3 := by
  have hs : W.heap.size ≤ W3.heap.size := Nat.le_trans hW.size hbut.size
  refine ⟨fun k => FP k ∨ fpT tb va' vr' k, ⟨tb, vb, va', vr', rfl, hin, fun k hk => Or.inr hk, fun k hk => ⟨?_, Nat.lt_of_lt_of_le (hvb k hk).2 hs⟩, fun k hk => ?_⟩, ?_, fun k hk => ?_⟩
  · rcases (hvb k hk).1 with h | h
    · exact Or.inl (Or.inl h)
    · exact Or.inr h
  · rcases hk with hk | hk
    · exact ⟨(hFP k hk).1, Nat.lt_of_lt_of_le (hFP k hk).2 hs⟩
    · rcases hk with rfl | hk | hk
      · exact ⟨hin.lo, hin.cells.lt⟩
      · exact ⟨(own_blk hin.adds hk).1, (own_blk hin.adds hk).2.1⟩
      · exact ⟨(own_blk hin.rems hk).1, (own_blk hin.rems hk).2.1⟩
  · exact (But.of_below hW).trans (hbut.mono hfp) (fun _ h _ => h)
  · rcases hk with hk | hk
    · exact Or.inl hk
    · rcases hnew k hk with h | h
      · exact Or.inl (hfp k h)
      · exact Or.inr (Nat.le_trans hW.size h)

theorem tx_same {T : TypeId} {B : Nat} {W w' : World} {v : Value} {FP : Nat → Prop} {t : Tx} (h : TxHas T B W v FP t) (hb : Below W.heap.size W w') : TxPost T B W v FP t w' := ⟨FP, h.below hb, But.of_below hb, fun _ h => Or.inl h⟩
end Go.Proofs.YtcpplldfmmpaoaaGreatDoor
namespace Go.Proofs.YtcpplldfmmpaoaaGreatDoor
open Go.RowKit Go.Extern.Stop Go.Stop Go.Extern Go.Sort Go.Shelf Go.Lib

set_option maxRecDepth 100000 in
set_option maxHeartbeats 1000000 in
theorem find1_any (f : Fl) (p : ByteArray) (pb : Nat) (w : World) (hp : w.cell? ⟨pb, 0, none⟩ = some (.string p)) :
    Calls Tryz.prog 51 #[flV f, .pointer (some ⟨pb, 0, none⟩)] w fun e w' => e = .returned (.bool (decide (f.1 = p))) ∧ Below w.heap.size w w' := by
  have hal : Below w.heap.size w (w.alloc (.cells #[.string f.1, .string f.2.1, .int .i64 f.2.2.1, .int .i64 f.2.2.2.1, .int .i64 f.2.2.2.2.1, .int .i64 f.2.2.2.2.2] 37)) := (Below.refl _ _).alloc (Nat.le_refl _) _
  have z0 := (FlAt.new w f).cells.1
  have hp2 := below_keep hal hp
  unfold flV
  obtain ⟨fp, fq, fn, flo, fhi, fseq⟩ := f
  dsimp only at hal z0 hp2 ⊢
  by_cases he : fp = p
  · subst he
    have d1 : (fp.toList == fp.toList) = true := by simp
    rw [decide_eq_true rfl]
    go_enter Tryz.func51, Tryz.ntmps51
    go_upto_region 1 with fail
    generalize w.alloc (.cells #[.string fp, .string fq, .int .i64 fn, .int .i64 flo, .int .i64 fhi, .int .i64 fseq] 37) = WA at hal z0 hp2 ⊢
    go_wp2
    go_ret
    exact ⟨rfl, hal⟩
  · have d1 : (fp.toList == p.toList) = false := neBB (fun e => he (part_ext e))
    rw [decide_eq_false he]
    go_enter Tryz.func51, Tryz.ntmps51
    go_upto_region 1 with fail
    generalize w.alloc (.cells #[.string fp, .string fq, .int .i64 fn, .int .i64 flo, .int .i64 fhi, .int .i64 fseq] 37) = WA at hal z0 hp2 ⊢
    go_wp2
    go_ret
    exact ⟨rfl, hal⟩

set_option maxRecDepth 100000 in
set_option maxHeartbeats 4000000 in
theorem indexF_any (v : Value) (fs : List Fl) (p : ByteArray) (pb : Nat) (w : World) (hx : FlsAt w v fs) (hl : fs.length ≤ 20000) (hp : w.cell? ⟨pb, 0, none⟩ = some (.string p)) :
    Calls Tryz.prog 50 #[v, .func (.func 51) #[] #[.pointer (some ⟨pb, 0, none⟩)]] w fun e w' => e = .returned (.int .i64 (findF fs p)) ∧ Below w.heap.size w w' := by
  have eg : ∀ args w, (callFunc 51 args).run Tryz.prog w = .ok (.enter 51 args) w := enters_of Tryz.func51 (by kernel_rfl) rfl
  obtain ⟨q, cap, rfl⟩ := hx.form
  have HFX : Hid (FlsAt w (.slice q fs.length cap) fs) := hx
  have HP : Hid (∀ W, Below w.heap.size w W → W.cell? ⟨pb, 0, none⟩ = some (.string p)) := fun W hb => below_keep hb hp
  obtain ⟨L, hL⟩ : ∃ L, fs.length = L := ⟨_, rfl⟩
  have HX : Hid (fs.length = L) := hL
  rw [hL] at hl ⊢
  generalize hR : findF fs p = R
  have HR : Hid (findF fs p = R) := hR
  clear hL hx hR hp
  go_enter Tryz.func50, Tryz.ntmps50
  go_wp2
  go_loopw [8] (fun k wr => ∃ n : Nat, n ≤ L ∧ k = .int .i64 n ∧ (∀ j (h : j < fs.length), j < n → fs[j].1 ≠ p) ∧ Below w.heap.size w wr) (fun k _ => L - (intOf k).toNat)
  case atStart => exact ⟨0, by omega, rfl, fun j h h' => absurd h' (Nat.not_lt_zero _), Below.refl _ _⟩
  case round =>
    obtain ⟨n, hn, rfl, hno, hb⟩ := hrel
    have HNO : Hid (∀ j (h : j < fs.length), j < n → fs[j].1 ≠ p) := hno
    clear hno
    by_cases hlt : n < L
    · have hltx : n < fs.length := by rw [HX.out]; exact hlt
      obtain ⟨b, o, hq, hc⟩ := (HFX.out.below hb).cells (fun e => by rw [e] at hltx; simp at hltx)
      subst hq
      obtain ⟨c0, c1, c2, c3, c4, c5⟩ := hc n hltx
      have hcl := find1_any fs[n] p pb wr (HP.out wr hb)
      have hi : (n : Int) < (L : Int) := by omega
      have hi0' : (0 : Int) ≤ (n : Int) := by omega
      by_cases he : fs[n].1 = p
      · have hRR : R = n := by rw [← HR.out]; exact findF_at hltx HNO.out he
        subst hRR
        rw [decide_eq_true he] at hcl
        unfold flV at hcl
        clear hc he
        generalize fs[n] = f at c0 c1 c2 c3 c4 c5 hcl
        clear hltx
        obtain ⟨fp, fq, fn, flo, fhi, fseq⟩ := f
        dsimp only at c0 c1 c2 c3 c4 c5 hcl
        go_wp2_with (go_at_fn 51; refine hcl.mono ?_; rintro e w2 ⟨rfl, hb2⟩)
        go_ret
        exact ⟨rfl, hb.trans (hb2.mono hb.size)⟩
      · have HN1 : Hid (∀ j (h : j < fs.length), j < n + 1 → fs[j].1 ≠ p) := nopath_succ HNO.out hltx he
        rw [decide_eq_false he] at hcl
        unfold flV at hcl
        clear hc he
        generalize fs[n] = f at c0 c1 c2 c3 c4 c5 hcl
        clear hltx
        obtain ⟨fp, fq, fn, flo, fhi, fseq⟩ := f
        dsimp only at c0 c1 c2 c3 c4 c5 hcl
        go_wp2_with (go_at_fn 51; refine hcl.mono ?_; rintro e w2 ⟨rfl, hb2⟩)
        have hb3 : Below w.heap.size w w2 := hb.trans (hb2.mono hb.size)
        go_roundw
        case rel => exact ⟨n + 1, by omega, by go_num, HN1.out, hb3⟩
        case measure => simp [intOf]; omega
    · obtain rfl : n = L := by omega
      have hRR : R = -1 := by rw [← HR.out]; exact findF_no (fun j hj => HNO.out j hj (by rw [← HX.out]; exact hj))
      subst hRR
      go_wp2
      go_ret
      exact ⟨rfl, hb⟩

set_option maxRecDepth 100000 in
set_option maxHeartbeats 1000000 in
theorem find_any (v : Value) (fs : List Fl) (p : ByteArray) (w : World) (hx : FlsAt w v fs) (hl : fs.length ≤ 20000) :
    Calls Tryz.prog 29 #[v, .string p] w fun e w' => e = .returned (.int .i64 (findF fs p)) ∧ Below w.heap.size w w' := by
  have hal : Below w.heap.size w (w.alloc (.cells #[.string p] 9)) := (Below.refl _ _).alloc (Nat.le_refl _) _
  have hix := indexF_any v fs p w.heap.size (w.alloc (.cells #[.string p] 9)) (hx.below hal) hl (by simp)
  obtain ⟨q, cap, rfl⟩ := hx.form
  generalize fs.length = L at hix ⊢
  clear hx
  go_enter Tryz.func29, Tryz.ntmps29
  go_wp2_with fail
  refine hix.mono ?_
  rintro e w1 ⟨rfl, hb1⟩
  clear hix
  go_wp2
  go_ret
  exact ⟨rfl, hal.trans (hb1.mono hal.size)⟩
end Go.Proofs.YtcpplldfmmpaoaaGreatDoor
