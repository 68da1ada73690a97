/-
  Snaps in memory; the contract of the document's own KeepOf.
-/
import Derived.Test.YtbdhdlloihkibaaGreatDoorExpPure
import Derived.Deep.CutRange
import Derived.BigFrame
namespace Go.Proofs.YtbdhdlloihkibaaGreatDoor
open Go.RowKit Go.Extern.Stop Go.Stop Go.Extern Go.Sort Go.Shelf Go.Lib

structure But (P : Nat → Prop) (w w' : World) : Prop where
  os : w'.os = w.os
  tape : w'.tape = w.tape
  output : w'.output = w.output
  size : w.heap.size ≤ w'.heap.size
  block : ∀ k, k < w.heap.size → ¬ P k → w'.heap[k]? = w.heap[k]?

theorem But.refl (P : Nat → Prop) (w : World) : But P w w := ⟨rfl, rfl, rfl, Nat.le_refl _, fun _ _ _ => rfl⟩
theorem But.trans {P Q : Nat → Prop} {a b c : World} (h : But P a b) (k : But Q b c) (hq : ∀ i, Q i → i < a.heap.size → P i) : But P a c :=
  ⟨k.os.trans h.os, k.tape.trans h.tape, k.output.trans h.output, Nat.le_trans h.size k.size, fun i hi hp => (k.block i (Nat.lt_of_lt_of_le hi h.size) (fun hQ => hp (hq i hQ hi))).trans (h.block i hi hp)⟩
theorem But.of_below {P : Nat → Prop} {w w' : World} (h : Below w.heap.size w w') : But P w w' := ⟨h.os, h.tape, h.output, h.size, fun k hk _ => h.block k hk⟩
theorem But.below {P : Nat → Prop} {w w' : World} (h : But P w w') {B : Nat} (hB : B ≤ w.heap.size) (hp : ∀ k, P k → B ≤ k) : Below B w w' :=
  ⟨h.os, h.tape, h.output, h.size, fun k hk => h.block k (Nat.lt_of_lt_of_le hk hB) (fun hP => Nat.lt_irrefl _ (Nat.lt_of_lt_of_le hk (hp k hP)))⟩
theorem But.mono {P Q : Nat → Prop} {w w' : World} (h : But P w w') (hq : ∀ k, P k → Q k) : But Q w w' := ⟨h.os, h.tape, h.output, h.size, fun k hk hQ => h.block k hk (fun hP => hQ (hq k hP))⟩
theorem But.setCell {P : Nat → Prop} {a w : World} (h : But P a w) {b o : Nat} (hp : P b ∨ a.heap.size ≤ b) (u : Value) : But P a (w.setCell ⟨b, o, none⟩ u) := by
  refine ⟨h.os, h.tape, h.output, ?_, fun k hk hP => ?_⟩
  · have : (w.setCell ⟨b, o, none⟩ u).heap.size = w.heap.size := by simp [World.setCell]
    rw [this]; exact h.size
  · rw [heap_setCell_other _ _ _ _ (fun e => by
      subst e
      rcases hp with hp | hp
      · exact hP hp
      · omega)]
    exact h.block k hk hP
theorem But.keep {P : Nat → Prop} {w w' : World} (h : But P w w') {b o : Nat} {v : Value} (hb : ¬ P b) (hc : w.cell? ⟨b, o, none⟩ = some v) : w'.cell? ⟨b, o, none⟩ = some v := by
  have e := h.block b (cell_lt hc) hb
  rw [← hc]
  unfold World.cell?
  rw [e]

def encO (f : Ob) : List Value := [.string f.1, .string f.2.1, .int .i64 f.2.2]

def ObCells (w : World) (b o : Nat) (fs : List Ob) : Prop :=
  ∀ j (h : j < fs.length), w.cell? ⟨b, o + j * 3, none⟩ = some (.string fs[j].1) ∧ w.cell? ⟨b, o + j * 3 + 1, none⟩ = some (.string fs[j].2.1) ∧ w.cell? ⟨b, o + j * 3 + 2, none⟩ = some (.int .i64 fs[j].2.2)

def ObsAt (w : World) (v : Value) (fs : List Ob) : Prop :=
  (∃ p c, v = .slice p 0 c ∧ (p = none → c = 0) ∧ fs = []) ∨ ∃ b o cap, v = .slice (some ⟨b, o, none⟩) fs.length cap ∧ fs.length ≤ cap ∧ ObCells w b o fs

theorem ObCells.below {w w' : World} {b o : Nat} {fs : List Ob} (h : ObCells w b o fs) (hb : Below w.heap.size w w') : ObCells w' b o fs :=
  fun j hj => ⟨below_keep hb (h j hj).1, below_keep hb (h j hj).2.1, below_keep hb (h j hj).2.2⟩
theorem ObsAt.below {w w' : World} {v : Value} {fs : List Ob} (h : ObsAt w v fs) (hb : Below w.heap.size w w') : ObsAt w' v fs := by
  rcases h with h | ⟨b, o, cap, hv, hl, hc⟩
  · exact Or.inl h
  · exact Or.inr ⟨b, o, cap, hv, hl, hc.below hb⟩
theorem ObsAt.form {w : World} {v : Value} {fs : List Ob} (h : ObsAt w v fs) : ∃ p c, v = .slice p fs.length c := by
  rcases h with ⟨p, c, rfl, _, rfl⟩ | ⟨b, o, cap, rfl, _⟩
  · exact ⟨_, _, rfl⟩
  · exact ⟨_, _, rfl⟩
theorem ObsAt.cells {w : World} {q : Option Addr} {n c : Nat} {fs : List Ob} (h : ObsAt w (.slice q n c) fs) (hne : fs ≠ []) : ∃ b o, q = some ⟨b, o, none⟩ ∧ ObCells w b o fs := by
  rcases h with ⟨_, _, _, _, e⟩ | ⟨b, o, cap, e, _, hc⟩
  · exact absurd e hne
  · simp only [Value.slice.injEq] at e
    exact ⟨b, o, e.1, hc⟩
theorem ObsAt.room {w : World} {q : Option Addr} {n c : Nat} {fs : List Ob} (h : ObsAt w (.slice q n c) fs) : n = fs.length ∧ (fs ≠ [] → n ≤ c) := by
  rcases h with ⟨p, c', e, _, rfl⟩ | ⟨b, o, cap, e, hl, hc⟩
  · simp only [Value.slice.injEq] at e
    exact ⟨e.2.1, fun h => absurd rfl h⟩
  · simp only [Value.slice.injEq] at e
    obtain ⟨_, rfl, rfl⟩ := e
    exact ⟨rfl, fun _ => hl⟩

def flatO (fs : List Ob) : List Value := fs.flatMap encO
theorem encO_len (f : Ob) : (encO f).length = 3 := rfl
theorem encO_one (f : Ob) : ∀ u ∈ encO f, u.oneCell' = true := by
  intro u hu
  simp only [encO, List.mem_cons, List.not_mem_nil, or_false] at hu
  rcases hu with rfl | rfl | rfl <;> rfl
theorem flatO_len : ∀ fs : List Ob, (flatO fs).length = fs.length * 3
  | [] => rfl
  | f :: fs => by
    have := flatO_len fs
    simp only [flatO, List.flatMap_cons, List.length_append, List.length_cons] at *
    rw [this, encO_len]; omega
theorem flatO_one (fs : List Ob) : ∀ u ∈ flatO fs, u.oneCell' = true := by
  intro u hu
  simp only [flatO, List.mem_flatMap] at hu
  obtain ⟨f, _, hf⟩ := hu
  exact encO_one f u hf
theorem flatO_append (xs ys : List Ob) : flatO (xs ++ ys) = flatO xs ++ flatO ys := by simp [flatO]
theorem flatO_get : ∀ (fs : List Ob) (j c : Nat) (h : j < fs.length), c < 3 → (flatO fs)[j * 3 + c]? = (encO fs[j])[c]?
  | [], j, _, h, _ => by simp at h
  | f :: fs, 0, c, _, hc => by
    simp only [flatO, List.flatMap_cons, Nat.zero_mul, Nat.zero_add, List.getElem_cons_zero]
    rw [List.getElem?_append_left (by rw [encO_len]; exact hc)]
  | f :: fs, j + 1, c, h, hc => by
    have hj : j < fs.length := by simp at h; omega
    have := flatO_get fs j c hj hc
    simp only [flatO, List.flatMap_cons, List.getElem_cons_succ] at *
    rw [List.getElem?_append_right (by rw [encO_len]; omega), encO_len, show (j + 1) * 3 + c - 3 = j * 3 + c by omega]
    exact this
theorem cellsO_flat {w : World} {b o : Nat} {fs : List Ob} (h : ObCells w b o fs) : ∀ t u, (flatO fs)[t]? = some u → w.cell? ⟨b, o + t, none⟩ = some u := by
  intro t u hu
  have ht : t < (flatO fs).length := by
    rcases Nat.lt_or_ge t (flatO fs).length with h' | h'
    · exact h'
    · rw [List.getElem?_eq_none h'] at hu; cases hu
  rw [flatO_len] at ht
  have hj : t / 3 < fs.length := by omega
  have e : t = t / 3 * 3 + t % 3 := by omega
  rw [e, flatO_get fs (t / 3) (t % 3) hj (by omega)] at hu
  obtain ⟨h0, h1, h2⟩ := h (t / 3) hj
  have hm : t % 3 = 0 ∨ t % 3 = 1 ∨ t % 3 = 2 := by omega
  rcases hm with hm | hm | hm <;> rw [hm] at hu <;> simp only [encO, List.getElem?_cons_succ, List.getElem?_cons_zero, Option.some.injEq] at hu
  · rw [← hu, ← h0]; congr 2; omega
  · rw [← hu, ← h1]; congr 2; omega
  · rw [← hu, ← h2]; congr 2; omega
theorem obCells_of {w : World} {b o : Nat} {fs : List Ob} (h : ∀ t u, (flatO fs)[t]? = some u → w.cell? ⟨b, o + t, none⟩ = some u) : ObCells w b o fs := fun j hj => by
  have g : ∀ c (hc : c < 3), w.cell? ⟨b, o + (j * 3 + c), none⟩ = (encO fs[j])[c]? := fun c hc => by
    have e := flatO_get fs j c hj hc
    have hl : c < (encO fs[j]).length := by rw [encO_len]; exact hc
    rw [List.getElem?_eq_getElem hl] at e ⊢
    exact h _ _ e
  refine ⟨?_, ?_, ?_⟩
  · simpa [encO] using g 0 (by omega)
  · simpa [encO, Nat.add_assoc] using g 1 (by omega)
  · simpa [encO, Nat.add_assoc] using g 2 (by omega)
theorem obsAt_of_own {w : World} {base : Nat} {v : Value} {n : Nat} {fs : List Ob} (h : w.ownsRow base 94 3 v n (flatO fs)) : ObsAt w v fs ∧ n = fs.length := by
  obtain ⟨hl, h⟩ := h
  have hn : n = fs.length := by rw [flatO_len] at hl; omega
  refine ⟨?_, hn⟩
  subst hn
  rcases h with ⟨hv, hn⟩ | ⟨g, cap, cur, rfl, _, hg, hcp, _, _, ht⟩
  · exact Or.inl ⟨none, 0, by rw [hv], fun _ => rfl, List.length_eq_zero_iff.1 hn⟩
  · refine Or.inr ⟨g, 0, cap, rfl, hcp, obCells_of fun t u hu => ?_⟩
    have ht' : t < fs.length * 3 := by
      rw [← flatO_len]
      rcases Nat.lt_or_ge t (flatO fs).length with h' | h'
      · exact h'
      · rw [List.getElem?_eq_none h'] at hu; cases hu
    rw [← ht, List.getElem?_take, if_pos ht'] at hu
    simp only [World.cell?, hg, Nat.zero_add]
    simpa using hu

theorem Tryz.objInfo3 : (Tryz.prog.info? 94).map (fun i => (i.zero, i.size, i.bytes)) = some (some (.agg #[.string ⟨#[]⟩, .string ⟨#[]⟩, .int .i64 0]), 3, 40) := by kernel_rfl
theorem Tryz.objInfo : ∃ i0 : TypeInfo, Tryz.prog.info? 94 = some i0 ∧ i0.zero = some (.agg #[.string ⟨#[]⟩, .string ⟨#[]⟩, .int .i64 0]) ∧ i0.size = 3 ∧ i0.bytes = 40 := by
  obtain ⟨i, hi, h⟩ := Option.map_eq_some_iff.1 Tryz.objInfo3
  simp only [Prod.mk.injEq] at h
  exact ⟨i, hi, h.1, h.2.1, h.2.2⟩
end Go.Proofs.YtbdhdlloihkibaaGreatDoor
namespace Go.Proofs.YtbdhdlloihkibaaGreatDoor
open Go.RowKit Go.Extern.Stop Go.Stop Go.Extern Go.Sort Go.Shelf Go.Lib

theorem But.grown {w w' : World} {row : Option Nat} (h : w.grownBy w' row) : But (fun k => row = some k) w w' := ⟨h.os, h.tape, h.output, h.size, fun k hk hn => h.block k hk (fun e => hn e.symm)⟩

theorem own_but {P : Nat → Prop} {w w' : World} {B : Nat} {e : TypeId} {z : Nat} {v : Value} {n : Nat} {xs : List Value} (h : w.ownsRow B e z v n xs) (hb : But P w w') (hp : ∀ k, v.ownBlock = some k → ¬ P k) : w'.ownsRow B e z v n xs := by
  refine ⟨h.1, ?_⟩
  rcases h.2 with h' | ⟨g, cap, cur, hv, hB, hg, rest⟩
  · exact Or.inl h'
  · exact Or.inr ⟨g, cap, cur, hv, hB, (hb.block g (lt_of_block hg) (hp g (by rw [hv]; rfl))).trans hg, rest⟩

theorem own_blk {w : World} {B : Nat} {e : TypeId} {z : Nat} {v : Value} {n : Nat} {xs : List Value} (h : w.ownsRow B e z v n xs) {k : Nat} (hk : v.ownBlock = some k) : B ≤ k ∧ k < w.heap.size ∧ ∃ cur, w.heap[k]? = some (.cells cur e (0, 0)) := by
  rcases h.2 with ⟨rfl, _⟩ | ⟨g, cap, cur, rfl, hB, hg, _⟩
  · simp [Value.ownBlock] at hk
  · simp only [Value.ownBlock, Option.some.injEq] at hk
    subst hk
    exact ⟨hB, lt_of_block hg, cur, hg⟩

end Go.Proofs.YtbdhdlloihkibaaGreatDoor
namespace Go.Proofs.YtbdhdlloihkibaaGreatDoor
open Go.RowKit Go.Extern.Stop Go.Stop Go.Extern Go.Sort Go.Shelf Go.Lib

theorem wpList_append_run {P : Program} {w w' : World} {ops : Array Oper} {rest : List Oper} {o : Oper} {a : Act} {Q : Exit → Act → World → Prop} (hgd : o.guard = none) (s x : Operand) (t : TypeId)
    (ho : o.op = .call { callee := .builtin .append, args := #[s, x], argTypes := #[t, t] }) (v u v' : Value) (hs : a.eval s = v) (hx : a.eval x = u) (hr : (Builtin.append_ #[t, t] o.type #[v, u]).run P w = .ok v' w')
    (h : wpList P ops Q rest (a.put o.dst v') w') : wpList P ops Q (o :: rest) a w := by
  refine wpList_plain hgd fun K hK => ?_
  unfold Oper.wp execOp
  simp only [ho, resolve, invoke, builtin, Sem.run_bind, Sem.run_pure, Result.andThen_ok, List.map_toArray, List.map_cons, List.map_nil, hs, hx, hr]
  exact hK _ _ h
end Go.Proofs.YtbdhdlloihkibaaGreatDoor
namespace Go.Proofs.YtbdhdlloihkibaaGreatDoor
open Go.RowKit Go.Extern.Stop Go.Stop Go.Extern Go.Sort Go.Shelf Go.Lib

theorem str_run {B : Nat} {W W9 : World} {v : Value} {ts : List ByteArray} (ho : W.ownsRow B 9 1 v ts.length (ts.map Value.string)) (hB : B ≤ W.heap.size) (p : ByteArray) (hW9 : W9 = W.alloc (.cells #[.string p] 9)) (hlen : ts.length ≤ 1000) :
    ∃ v' W2, (Builtin.append_ #[24, 24] 24 #[v, .slice (some ⟨W.heap.size, 0, none⟩) 1 1]).run Tryz.prog W9 = .ok v' W2 ∧ W2.ownsRow B 9 1 v' (ts ++ [p]).length ((ts ++ [p]).map Value.string) ∧ But (fun k => v.ownBlock = some k) W W2 ∧ (v'.ownBlock = v.ownBlock ∨ ∃ k, v'.ownBlock = some k ∧ W.heap.size ≤ k ∧ k < W2.heap.size) := by
  obtain ⟨i0, hi, hz, hs, hby⟩ := Tryz.strInfo
  have hal : Below W.heap.size W W9 := by rw [hW9]; exact (Below.refl _ _).alloc (Nat.le_refl _) _
  have hsrc : Src W9 (some ⟨W.heap.size, 0, none⟩) 1 1 [.string p] := by
    rw [hW9]
    exact src_new W [.string p] 9 1 1
  obtain ⟨v', W2, hr, h1, hg, hv⟩ := run_append_src (P := Tryz.prog) W9 B 24 24 9 i0 (.string ⟨#[]⟩) 1 16 Tryz.underlying24 hi hz hs hby rfl (by decide) v ts.length (ts.map Value.string) (own_but (P := fun _ => False) ho (But.of_below hal) (fun _ _ h => h)) (some ⟨W.heap.size, 0, none⟩) 1 1 [.string p] rfl hsrc (by intro u hu; rw [List.mem_singleton] at hu; subst hu; rfl) (by unfold maxLen; omega) (by omega) (Nat.le_trans hB hal.size)
  have h1' : W2.ownsRow B 9 1 v' (ts ++ [p]).length ((ts ++ [p]).map Value.string) := by
    rw [List.length_append, List.map_append]
    simpa using h1
  refine ⟨v', W2, hr, h1', (But.of_below hal).trans (But.grown hg) (fun _ h _ => h), ?_⟩
  rcases hv with hv | hv
  · exact Or.inl hv
  · exact Or.inr ⟨_, hv, hal.size, (own_blk h1' hv).2.1⟩

end Go.Proofs.YtbdhdlloihkibaaGreatDoor
namespace Go.Proofs.YtbdhdlloihkibaaGreatDoor
open Go.RowKit Go.Extern.Stop Go.Stop Go.Extern Go.Sort Go.Shelf Go.Lib

def SnCells (w : World) (b o : Nat) (ss : List Sn) : Prop :=
  ∀ j (h : j < ss.length), w.cell? ⟨b, o + j * 7, none⟩ = some (.int .i64 ss[j].1) ∧ w.cell? ⟨b, o + j * 7 + 3, none⟩ = some (.int .i64 ss[j].2.2.2.1) ∧ ∃ vf, w.cell? ⟨b, o + j * 7 + 6, none⟩ = some vf ∧ FlsAt w vf ss[j].2.2.2.2.2.2 ∧ w.cell? ⟨b, o + j * 7 + 1, none⟩ = some (.int .i64 ss[j].2.1) ∧ w.cell? ⟨b, o + j * 7 + 2, none⟩ = some (.int .i64 ss[j].2.2.1) ∧ w.cell? ⟨b, o + j * 7 + 4, none⟩ = some (.int .i64 ss[j].2.2.2.2.1) ∧ w.cell? ⟨b, o + j * 7 + 5, none⟩ = some (.string ss[j].2.2.2.2.2.1)
def SnsAt (w : World) (v : Value) (ss : List Sn) : Prop :=
  (∃ p c, v = .slice p 0 c ∧ (p = none → c = 0) ∧ ss = []) ∨ ∃ b o cap, v = .slice (some ⟨b, o, none⟩) ss.length cap ∧ ss.length ≤ cap ∧ SnCells w b o ss
theorem SnCells.below {w w' : World} {b o : Nat} {ss : List Sn} (h : SnCells w b o ss) (hb : Below w.heap.size w w') : SnCells w' b o ss := fun j hj => by
  obtain ⟨h0, h3, vf, h6, hf, h1, h2, h4, h5⟩ := h j hj
  exact ⟨below_keep hb h0, below_keep hb h3, vf, below_keep hb h6, hf.below hb, below_keep hb h1, below_keep hb h2, below_keep hb h4, below_keep hb h5⟩
theorem SnsAt.below {w w' : World} {v : Value} {ss : List Sn} (h : SnsAt w v ss) (hb : Below w.heap.size w w') : SnsAt w' v ss := by
  rcases h with h | ⟨b, o, cap, hv, hl, hc⟩
  · exact Or.inl h
  · exact Or.inr ⟨b, o, cap, hv, hl, hc.below hb⟩
theorem SnsAt.form {w : World} {v : Value} {ss : List Sn} (h : SnsAt w v ss) : ∃ p c, v = .slice p ss.length c := by
  rcases h with ⟨p, c, rfl, _, rfl⟩ | ⟨b, o, cap, rfl, _⟩
  · exact ⟨_, _, rfl⟩
  · exact ⟨_, _, rfl⟩
theorem SnsAt.cells {w : World} {q : Option Addr} {n c : Nat} {ss : List Sn} (h : SnsAt w (.slice q n c) ss) (hne : ss ≠ []) : ∃ b o, q = some ⟨b, o, none⟩ ∧ SnCells w b o ss := by
  rcases h with ⟨_, _, _, _, e⟩ | ⟨b, o, cap, e, _, hc⟩
  · exact absurd e hne
  · simp only [Value.slice.injEq] at e
    exact ⟨b, o, e.1, hc⟩

theorem int_run {B : Nat} {W W9 : World} {v : Value} {zs : List Int} (ho : W.ownsRow B 3 1 v zs.length (zs.map (Value.int .i64))) (hB : B ≤ W.heap.size) (z : Int) (hW9 : W9 = W.alloc (.cells #[.int .i64 z] 3)) (hlen : zs.length ≤ 1000) :
    ∃ v' W2, (Builtin.append_ #[33, 33] 33 #[v, .slice (some ⟨W.heap.size, 0, none⟩) 1 1]).run Tryz.prog W9 = .ok v' W2 ∧ W2.ownsRow B 3 1 v' (zs ++ [z]).length ((zs ++ [z]).map (Value.int .i64)) ∧ But (fun k => v.ownBlock = some k) W W2 := by
  obtain ⟨i0, hi, hz, hs, hby⟩ := Tryz.numInfo
  have hal : Below W.heap.size W W9 := by rw [hW9]; exact (Below.refl _ _).alloc (Nat.le_refl _) _
  have hsrc : Src W9 (some ⟨W.heap.size, 0, none⟩) 1 1 [.int .i64 z] := by
    rw [hW9]
    exact src_new W [.int .i64 z] 3 1 1
  obtain ⟨v', W2, hr, h1, hg, hv⟩ := run_append_src (P := Tryz.prog) W9 B 33 33 3 i0 (.int .i64 0) 1 8 Tryz.underlying33 hi hz hs hby rfl (by decide) v zs.length (zs.map (Value.int .i64)) (own_but (P := fun _ => False) ho (But.of_below hal) (fun _ _ h => h)) (some ⟨W.heap.size, 0, none⟩) 1 1 [.int .i64 z] rfl hsrc (by intro u hu; rw [List.mem_singleton] at hu; subst hu; rfl) (by unfold maxLen; omega) (by omega) (Nat.le_trans hB hal.size)
  have h1' : W2.ownsRow B 3 1 v' (zs ++ [z]).length ((zs ++ [z]).map (Value.int .i64)) := by
    rw [List.length_append, List.map_append]
    simpa using h1
  exact ⟨v', W2, hr, h1', (But.of_below hal).trans (But.grown hg) (fun _ h _ => h)⟩

end Go.Proofs.YtbdhdlloihkibaaGreatDoor
