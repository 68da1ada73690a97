/-
  The first snap; the rows and the keys of a snap's files; what reading one hands back.
-/
import Derived.Test.YtijbmahnjonmmaaGreatDoorRefList3
import Derived.Deep.CutBlock
namespace Go.Proofs.YtijbmahnjonmmaaGreatDoor
open Go.RowKit Go.Extern.Stop Go.Stop Go.Extern Go.Sort Go.Shelf Go.Lib

def snV (s : Sn) (vf : Value) : Value := .agg #[.int .i64 s.1, .int .i64 s.2.1, .int .i64 s.2.2.1, .int .i64 s.2.2.2.1, .int .i64 s.2.2.2.2.1, .string s.2.2.2.2.2.1, vf]

def SnAt (W : World) (b : Nat) (s : Sn) (vf : Value) : Prop := W.heap[b]? = some (.cells #[.int .i64 s.1, .int .i64 s.2.1, .int .i64 s.2.2.1, .int .i64 s.2.2.2.1, .int .i64 s.2.2.2.2.1, .string s.2.2.2.2.2.1, vf] 24 (0, 0))
theorem SnAt.lt {W : World} {b : Nat} {s : Sn} {vf : Value} (h : SnAt W b s vf) : b < W.heap.size := lt_of_block h
theorem SnAt.below {W W' : World} {b : Nat} {s : Sn} {vf : Value} (h : SnAt W b s vf) (hb : Below W.heap.size W W') : SnAt W' b s vf := (hb.block b h.lt).trans h
theorem SnAt.cells {W : World} {b : Nat} {s : Sn} {vf : Value} (h : SnAt W b s vf) : W.cell? ⟨b, 0, none⟩ = some (.int .i64 s.1) ∧ W.cell? ⟨b, 1, none⟩ = some (.int .i64 s.2.1) ∧ W.cell? ⟨b, 2, none⟩ = some (.int .i64 s.2.2.1) ∧ W.cell? ⟨b, 3, none⟩ = some (.int .i64 s.2.2.2.1) ∧ W.cell? ⟨b, 4, none⟩ = some (.int .i64 s.2.2.2.2.1) ∧ W.cell? ⟨b, 5, none⟩ = some (.string s.2.2.2.2.2.1) ∧ W.cell? ⟨b, 6, none⟩ = some vf := by
  refine ⟨?_, ?_, ?_, ?_, ?_, ?_, ?_⟩ <;> rw [cell_of_row _ _ _ _ _ _ h] <;> rfl
theorem SnAt.new (w : World) (s : Sn) (vf : Value) : SnAt (w.alloc (.cells #[.int .i64 s.1, .int .i64 s.2.1, .int .i64 s.2.2.1, .int .i64 s.2.2.2.1, .int .i64 s.2.2.2.2.1, .string s.2.2.2.2.2.1, vf] 24)) w.heap.size s vf := heap_alloc_new _ _

theorem tx_succ {ts : List ByteArray} {s : ByteArray} {n : Nat} (h : ∀ j (h : j < ts.length), j < n → ts[j] ≠ s) (hn : n < ts.length) (e : ts[n] ≠ s) : ∀ j (h : j < ts.length), j < n + 1 → ts[j] ≠ s := fun j hj hjn => by
  by_cases e' : j = n
  · subst e'; exact e
  · exact h j hj (by omega)

set_option maxRecDepth 100000 in
set_option maxHeartbeats 2000000 in
theorem inTexts_any (s : ByteArray) (b cap : Nat) (ts : List ByteArray) (w : World) (hc : ∀ j (h : j < ts.length), w.cell? ⟨b, j, none⟩ = some (.string ts[j])) (hl : ts.length ≤ 20000) :
    Calls Tryz.prog 15 #[.string s, .slice (some ⟨b, 0, none⟩) ts.length cap] w fun e w' => e = .returned (.bool (ts.any fun t => decide (t = s))) ∧ w' = w := by
  have HC : Hid (∀ j (h : j < ts.length), w.cell? ⟨b, j, none⟩ = some (.string ts[j])) := hc
  obtain ⟨L, hL⟩ : ∃ L, ts.length = L := ⟨_, rfl⟩
  have HX : Hid (ts.length = L) := hL
  rw [hL] at hl ⊢
  generalize hR : (ts.any fun t => decide (t = s)) = R
  have HR : Hid ((ts.any fun t => decide (t = s)) = R) := hR
  clear hL hc hR
  go_enter Tryz.func15, Tryz.ntmps15
  go_wp2
  go_loop [5] (fun k => ∃ n : Nat, n ≤ L ∧ k = .int .i64 n ∧ ∀ j (h : j < ts.length), j < n → ts[j] ≠ s) (fun k => L - (intOf k).toNat)
  case atStart => exact ⟨0, by omega, rfl, fun j h h' => absurd h' (Nat.not_lt_zero _)⟩
  case round =>
    obtain ⟨n, hn, rfl, hno⟩ := hrel
    have HNO : Hid (∀ j (h : j < ts.length), j < n → ts[j] ≠ s) := hno
    clear hno
    by_cases hlt : n < L
    · have hltx : n < ts.length := by rw [HX.out]; exact hlt
      have c0 := HC.out n hltx
      have hi : (n : Int) < (L : Int) := by omega
      have hi0' : (0 : Int) ≤ (n : Int) := by omega
      by_cases he : ts[n] = s
      · have hRR : R = true := by rw [← HR.out]; exact List.any_eq_true.2 ⟨_, List.getElem_mem hltx, decide_eq_true he⟩
        subst hRR
        rw [he] at c0
        have d1 : (s.toList == s.toList) = true := by simp
        clear he hltx
        go_wp2
        go_ret
        exact ⟨rfl, rfl⟩
      · have HN1 : Hid (∀ j (h : j < ts.length), j < n + 1 → ts[j] ≠ s) := tx_succ HNO.out hltx he
        have d1 : (ts[n].toList == s.toList) = false := neBB (fun e => he (part_ext e))
        generalize ts[n] = t at c0 d1
        clear he hltx
        go_wp2
        go_round
        case rel => exact ⟨n + 1, by omega, by go_num, HN1.out⟩
        case measure => simp [intOf]; omega
    · obtain rfl : n = L := by omega
      have hRR : R = false := by
        rw [← HR.out]
        refine List.any_eq_false.2 fun t ht e => ?_
        obtain ⟨j, hj, e'⟩ := List.mem_iff_getElem.1 ht
        exact HNO.out j hj (by rw [← HX.out]; exact hj) (e'.trans (of_decide_eq_true e))
      subst hRR
      go_wp2
      go_ret
      exact ⟨rfl, rfl⟩

def SeqLeft (seq : Int) (fs : List Fl) (n : Nat) : Prop := seqG seq fs 0 = seqG seq (fs.drop n) n
theorem seqL_zero (seq : Int) (fs : List Fl) : SeqLeft seq fs 0 := rfl
theorem seqL_bad {seq : Int} {fs : List Fl} {n : Nat} (h : SeqLeft seq fs n) (hn : n < fs.length) (e : seq < fs[n].2.2.2.2.2) : seqG seq fs 0 = (9, some n) := by
  unfold SeqLeft at h
  rw [h, List.drop_eq_getElem_cons hn]
  unfold seqG
  rw [if_pos e]
theorem seqL_succ {seq : Int} {fs : List Fl} {n : Nat} (h : SeqLeft seq fs n) (hn : n < fs.length) (e : ¬ seq < fs[n].2.2.2.2.2) : SeqLeft seq fs (n + 1) := by
  unfold SeqLeft at h ⊢
  rw [h]
  conv => lhs; rw [List.drop_eq_getElem_cons hn]
  conv => lhs; unfold seqG
  rw [if_neg e]
theorem seqL_all {seq : Int} {fs : List Fl} (h : SeqLeft seq fs fs.length) : seqG seq fs 0 = (0, none) := by
  unfold SeqLeft at h
  rw [h, List.drop_length]
  rfl

theorem snapE_rest {s : Sn} (hb : sbndB s = true) : (opB s.2.2.2.2.2.1.data.toList = false → snapE s = (4, none)) ∧ (opB s.2.2.2.2.2.1.data.toList = true → ((listE s.2.2.2.2.2.2).1 ≠ 0 → snapE s = listE s.2.2.2.2.2.2) ∧ ((listE s.2.2.2.2.2.2).1 = 0 → snapE s = seqG s.2.2.1 s.2.2.2.2.2.2 0)) := by
  unfold snapE
  rw [if_neg (by rw [hb]; simp)]
  refine ⟨fun h => by rw [if_pos h], fun h => ⟨fun h1 => ?_, fun h1 => ?_⟩⟩
  · rw [if_neg (by rw [h]; simp), if_pos h1]
  · rw [if_neg (by rw [h]; simp), if_neg (by simpa using h1)]

end Go.Proofs.YtijbmahnjonmmaaGreatDoor
namespace Go.Proofs.YtijbmahnjonmmaaGreatDoor
open Go.RowKit Go.Extern.Stop Go.Stop Go.Extern Go.Sort Go.Shelf Go.Lib

theorem ok_sizes {f : Fl} (h : fileE f = 0) : f.1.size ≤ 100 ∧ f.2.1.size ≤ 100 := by
  have hl := file_short h
  unfold fileL at hl
  simp only [List.length_append, List.length_cons, size_list] at hl
  omega

end Go.Proofs.YtijbmahnjonmmaaGreatDoor
namespace Go.Proofs.YtijbmahnjonmmaaGreatDoor
open Go.RowKit Go.Extern.Stop Go.Stop Go.Extern Go.Sort Go.Shelf Go.Lib

def Src (w : World) (q : Option Addr) (m c : Nat) (ys : List Value) : Prop :=
  (m = 0 ∧ (q = none → c = 0)) ∨ ∃ b o, q = some ⟨b, o, none⟩ ∧ ∀ j u, ys[j]? = some u → w.cell? ⟨b, o + j, none⟩ = some u

theorem Src.below {w w' : World} {q : Option Addr} {m c : Nat} {ys : List Value} (h : Src w q m c ys) (hb : Below w.heap.size w w') : Src w' q m c ys := by
  rcases h with h | ⟨b, o, e, h⟩
  · exact Or.inl h
  · exact Or.inr ⟨b, o, e, fun j u hu => below_keep hb (h j u hu)⟩

theorem src_new (w : World) (cs : List Value) (t : TypeId) (m c : Nat) : Src (w.alloc (.cells cs.toArray t)) (some ⟨w.heap.size, 0, none⟩) m c cs := by
  refine Or.inr ⟨_, _, rfl, fun j u hj => ?_⟩
  rw [Nat.zero_add]
  have h := heap_alloc_new w (.cells cs.toArray t)
  unfold World.cell?
  dsimp only
  rw [h]
  simpa using hj

set_option maxHeartbeats 1000000 in
theorem run_append_src {P : Program} (w : World) (base : Nat) (t ty e : TypeId) (i : TypeInfo) (z : Value) (size bytes : Nat) (ht : P.underlying t = some (.slice e)) (hi : P.info? e = some i) (hz : i.zero = some z)
    (hsize : i.size = size) (hby : i.bytes = bytes) (hzs : z.cells.size = size) (hsz : 0 < size)
    (v : Value) (n : Nat) (xs : List Value) (hown : w.ownsRow base e size v n xs)
    (q : Option Addr) (m c : Nat) (news : List Value) (hl : news.length = m * size) (hsrc : Src w q m c news) (h1 : ∀ u ∈ news, u.oneCell' = true)
    (h63 : n + m ≤ maxLen) (hbytes : (n + m) * bytes ≤ 140737488355328) (hbase : base ≤ w.heap.size) :
    ∃ v' w', (Builtin.append_ #[t, t] ty #[v, .slice q m c]).run P w = .ok v' w' ∧ w'.ownsRow base e size v' (n + m) (xs ++ news) ∧ w.grownBy w' v.ownBlock ∧ (v'.ownBlock = v.ownBlock ∨ v'.ownBlock = some w.heap.size) := by
  rcases hsrc with ⟨h0, hc⟩ | ⟨b, o, rfl, hcells⟩
  · subst h0
    have hnews : news = [] := List.length_eq_zero_iff.1 (by simpa using hl)
    subst hnews
    cases q with
    | none =>
      have hc0 := hc rfl
      subst hc0
      refine ⟨v, w, ?_, by simpa using hown, ⟨rfl, rfl, rfl, Nat.le_refl _, fun _ _ _ => rfl⟩, Or.inl rfl⟩
      rcases hown.2 with ⟨rfl, _⟩ | ⟨g, cap, cur, rfl, _, _, hn, _⟩
      · simp [Builtin.append_, run_underlying ht, sizeOf, typeInfo, zeroValue, hi, hz, Builtin.lenOf, run_firstCells_none]
      · simp [Builtin.append_, run_underlying ht, sizeOf, typeInfo, zeroValue, hi, hz, Builtin.lenOf, run_firstCells_none, hn, storeCells]
    | some ad =>
      obtain ⟨v', w', hr, h2, h3, _, h5⟩ := run_append_own_at (P := P) w base t ty e i z size bytes ht hi hz hsize hby hzs hsz v n xs hown ad 0 c [] hl (fun j u hj => by simp at hj) h1 h63 hbytes hbase
      exact ⟨v', w', hr, h2, h3, h5⟩
  · obtain ⟨v', w', hr, h2, h3, _, h5⟩ := run_append_own_at (P := P) w base t ty e i z size bytes ht hi hz hsize hby hzs hsz v n xs hown ⟨b, o, none⟩ m c news hl (fun j u hj => by rw [Addr.add_lit]; exact hcells j u hj) h1 h63 hbytes hbase
    exact ⟨v', w', hr, h2, h3, h5⟩

theorem wpList_append_src {P : Program} {w : World} {ops : Array Oper} {rest : List Oper} {o : Oper} {a : Act} {Q : Exit → Act → World → Prop} (hgd : o.guard = none) (s x : Operand) (t : TypeId)
    (ho : o.op = .call { callee := .builtin .append, args := #[s, x], argTypes := #[t, t] })
    (base : Nat) (e : TypeId) (i : TypeInfo) (z : Value) (size bytes : Nat) (ht : P.underlying t = some (.slice e)) (hi : P.info? e = some i) (hz : i.zero = some z)
    (hsize : i.size = size) (hby : i.bytes = bytes) (hzs : z.cells.size = size) (hsz : 0 < size)
    (v : Value) (n : Nat) (xs : List Value) (hs : a.eval s = v) (hown : w.ownsRow base e size v n xs)
    (q : Option Addr) (m c : Nat) (news : List Value) (hx : a.eval x = .slice q m c) (hl : news.length = m * size) (hsrc : Src w q m c news) (h1 : ∀ u ∈ news, u.oneCell' = true)
    (h63 : n + m ≤ maxLen) (hbytes : (n + m) * bytes ≤ 140737488355328) (hbase : base ≤ w.heap.size)
    (h : ∀ v' w', w'.ownsRow base e size v' (n + m) (xs ++ news) → w.grownBy w' v.ownBlock → (v'.ownBlock = v.ownBlock ∨ v'.ownBlock = some w.heap.size) → wpList P ops Q rest (a.put o.dst v') w') :
    wpList P ops Q (o :: rest) a w := by
  refine wpList_plain hgd fun K hK => ?_
  obtain ⟨v', w', hr, h2, h3, h4⟩ := run_append_src (P := P) w base t o.type e i z size bytes ht hi hz hsize hby hzs hsz v n xs hown q m c news hl hsrc h1 h63 hbytes hbase
  unfold Oper.wp execOp
  simp only [ho, resolve, invoke, builtin, Sem.run_bind, Sem.run_pure, Result.andThen_ok, List.map_toArray, List.map_cons, List.map_nil, hs, hx, hr]
  exact hK _ _ (h v' w' h2 h3 h4)
end Go.Proofs.YtijbmahnjonmmaaGreatDoor
namespace Go.Proofs.YtijbmahnjonmmaaGreatDoor
open Go.RowKit Go.Extern.Stop Go.Stop Go.Extern Go.Sort Go.Shelf Go.Lib

theorem src_fls {w : World} {q : Option Addr} {n c : Nat} {fs : List Fl} (h : FlsAt w (.slice q n c) fs) : Src w q n c (flatF fs) := by
  rcases h with ⟨p, c', e, hp, rfl⟩ | ⟨b, o, cap, e, hl, hc⟩
  · simp only [Value.slice.injEq] at e
    obtain ⟨rfl, rfl, rfl⟩ := e
    exact Or.inl ⟨rfl, hp⟩
  · simp only [Value.slice.injEq] at e
    obtain ⟨rfl, rfl, rfl⟩ := e
    exact Or.inr ⟨b, o, rfl, cellsF_flat hc⟩

theorem flCells_take {w : World} {b o : Nat} {fs : List Fl} (h : FlCells w b o fs) (n : Nat) : FlCells w b o (fs.take n) := fun j hj => by
  rw [List.length_take] at hj
  have := h j (by omega)
  rw [List.getElem_take]
  exact this
set_option maxRecDepth 100000 in
set_option maxHeartbeats 2000000 in
theorem ownFiles_any (v : Value) (fs : List Fl) (w : World) (hx : FlsAt w v fs) (hl : fs.length ≤ 1000) :
    Calls Tryz.prog 27 #[v] w fun e w' => ∃ v', e = .returned v' ∧ w'.ownsRow w.heap.size 37 6 v' fs.length (flatF fs) ∧ Below w.heap.size w w' := by
  obtain ⟨i0, hi0, hz0, hs0, hby0⟩ := Tryz.fileInfo
  obtain ⟨q, cap, rfl⟩ := hx.form
  have HSR : Hid (Src w q fs.length cap (flatF fs)) := src_fls hx
  obtain ⟨L, hL⟩ : ∃ L, fs.length = L := ⟨_, rfl⟩
  have HX : Hid (fs.length = L) := hL
  rw [hL] at hl ⊢
  clear hL hx
  go_enter Tryz.func27, Tryz.ntmps27
  go_wp2_with (at_builtin; (refine wpList_append_src rfl _ _ 22 rfl w.heap.size 37 i0 (.agg #[.string ⟨#[]⟩, .string ⟨#[]⟩, .int .i64 0, .int .i64 0, .int .i64 0, .int .i64 0]) 6 64 Tryz.underlying22 hi0 hz0 hs0 hby0 rfl (by decide) (.slice none 0 0) 0 [] rfl (World.ownsRow_nil _ _ _ _) q L cap (flatF fs) rfl ?qf1 ?qf2 ?qf3 ?qf4 ?qf5 ?qf6 ?_))
  any_goals first
    | exact flatF_one fs
    | (rw [flatF_len, HX.out])
    | (have h' := HSR.out; rw [HX.out] at h'; exact h')
    | (unfold maxLen; omega)
    | omega
    | exact Nat.le_refl _
  intro v3 w3 ho3 hg3 _
  have hb3 : Below w.heap.size w w3 := (Below.refl _ _).grown hg3 (Nat.le_refl _) (fun k hk => by simp [Value.ownBlock] at hk)
  have OW : Hid (w3.ownsRow w.heap.size 37 6 v3 L (flatF fs)) := by
    show w3.ownsRow _ _ _ _ _ _
    simpa using ho3
  clear ho3 hg3
  go_wp2
  go_ret
  exact ⟨v3, rfl, OW.out, hb3⟩
end Go.Proofs.YtijbmahnjonmmaaGreatDoor
namespace Go.Proofs.YtijbmahnjonmmaaGreatDoor
open Go.RowKit Go.Extern.Stop Go.Stop Go.Extern Go.Sort Go.Shelf Go.Lib

theorem SnAt.fz {W : World} {b : Nat} {s : Sn} {vf : Value} (h : SnAt W b s vf) (o : Nat) : W.frozen? ⟨b, o, none⟩ = false := frozen_of_row _ _ _ _ _ h

def snSet (W : World) (b : Nat) (s : Sn) (vf : Value) : World := ((((((W.setCell ⟨b, 0, none⟩ (.int .i64 s.1)).setCell ⟨b, 1, none⟩ (.int .i64 s.2.1)).setCell ⟨b, 2, none⟩ (.int .i64 s.2.2.1)).setCell ⟨b, 3, none⟩ (.int .i64 s.2.2.2.1)).setCell ⟨b, 4, none⟩ (.int .i64 s.2.2.2.2.1)).setCell ⟨b, 5, none⟩ (.string s.2.2.2.2.2.1)).setCell ⟨b, 6, none⟩ vf
theorem SnAt.set {W : World} {b : Nat} {s : Sn} {vf : Value} (h : SnAt W b s vf) (s' : Sn) (vf' : Value) : SnAt (snSet W b s' vf') b s' vf' := by
  unfold SnAt snSet at *
  rw [heap_setCell_same _ _ _ _ _ _ (heap_setCell_same _ _ _ _ _ _ (heap_setCell_same _ _ _ _ _ _ (heap_setCell_same _ _ _ _ _ _ (heap_setCell_same _ _ _ _ _ _ (heap_setCell_same _ _ _ _ _ _ (heap_setCell_same _ _ _ _ _ _ h))))))]
  rfl
theorem snSet_below {W W0 : World} {B b : Nat} {s : Sn} {vf : Value} (h : Below B W0 W) (hb : B ≤ b) : Below B W0 (snSet W b s vf) := ((((((h.setCell hb _).setCell hb _).setCell hb _).setCell hb _).setCell hb _).setCell hb _).setCell hb _

theorem sn_other {W : World} {F G : Nat} {s : Sn} {vf : Value} (h : SnAt W F s vf) (hne : G ≠ F) (o : Nat) (z : Value) : SnAt (W.setCell ⟨G, o, none⟩ z) F s vf := (heap_setCell_other _ _ _ _ (fun e => hne e.symm)).trans h

def OffF (v : Value) (fs : List Fl) (R : Nat) : Prop := ∀ b o c n, v = .slice (some ⟨b, o, none⟩) n c → fs ≠ [] → b ≠ R

theorem off_of {W : World} {R : Nat} {s : Sn} {q : Option Addr} {n c : Nat} {v : Value} {fs : List Fl} (h : SnAt W R s (.slice q n c)) (hr : FlsAt W v fs) : OffF v fs R := by
  intro b o c' n' hv hne e
  subst e
  rcases hr with ⟨_, _, _, _, e⟩ | ⟨b2, o2, c2, e2, _, hc⟩
  · exact hne e
  · rw [e2] at hv
    injection hv with e3
    injection e3 with e3
    injection e3 with e3 e4
    subst e3
    subst e4
    obtain ⟨h0, h1, _⟩ := hc 0 (List.length_pos_iff.2 hne)
    rw [cell_of_row _ _ _ _ _ _ h] at h0 h1
    simp only [Nat.zero_mul, Nat.add_zero] at h0 h1
    match o2, h0, h1 with
    | 0, h0, _ => simp at h0
    | 1, h0, _ => simp at h0
    | 2, h0, _ => simp at h0
    | 3, h0, _ => simp at h0
    | 4, h0, _ => simp at h0
    | 5, _, h1 => simp at h1
    | 6, h0, _ => simp at h0
    | k + 7, h0, _ => simp at h0

theorem FlsAt.set_off {W : World} {R : Nat} {v : Value} {fs : List Fl} (h : FlsAt W v fs) (ho : OffF v fs R) (k : Nat) (z : Value) : FlsAt (W.setCell ⟨R, k, none⟩ z) v fs := by
  rcases h with h | ⟨b, o, c, hv, hl, hc⟩
  · exact Or.inl h
  · by_cases hne : fs = []
    · exact Or.inl ⟨some ⟨b, o, none⟩, c, by rw [hv, hne]; rfl, fun e => (nomatch e), hne⟩
    · have hb := ho b o c _ hv hne
      have hk : ∀ p, (W.setCell ⟨R, k, none⟩ z).cell? ⟨b, p, none⟩ = W.cell? ⟨b, p, none⟩ := fun p => World.cell?_setCell_other _ _ _ _ (by intro e; injection e with e; exact hb e.symm)
      refine Or.inr ⟨b, o, c, hv, hl, fun j hj => ?_⟩
      obtain ⟨h0, h1, h2, h3, h4, h5⟩ := hc j hj
      exact ⟨(hk _).trans h0, (hk _).trans h1, (hk _).trans h2, (hk _).trans h3, (hk _).trans h4, (hk _).trans h5⟩

end Go.Proofs.YtijbmahnjonmmaaGreatDoor
namespace Go.Proofs.YtijbmahnjonmmaaGreatDoor
open Go.RowKit Go.Extern.Stop Go.Stop Go.Extern Go.Sort Go.Shelf Go.Lib

def ToldE (W : World) (a : Nat → Addr) (ev : Value) (c : Nat × Option Nat) : Prop := match c.2 with
  | none => ev = errV a c.1
  | some j => c.1 ≠ 0 ∧ ∃ fb, ev = .iface 74 (.pointer (some ⟨fb, 0, none⟩)) ∧ W.cell? ⟨fb, 0, none⟩ = some (.int .i64 j) ∧ W.cell? ⟨fb, 1, none⟩ = some (errV a c.1)

theorem ToldE.ok {W : World} {a : Nat → Addr} {ev : Value} {c : Nat × Option Nat} (h : ToldE W a ev c) (h0 : c.1 = 0) : ev = .nilIface := by
  obtain ⟨n, o⟩ := c
  dsimp only at h0
  subst h0
  cases o with
  | none => exact h
  | some j => exact absurd rfl h.1

theorem ToldE.bad {W : World} {a : Nat → Addr} {ev : Value} {c : Nat × Option Nat} (h : ToldE W a ev c) (h0 : c.1 ≠ 0) : ∃ t u, ev = .iface t u := by
  obtain ⟨n, o⟩ := c
  cases o with
  | none =>
    cases n with
    | zero => exact absurd rfl h0
    | succ n => exact ⟨_, _, h⟩
  | some j =>
    obtain ⟨_, fb, h, _⟩ := h
    exact ⟨_, _, h⟩

def Short (fs : List Fl) : Prop := ∀ g ∈ fs, g.1.size ≤ 30 ∧ g.2.1.size ≤ 30

def boxW (W : World) (f : Fl) : World := W.alloc (.cells #[.string f.1, .string f.2.1, .int .i64 f.2.2.1, .int .i64 f.2.2.2.1, .int .i64 f.2.2.2.2.1, .int .i64 f.2.2.2.2.2] 37)
theorem boxW_at (W : World) (f : Fl) : FlAt (boxW W f) W.heap.size f := FlAt.new W f
theorem boxW_below (W : World) (f : Fl) : Below W.heap.size W (boxW W f) := (Below.refl _ _).alloc (Nat.le_refl _) _

theorem flsAt_take {w : World} {b o cap : Nat} {fs : List Fl} (h : FlCells w b o fs) {n : Nat} (hn : n ≤ fs.length) (hc : fs.length ≤ cap) : FlsAt w (.slice (some ⟨b, o, none⟩) n cap) (fs.take n) := by
  refine Or.inr ⟨b, o, cap, ?_, ?_, flCells_take h n⟩
  · rw [List.length_take, Nat.min_eq_left hn]
  · rw [List.length_take]; omega

end Go.Proofs.YtijbmahnjonmmaaGreatDoor
namespace Go.Proofs.YtijbmahnjonmmaaGreatDoor
open Go.RowKit Go.Extern.Stop Go.Stop Go.Extern Go.Sort Go.Shelf Go.Lib

def firstS : Sn := (1, 0, 0, 0, 0, ⟨#[115, 116, 97, 114, 116]⟩, [])

theorem file_kind {f : Fl} (h : fileE f = 0) : 0 ≤ f.2.2.1 ∧ f.2.2.1 ≤ 40 ∧ ∃ g n, pathO f.1.data.toList = some (g, n) ∧ (g = true ↔ f.2.1.data.toList = [45]) := by
  obtain ⟨g, n, hp, hq, hb⟩ := file_good h
  have hb' := hb
  unfold bndB at hb'
  simp only [Bool.and_eq_true, decide_eq_true_eq] at hb'
  refine ⟨by omega, by omega, g, n, hp, ?_⟩
  unfold partB at hq
  cases g
  · simp only [Bool.false_eq_true, if_false, false_iff] at hq ⊢
    intro e
    rw [e] at hq
    revert hq
    decide
  · simp only [if_true, decide_eq_true_eq, true_iff] at hq ⊢
    exact hq

end Go.Proofs.YtijbmahnjonmmaaGreatDoor
