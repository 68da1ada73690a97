/-
  The contract of file.Read.
-/
import Derived.Test.YtpkoefpdpoikkaaGreatDoorFaulted
import Derived.Deep.CutBlock
namespace Go.Proofs.YtpkoefpdpoikkaaGreatDoor
open Go.RowKit Go.Extern.Stop Go.Stop Go.Extern Go.Sort Go.Shelf Go.Lib

set_option maxRecDepth 100000 in
set_option maxHeartbeats 4000000 in
theorem sameFiles_yes (v v' : Value) (fs : List Fl) (w : World) (hx : FlsAt w v fs) (hy : FlsAt w v' fs) (hl : fs.length ≤ 20000) :
    Calls Tryz.prog 30 #[v, v'] w fun e w' => e = .returned (.bool true) ∧ Below w.heap.size w w' := by
  obtain ⟨q, cap, rfl⟩ := hx.form
  obtain ⟨q', cap', rfl⟩ := hy.form
  have HFX : Hid (FlsAt w (.slice q fs.length cap) fs) := hx
  have HFY : Hid (FlsAt w (.slice q' fs.length cap') fs) := hy
  obtain ⟨L, hL⟩ : ∃ L, fs.length = L := ⟨_, rfl⟩
  have HX : Hid (fs.length = L) := hL
  rw [hL] at hl ⊢
  clear hL hx hy
  go_enter Tryz.func30, Tryz.ntmps30
  go_wp2
  go_loopw [5] (fun k wr => ∃ n : Nat, n ≤ L ∧ k = .int .i64 n ∧ Below w.heap.size w wr) (fun k _ => L - (intOf k).toNat)
  case atStart => exact ⟨0, by omega, rfl, Below.refl _ _⟩
  case round =>
    obtain ⟨n, hn, rfl, hb⟩ := hrel
    by_cases hlt : n < L
    · have hltx : n < fs.length := by rw [HX.out]; exact hlt
      obtain ⟨b, o, hq, hc⟩ := (HFX.out.below hb).cells (fun e => by rw [e] at hltx; simp at hltx)
      obtain ⟨b', o', hq', hc'⟩ := (HFY.out.below hb).cells (fun e => by rw [e] at hltx; simp at hltx)
      subst hq hq'
      obtain ⟨c0, c1, c2, c3, c4, c5⟩ := hc n hltx
      obtain ⟨d0, d1, d2, d3, d4, d5⟩ := hc' n hltx
      generalize fs[n] = f at c0 c1 c2 c3 c4 c5 d0 d1 d2 d3 d4 d5
      have hnq := fun W => neqF f W
      have hgd : ∀ (bo : BinOp) (a b : Operand) (w : World), Sem.run Tryz.prog (eqGuard bo 23 a b (flV f) (flV f)) w = .ok () w := fun bo a b w => guardF bo a b f f w
      unfold flV at hnq hgd
      obtain ⟨fp, fq, fn, flo, fhi, fseq⟩ := f
      dsimp only at c0 c1 c2 c3 c4 c5 d0 d1 d2 d3 d4 d5 hnq hgd
      have hi : (n : Int) < (L : Int) := by omega
      have hi0' : (0 : Int) ≤ (n : Int) := by omega
      clear hc hc' hltx
      go_wp2
      go_quiet (fail)
      have hb2 : Below w.heap.size w (wr.drewN nq) := below_drewN hb nq
      generalize wr.drewN nq = wr2 at hb2 ⊢
      go_wp2
      go_roundw
      case rel => exact ⟨n + 1, by omega, by go_num, hb2⟩
      case measure => simp [intOf]; omega
    · obtain rfl : n = L := by omega
      go_wp2
      go_ret
      exact ⟨rfl, hb⟩

theorem listL_take (fs : List Fl) (n : Nat) (h : n < fs.length) : listL (fs.take (n + 1)) = listL (fs.take n) ++ (fileL fs[n] ++ [10]) := by
  have e := (List.take_append_getElem h).symm
  unfold listL
  rw [e, List.flatMap_append]
  simp only [List.flatMap_cons, List.flatMap_nil, List.append_nil]

theorem listL_len : ∀ fs : List Fl, (∀ f ∈ fs, fileE f = 0 ∧ f.1.size ≤ 100 ∧ f.2.1.size ≤ 100) → (listL fs).length ≤ 300 * fs.length
  | [], _ => by simp [listL]
  | f :: r, h => by
    have ih := listL_len r (fun g hg => h g (List.mem_cons_of_mem _ hg))
    obtain ⟨h0, h1, h2⟩ := h f List.mem_cons_self
    have := fl_len h0
    have e : listL (f :: r) = fileL f ++ 10 :: listL r := by simp [listL]
    rw [e, List.length_append, List.length_cons, List.length_cons]
    omega

end Go.Proofs.YtpkoefpdpoikkaaGreatDoor
namespace Go.Proofs.YtpkoefpdpoikkaaGreatDoor
open Go.RowKit Go.Extern.Stop Go.Stop Go.Extern Go.Sort Go.Shelf Go.Lib

def ahead (fs : List Fl) : Nat → Int
  | 0 => 0
  | n + 1 => match fs[n]? with
    | some f => fk f
    | none => 0

theorem ahead_succ {fs : List Fl} {n : Nat} (h : n < fs.length) : ahead fs (n + 1) = fk fs[n] := by
  show (match fs[n]? with
    | some f => fk f
    | none => 0) = _
  rw [List.getElem?_eq_getElem h]

def LeftG (fs : List Fl) (n : Nat) : Prop := lstG 0 fs 0 = lstG (ahead fs n) (fs.drop n) n

theorem left_zero (fs : List Fl) : LeftG fs 0 := rfl
theorem left_bad {fs : List Fl} {n : Nat} (h : LeftG fs n) (hn : n < fs.length) (he : fileE fs[n] ≠ 0) : lstG 0 fs 0 = (fileE fs[n], some n) := by
  unfold LeftG at h
  rw [h, List.drop_eq_getElem_cons hn]
  unfold lstG
  rw [if_pos he]
theorem left_order {fs : List Fl} {n : Nat} (h : LeftG fs n) (hn : n < fs.length) (he : fileE fs[n] = 0) (ho : fk fs[n] ≤ ahead fs n) : lstG 0 fs 0 = (9, some n) := by
  unfold LeftG at h
  rw [h, List.drop_eq_getElem_cons hn]
  unfold lstG
  rw [if_neg (by simp [he]), if_pos ho]
theorem left_succ {fs : List Fl} {n : Nat} (h : LeftG fs n) (hn : n < fs.length) (he : fileE fs[n] = 0) (ho : ahead fs n < fk fs[n]) : LeftG fs (n + 1) := by
  unfold LeftG at h ⊢
  rw [h, ahead_succ hn]
  conv => lhs; rw [List.drop_eq_getElem_cons hn]
  conv => lhs; unfold lstG
  rw [if_neg (by simp [he]), if_neg (by omega)]
theorem left_all {fs : List Fl} (h : LeftG fs fs.length) : lstG 0 fs 0 = (0, none) := by
  unfold LeftG at h
  rw [h, List.drop_length]
  rfl

end Go.Proofs.YtpkoefpdpoikkaaGreatDoor
namespace Go.Proofs.YtpkoefpdpoikkaaGreatDoor
open Go.RowKit Go.Extern.Stop Go.Stop Go.Extern Go.Sort Go.Shelf Go.Lib

def snV (s : Sn) (vf : Value) : Value := .agg #[.int .i64 s.1, .int .i64 s.2.1, .int .i64 s.2.2.1, .int .i64 s.2.2.2.1, .int .i64 s.2.2.2.2.1, .string s.2.2.2.2.2.1, vf]

def SnAt (W : World) (b : Nat) (s : Sn) (vf : Value) : Prop := W.heap[b]? = some (.cells #[.int .i64 s.1, .int .i64 s.2.1, .int .i64 s.2.2.1, .int .i64 s.2.2.2.1, .int .i64 s.2.2.2.2.1, .string s.2.2.2.2.2.1, vf] 74 (0, 0))
theorem SnAt.lt {W : World} {b : Nat} {s : Sn} {vf : Value} (h : SnAt W b s vf) : b < W.heap.size := lt_of_block h
theorem SnAt.below {W W' : World} {b : Nat} {s : Sn} {vf : Value} (h : SnAt W b s vf) (hb : Below W.heap.size W W') : SnAt W' b s vf := (hb.block b h.lt).trans h
theorem SnAt.cells {W : World} {b : Nat} {s : Sn} {vf : Value} (h : SnAt W b s vf) : W.cell? ⟨b, 0, none⟩ = some (.int .i64 s.1) ∧ W.cell? ⟨b, 1, none⟩ = some (.int .i64 s.2.1) ∧ W.cell? ⟨b, 2, none⟩ = some (.int .i64 s.2.2.1) ∧ W.cell? ⟨b, 3, none⟩ = some (.int .i64 s.2.2.2.1) ∧ W.cell? ⟨b, 4, none⟩ = some (.int .i64 s.2.2.2.2.1) ∧ W.cell? ⟨b, 5, none⟩ = some (.string s.2.2.2.2.2.1) ∧ W.cell? ⟨b, 6, none⟩ = some vf := by
  refine ⟨?_, ?_, ?_, ?_, ?_, ?_, ?_⟩ <;> rw [cell_of_row _ _ _ _ _ _ h] <;> rfl
theorem SnAt.new (w : World) (s : Sn) (vf : Value) : SnAt (w.alloc (.cells #[.int .i64 s.1, .int .i64 s.2.1, .int .i64 s.2.2.1, .int .i64 s.2.2.2.1, .int .i64 s.2.2.2.2.1, .string s.2.2.2.2.2.1, vf] 74)) w.heap.size s vf := heap_alloc_new _ _

def SeqLeft (seq : Int) (fs : List Fl) (n : Nat) : Prop := seqG seq fs 0 = seqG seq (fs.drop n) n
theorem seqL_zero (seq : Int) (fs : List Fl) : SeqLeft seq fs 0 := rfl
theorem seqL_bad {seq : Int} {fs : List Fl} {n : Nat} (h : SeqLeft seq fs n) (hn : n < fs.length) (e : seq < fs[n].2.2.2.2.2) : seqG seq fs 0 = (9, some n) := by
  unfold SeqLeft at h
  rw [h, List.drop_eq_getElem_cons hn]
  unfold seqG
  rw [if_pos e]
theorem seqL_succ {seq : Int} {fs : List Fl} {n : Nat} (h : SeqLeft seq fs n) (hn : n < fs.length) (e : ¬ seq < fs[n].2.2.2.2.2) : SeqLeft seq fs (n + 1) := by
  unfold SeqLeft at h ⊢
  rw [h]
  conv => lhs; rw [List.drop_eq_getElem_cons hn]
  conv => lhs; unfold seqG
  rw [if_neg e]
theorem seqL_all {seq : Int} {fs : List Fl} (h : SeqLeft seq fs fs.length) : seqG seq fs 0 = (0, none) := by
  unfold SeqLeft at h
  rw [h, List.drop_length]
  rfl

theorem snapE_rest {s : Sn} (hb : sbndB s = true) : (opB s.2.2.2.2.2.1.data.toList = false → snapE s = (4, none)) ∧ (opB s.2.2.2.2.2.1.data.toList = true → ((listE s.2.2.2.2.2.2).1 ≠ 0 → snapE s = listE s.2.2.2.2.2.2) ∧ ((listE s.2.2.2.2.2.2).1 = 0 → snapE s = seqG s.2.2.1 s.2.2.2.2.2.2 0)) := by
  unfold snapE
  rw [if_neg (by rw [hb]; simp)]
  refine ⟨fun h => by rw [if_pos h], fun h => ⟨fun h1 => ?_, fun h1 => ?_⟩⟩
  · rw [if_neg (by rw [h]; simp), if_pos h1]
  · rw [if_neg (by rw [h]; simp), if_neg (by simpa using h1)]

end Go.Proofs.YtpkoefpdpoikkaaGreatDoor
namespace Go.Proofs.YtpkoefpdpoikkaaGreatDoor
open Go.RowKit Go.Extern.Stop Go.Stop Go.Extern Go.Sort Go.Shelf Go.Lib

set_option maxRecDepth 100000 in
set_option maxHeartbeats 2000000 in
theorem sameSnap_yes (s : Sn) (va vb : Value) (w : World) (ha : FlsAt w va s.2.2.2.2.2.2) (hb : FlsAt w vb s.2.2.2.2.2.2) (hl : s.2.2.2.2.2.2.length ≤ 20000) :
    Calls Tryz.prog 49 #[snV s va, snV s vb] w fun e w' => e = .returned (.bool true) ∧ Below w.heap.size w w' := by
  have hsf := fun W (h : Below w.heap.size w W) => sameFiles_yes va vb s.2.2.2.2.2.2 W (ha.below h) (hb.below h) hl
  obtain ⟨qa, ca, rfl⟩ := ha.form
  obtain ⟨qb, cb, rfl⟩ := hb.form
  obtain ⟨id, par, seq, day, idx, op, fs⟩ := s
  unfold snV
  dsimp only at *
  generalize fs.length = L at *
  have hal : Below w.heap.size w ((w.alloc (.cells #[.int .i64 id, .int .i64 par, .int .i64 seq, .int .i64 day, .int .i64 idx, .string op, .slice qa L ca] 74)).alloc (.cells #[.int .i64 id, .int .i64 par, .int .i64 seq, .int .i64 day, .int .i64 idx, .string op, .slice qb L cb] 74)) := ((Below.refl _ _).alloc (Nat.le_refl _) _).alloc (by simp) _
  have hA : SnAt ((w.alloc (.cells #[.int .i64 id, .int .i64 par, .int .i64 seq, .int .i64 day, .int .i64 idx, .string op, .slice qa L ca] 74)).alloc (.cells #[.int .i64 id, .int .i64 par, .int .i64 seq, .int .i64 day, .int .i64 idx, .string op, .slice qb L cb] 74)) w.heap.size (id, par, seq, day, idx, op, fs) (.slice qa L ca) := heap_alloc2_old w _ _
  have hB : SnAt ((w.alloc (.cells #[.int .i64 id, .int .i64 par, .int .i64 seq, .int .i64 day, .int .i64 idx, .string op, .slice qa L ca] 74)).alloc (.cells #[.int .i64 id, .int .i64 par, .int .i64 seq, .int .i64 day, .int .i64 idx, .string op, .slice qb L cb] 74)) (w.heap.size + 1) (id, par, seq, day, idx, op, fs) (.slice qb L cb) := heap_alloc2_new w _ _
  have hs1 := hsf _ hal
  clear hsf ha hb
  obtain ⟨a0, a1, a2, a3, a4, a5, a6⟩ := hA.cells
  obtain ⟨b0, b1, b2, b3, b4, b5, b6⟩ := hB.cells
  dsimp only at a0 a1 a2 a3 a4 a5 b0 b1 b2 b3 b4 b5
  have d1 : (op.toList == op.toList) = true := by simp
  clear hA hB
  go_enter Tryz.func49, Tryz.ntmps49
  go_upto_region 1 with fail
  generalize (w.alloc (.cells #[.int .i64 id, .int .i64 par, .int .i64 seq, .int .i64 day, .int .i64 idx, .string op, .slice qa L ca] 74)).alloc (.cells #[.int .i64 id, .int .i64 par, .int .i64 seq, .int .i64 day, .int .i64 idx, .string op, .slice qb L cb] 74) = WA at hal hs1 a0 a1 a2 a3 a4 a5 a6 b0 b1 b2 b3 b4 b5 b6 ⊢
  go_wp2_with fail
  refine hs1.mono ?_
  rintro e w1 ⟨rfl, hb1⟩
  clear hs1
  go_wp2
  go_ret
  exact ⟨rfl, hal.trans (hb1.mono hal.size)⟩
end Go.Proofs.YtpkoefpdpoikkaaGreatDoor
namespace Go.Proofs.YtpkoefpdpoikkaaGreatDoor
open Go.RowKit Go.Extern.Stop Go.Stop Go.Extern Go.Sort Go.Shelf Go.Lib

def Src (w : World) (q : Option Addr) (m c : Nat) (ys : List Value) : Prop :=
  (m = 0 ∧ (q = none → c = 0)) ∨ ∃ b o, q = some ⟨b, o, none⟩ ∧ ∀ j u, ys[j]? = some u → w.cell? ⟨b, o + j, none⟩ = some u

set_option maxHeartbeats 1000000 in
theorem run_append_src {P : Program} (w : World) (base : Nat) (t ty e : TypeId) (i : TypeInfo) (z : Value) (size bytes : Nat) (ht : P.underlying t = some (.slice e)) (hi : P.info? e = some i) (hz : i.zero = some z)
    (hsize : i.size = size) (hby : i.bytes = bytes) (hzs : z.cells.size = size) (hsz : 0 < size)
    (v : Value) (n : Nat) (xs : List Value) (hown : w.ownsRow base e size v n xs)
    (q : Option Addr) (m c : Nat) (news : List Value) (hl : news.length = m * size) (hsrc : Src w q m c news) (h1 : ∀ u ∈ news, u.oneCell' = true)
    (h63 : n + m ≤ maxLen) (hbytes : (n + m) * bytes ≤ 140737488355328) (hbase : base ≤ w.heap.size) :
    ∃ v' w', (Builtin.append_ #[t, t] ty #[v, .slice q m c]).run P w = .ok v' w' ∧ w'.ownsRow base e size v' (n + m) (xs ++ news) ∧ w.grownBy w' v.ownBlock ∧ (v'.ownBlock = v.ownBlock ∨ v'.ownBlock = some w.heap.size) := by
  rcases hsrc with ⟨h0, hc⟩ | ⟨b, o, rfl, hcells⟩
  · subst h0
    have hnews : news = [] := List.length_eq_zero_iff.1 (by simpa using hl)
    subst hnews
    cases q with
    | none =>
      have hc0 := hc rfl
      subst hc0
      refine ⟨v, w, ?_, by simpa using hown, ⟨rfl, rfl, rfl, Nat.le_refl _, fun _ _ _ => rfl⟩, Or.inl rfl⟩
      rcases hown.2 with ⟨rfl, _⟩ | ⟨g, cap, cur, rfl, _, _, hn, _⟩
      · simp [Builtin.append_, run_underlying ht, sizeOf, typeInfo, zeroValue, hi, hz, Builtin.lenOf, run_firstCells_none]
      · simp [Builtin.append_, run_underlying ht, sizeOf, typeInfo, zeroValue, hi, hz, Builtin.lenOf, run_firstCells_none, hn, storeCells]
    | some ad =>
      obtain ⟨v', w', hr, h2, h3, _, h5⟩ := run_append_own_at (P := P) w base t ty e i z size bytes ht hi hz hsize hby hzs hsz v n xs hown ad 0 c [] hl (fun j u hj => by simp at hj) h1 h63 hbytes hbase
      exact ⟨v', w', hr, h2, h3, h5⟩
  · obtain ⟨v', w', hr, h2, h3, _, h5⟩ := run_append_own_at (P := P) w base t ty e i z size bytes ht hi hz hsize hby hzs hsz v n xs hown ⟨b, o, none⟩ m c news hl (fun j u hj => by rw [Addr.add_lit]; exact hcells j u hj) h1 h63 hbytes hbase
    exact ⟨v', w', hr, h2, h3, h5⟩

theorem wpList_append_src {P : Program} {w : World} {ops : Array Oper} {rest : List Oper} {o : Oper} {a : Act} {Q : Exit → Act → World → Prop} (hgd : o.guard = none) (s x : Operand) (t : TypeId)
    (ho : o.op = .call { callee := .builtin .append, args := #[s, x], argTypes := #[t, t] })
    (base : Nat) (e : TypeId) (i : TypeInfo) (z : Value) (size bytes : Nat) (ht : P.underlying t = some (.slice e)) (hi : P.info? e = some i) (hz : i.zero = some z)
    (hsize : i.size = size) (hby : i.bytes = bytes) (hzs : z.cells.size = size) (hsz : 0 < size)
    (v : Value) (n : Nat) (xs : List Value) (hs : a.eval s = v) (hown : w.ownsRow base e size v n xs)
    (q : Option Addr) (m c : Nat) (news : List Value) (hx : a.eval x = .slice q m c) (hl : news.length = m * size) (hsrc : Src w q m c news) (h1 : ∀ u ∈ news, u.oneCell' = true)
    (h63 : n + m ≤ maxLen) (hbytes : (n + m) * bytes ≤ 140737488355328) (hbase : base ≤ w.heap.size)
    (h : ∀ v' w', w'.ownsRow base e size v' (n + m) (xs ++ news) → w.grownBy w' v.ownBlock → (v'.ownBlock = v.ownBlock ∨ v'.ownBlock = some w.heap.size) → wpList P ops Q rest (a.put o.dst v') w') :
    wpList P ops Q (o :: rest) a w := by
  refine wpList_plain hgd fun K hK => ?_
  obtain ⟨v', w', hr, h2, h3, h4⟩ := run_append_src (P := P) w base t o.type e i z size bytes ht hi hz hsize hby hzs hsz v n xs hown q m c news hl hsrc h1 h63 hbytes hbase
  unfold Oper.wp execOp
  simp only [ho, resolve, invoke, builtin, Sem.run_bind, Sem.run_pure, Result.andThen_ok, List.map_toArray, List.map_cons, List.map_nil, hs, hx, hr]
  exact hK _ _ (h v' w' h2 h3 h4)
end Go.Proofs.YtpkoefpdpoikkaaGreatDoor
namespace Go.Proofs.YtpkoefpdpoikkaaGreatDoor
open Go.RowKit Go.Extern.Stop Go.Stop Go.Extern Go.Sort Go.Shelf Go.Lib

theorem src_fls {w : World} {q : Option Addr} {n c : Nat} {fs : List Fl} (h : FlsAt w (.slice q n c) fs) : Src w q n c (flatF fs) := by
  rcases h with ⟨p, c', e, hp, rfl⟩ | ⟨b, o, cap, e, hl, hc⟩
  · simp only [Value.slice.injEq] at e
    obtain ⟨rfl, rfl, rfl⟩ := e
    exact Or.inl ⟨rfl, hp⟩
  · simp only [Value.slice.injEq] at e
    obtain ⟨rfl, rfl, rfl⟩ := e
    exact Or.inr ⟨b, o, rfl, cellsF_flat hc⟩

theorem flCells_take {w : World} {b o : Nat} {fs : List Fl} (h : FlCells w b o fs) (n : Nat) : FlCells w b o (fs.take n) := fun j hj => by
  rw [List.length_take] at hj
  have := h j (by omega)
  rw [List.getElem_take]
  exact this
set_option maxRecDepth 100000 in
set_option maxHeartbeats 2000000 in
theorem ownFiles_any (v : Value) (fs : List Fl) (w : World) (hx : FlsAt w v fs) (hl : fs.length ≤ 1000) :
    Calls Tryz.prog 27 #[v] w fun e w' => ∃ v', e = .returned v' ∧ w'.ownsRow w.heap.size 23 6 v' fs.length (flatF fs) ∧ Below w.heap.size w w' := by
  obtain ⟨i0, hi0, hz0, hs0, hby0⟩ := Tryz.fileInfo
  obtain ⟨q, cap, rfl⟩ := hx.form
  have HSR : Hid (Src w q fs.length cap (flatF fs)) := src_fls hx
  obtain ⟨L, hL⟩ : ∃ L, fs.length = L := ⟨_, rfl⟩
  have HX : Hid (fs.length = L) := hL
  rw [hL] at hl ⊢
  clear hL hx
  go_enter Tryz.func27, Tryz.ntmps27
  go_wp2_with (at_builtin; (refine wpList_append_src rfl _ _ 50 rfl w.heap.size 23 i0 (.agg #[.string ⟨#[]⟩, .string ⟨#[]⟩, .int .i64 0, .int .i64 0, .int .i64 0, .int .i64 0]) 6 64 Tryz.underlying50 hi0 hz0 hs0 hby0 rfl (by decide) (.slice none 0 0) 0 [] rfl (World.ownsRow_nil _ _ _ _) q L cap (flatF fs) rfl ?qf1 ?qf2 ?qf3 ?qf4 ?qf5 ?qf6 ?_))
  any_goals first
    | exact flatF_one fs
    | (rw [flatF_len, HX.out])
    | (have h' := HSR.out; rw [HX.out] at h'; exact h')
    | (unfold maxLen; omega)
    | omega
    | exact Nat.le_refl _
  intro v3 w3 ho3 hg3 _
  have hb3 : Below w.heap.size w w3 := (Below.refl _ _).grown hg3 (Nat.le_refl _) (fun k hk => by simp [Value.ownBlock] at hk)
  have OW : Hid (w3.ownsRow w.heap.size 23 6 v3 L (flatF fs)) := by
    show w3.ownsRow _ _ _ _ _ _
    simpa using ho3
  clear ho3 hg3
  go_wp2
  go_ret
  exact ⟨v3, rfl, OW.out, hb3⟩
end Go.Proofs.YtpkoefpdpoikkaaGreatDoor
namespace Go.Proofs.YtpkoefpdpoikkaaGreatDoor
open Go.RowKit Go.Extern.Stop Go.Stop Go.Extern Go.Sort Go.Shelf Go.Lib

theorem own_slice {W : World} {base : Nat} {e : TypeId} {size : Nat} {v : Value} {n : Nat} {xs : List Value} (h : W.ownsRow base e size v n xs) : ∃ q c, v = .slice q n c := by
  rcases h.2 with ⟨rfl, rfl⟩ | ⟨g, cap, cur, rfl, _⟩
  · exact ⟨_, _, rfl⟩
  · exact ⟨_, _, rfl⟩

end Go.Proofs.YtpkoefpdpoikkaaGreatDoor
namespace Go.Proofs.YtpkoefpdpoikkaaGreatDoor
open Go.RowKit Go.Extern.Stop Go.Stop Go.Extern Go.Sort Go.Shelf Go.Lib

theorem readF_other {l : List UInt8} (h : (words l).length ≠ 6) : readF l = (zeroF, 1) := by
  unfold readF
  split
  · rename_i e; rw [e] at h; simp at h
  · rfl

theorem readF_six {l p q a b c d : List UInt8} (h : words l = [p, q, a, b, c, d]) : readF l = (match numO a, numO b, numO c, numO d with
    | some n, some lo, some hi, some seq => chkF (bytesOf p, bytesOf q, n, lo, hi, seq)
    | _, _, _, _ => (zeroF, 1)) := by
  unfold readF
  rw [h]
  rfl

theorem six_of {α : Type} {ts : List α} (h : ts.length = 6) : ∃ a b c d e f, ts = [a, b, c, d, e, f] := by
  match ts, h with
  | [a, b, c, d, e, f], _ => exact ⟨a, b, c, d, e, f, rfl⟩

theorem cell_store {W : World} {b R o : Nat} {v v0 v1 v2 v3 v4 v5 : Value} (h : b ≠ R) (hc : W.cell? ⟨b, o, none⟩ = some v) : ((((((W.setCell ⟨R, 0, none⟩ v0).setCell ⟨R, 1, none⟩ v1).setCell ⟨R, 2, none⟩ v2).setCell ⟨R, 3, none⟩ v3).setCell ⟨R, 4, none⟩ v4).setCell ⟨R, 5, none⟩ v5).cell? ⟨b, o, none⟩ = some v := by
  rw [World.cell?_setCell_other _ _ _ _ (by simp), World.cell?_setCell_other _ _ _ _ (by simp), World.cell?_setCell_other _ _ _ _ (by simp), World.cell?_setCell_other _ _ _ _ (by simp), World.cell?_setCell_other _ _ _ _ (by simp), World.cell?_setCell_other _ _ _ _ (by simp)]
  exact hc

theorem below_store {W w : World} {R : Nat} {v0 v1 v2 v3 v4 v5 : Value} (h : Below R w W) : Below R w ((((((W.setCell ⟨R, 0, none⟩ v0).setCell ⟨R, 1, none⟩ v1).setCell ⟨R, 2, none⟩ v2).setCell ⟨R, 3, none⟩ v3).setCell ⟨R, 4, none⟩ v4).setCell ⟨R, 5, none⟩ v5) :=
  (((((h.setCell (Nat.le_refl _) _).setCell (Nat.le_refl _) _).setCell (Nat.le_refl _) _).setCell (Nat.le_refl _) _).setCell (Nat.le_refl _) _).setCell (Nat.le_refl _) _

set_option maxRecDepth 100000 in
set_option maxHeartbeats 8000000 in
theorem fread_any (s : ByteArray) (w : World) (a : Nat → Addr) (h : EnvR w a) (hs : s.size ≤ 100000) :
    Calls Tryz.prog 14 #[.string s] w fun e w' => e = .returned (.tuple #[flV (readF s.data.toList).1, errV a (readF s.data.toList).2]) ∧ Below w.heap.size w w' := by
  have hal : Below w.heap.size w (w.alloc (.cells #[.string ⟨#[]⟩, .string ⟨#[]⟩, .int .i64 0, .int .i64 0, .int .i64 0, .int .i64 0] 23)) := (Below.refl _ _).alloc (Nat.le_refl _) _
  have hfz : FlAt (w.alloc (.cells #[.string ⟨#[]⟩, .string ⟨#[]⟩, .int .i64 0, .int .i64 0, .int .i64 0, .int .i64 0] 23)) w.heap.size zeroF := FlAt.new w zeroF
  have hsp := splitTx_any s _ a (h.below hal).weak (by omega)
  generalize hR : readF s.data.toList = R
  have HR : Hid (readF s.data.toList = R) := hR
  clear hR
  have hwl := words_len s.data.toList
  have ZERO : Hid (∀ W, FlAt W w.heap.size zeroF → (W.cell? ⟨w.heap.size, 0, none⟩ = some (.string ⟨#[]⟩) ∧ W.cell? ⟨w.heap.size, 1, none⟩ = some (.string ⟨#[]⟩) ∧ W.cell? ⟨w.heap.size, 2, none⟩ = some (.int .i64 0) ∧ W.cell? ⟨w.heap.size, 3, none⟩ = some (.int .i64 0) ∧ W.cell? ⟨w.heap.size, 4, none⟩ = some (.int .i64 0) ∧ W.cell? ⟨w.heap.size, 5, none⟩ = some (.int .i64 0) ∧ ∀ o, W.frozen? ⟨w.heap.size, o, none⟩ = false)) := fun W hW => hW.cells
  go_enter Tryz.func14, Tryz.ntmps14
  go_wp2_with fail
  generalize w.alloc (.cells #[.string ⟨#[]⟩, .string ⟨#[]⟩, .int .i64 0, .int .i64 0, .int .i64 0, .int .i64 0] 23) = WA at hal hfz hsp ⊢
  refine hsp.mono ?_
  rintro e w1 ⟨v1, ts, rfl, hts, htm, hb1⟩
  clear hsp
  have hB1 : Below w.heap.size w w1 := hal.trans (hb1.mono hal.size)
  have HF1 : Hid (FlAt w1 w.heap.size zeroF) := hfz.below hb1
  clear hfz hb1 hal
  obtain ⟨b, rfl, hcell⟩ := hts
  by_cases h6 : ts.length = 6
  · obtain ⟨P, Q, A, B, C, D, rfl⟩ := six_of h6
    have hw : words s.data.toList = [P.data.toList, Q.data.toList, A.data.toList, B.data.toList, C.data.toList, D.data.toList] := by rw [← htm]; rfl
    have hrs := HR.out
    rw [readF_six hw, bytesOf_data, bytesOf_data] at hrs
    have hwz : ∀ t ∈ [P, Q, A, B, C, D], t.size ≤ 100000 := fun t ht => by
      have := hwl t.data.toList (by rw [← htm]; exact List.mem_map.2 ⟨t, ht, rfl⟩)
      rw [size_list, size_list] at this
      omega
    have hP := hwz P (by simp)
    have hQ := hwz Q (by simp)
    have c0 := hcell 0 (by simp)
    have c1 := hcell 1 (by simp)
    have c2 := hcell 2 (by simp)
    simp only [List.getElem_cons_succ, List.getElem_cons_zero] at c0 c1 c2
    have hnm := numbers_any b 2 4 [A, B, C, D] w1 a (h.below hB1).weak (fun j hj => by
      have hj' : j + 2 < [P, Q, A, B, C, D].length := by simp at hj ⊢; omega
      have := hcell (j + 2) hj'
      rw [Nat.add_comm 2 j]
      simpa using this) (fun t ht => by
        have := hwz t (List.mem_cons_of_mem _ (List.mem_cons_of_mem _ ht))
        unfold maxLen; omega) (by simp)
    have HRS : Hid ((match numO A.data.toList, numO B.data.toList, numO C.data.toList, numO D.data.toList with
      | some n, some lo, some hi, some seq => chkF (P, Q, n, lo, hi, seq)
      | _, _, _, _ => (zeroF, 1)) = R) := hrs
    clear hw htm hwl hcell h6 hwz hrs
    simp only [List.length_cons, List.length_nil, Nat.zero_add, Nat.reduceAdd] at hnm ⊢
    go_wp2_with fail
    refine hnm.mono ?_
    rintro e w3 ⟨hres, hb3⟩
    clear hnm
    have hB3 : Below w.heap.size w w3 := hB1.trans (hb3.mono hB1.size)
    have HF3 : Hid (FlAt w3 w.heap.size zeroF) := HF1.out.below hb3
    rcases hres with ⟨zs, g, hzl, hzn, rfl, hzc⟩ | ⟨j, t, ht, hno, rfl⟩
    · obtain ⟨n, lo, hi, seq, hz4⟩ : ∃ z0 z1 z2 z3, zs = [z0, z1, z2, z3] := by
        match zs, hzl with
        | [z0, z1, z2, z3], _ => exact ⟨z0, z1, z2, z3, rfl⟩
      subst hz4
      have HX : Hid (chkF (P, Q, n, lo, hi, seq) = R) := by
        show _ = _
        rw [← HRS.out]
        have q0 := hzn 0 A rfl
        have q1 := hzn 1 B rfl
        have q2 := hzn 2 C rfl
        have q3 := hzn 3 D rfl
        rw [q0, q1, q2, q3]
        rfl
      have d0 := below_keep hb3 c0
      have d1 := below_keep hb3 c1
      have k0 := hzc 0 (by simp)
      have k1 := hzc 1 (by simp)
      have k2 := hzc 2 (by simp)
      have k3 := hzc 3 (by simp)
      simp only [List.getElem_cons_succ, List.getElem_cons_zero] at k0 k1 k2 k3
      have hck := fun W (hW : EnvK W a) => checked_any (P, Q, n, lo, hi, seq) W a hW hP hQ
      rw [HX.out] at hck
      unfold flV at hck
      obtain ⟨⟨rp, rq, rn, rlo, rhi, rseq⟩, rE⟩ := R
      dsimp only at hck
      have hbR : b ≠ w.heap.size := fun e => by
        have e2 := (ZERO.out w3 HF3.out).2.2.1
        rw [← e] at e2
        have := (below_keep hb3 c2).symm.trans e2
        simp at this
      have hgR : g ≠ w.heap.size := fun e => by
        have e2 := (ZERO.out w3 HF3.out).1
        rw [← e] at e2
        have := k0.symm.trans e2
        simp at this
      have hbR' : ¬ w.heap.size = b := fun e => hbR e.symm
      have hgR' : ¬ w.heap.size = g := fun e => hgR e.symm
      have hbd : Below w3.heap.size w3 w3.drew := (Below.refl _ _).drew
      have hz3 := HF3.out.below hbd
      have HZ3 : Hid (FlAt w3.drew w.heap.size zeroF) := hz3
      have hck3 := hck w3.drew (h.below (hB3.trans (hbd.mono hB3.size))).file
      clear hzn hzc hzl c0 c1 c2 hb3 HRS hck hz3 hbd
      simp only [List.length_cons, List.length_nil, Nat.zero_add, Nat.reduceAdd]
      go_wp2_with fail
      go_region_held3 (fun w' => w'.cell? ⟨b, 0, none⟩ = some (.string P) ∧ w'.cell? ⟨b, 1, none⟩ = some (.string Q) ∧ w'.cell? ⟨g, 0, none⟩ = some (.int .i64 n) ∧ w'.cell? ⟨g, 1, none⟩ = some (.int .i64 lo) ∧ w'.cell? ⟨g, 2, none⟩ = some (.int .i64 hi) ∧ w'.cell? ⟨g, 3, none⟩ = some (.int .i64 seq) ∧ Below w.heap.size w w')
        (first
          | (go_split_ands; with_reducible exact ⟨below_keep hbX (by assumption), below_keep hbX (by assumption), below_keep hbX (by assumption), below_keep hbX (by assumption), below_keep hbX (by assumption), below_keep hbX (by assumption), Below.trans (by assumption) (hbX.mono (Below.size (by assumption)))⟩)
          | (go_split_ands; with_reducible exact ⟨cell_store hbR (by assumption), cell_store hbR (by assumption), cell_store hgR (by assumption), cell_store hgR (by assumption), cell_store hgR (by assumption), cell_store hgR (by assumption), below_store (by assumption)⟩)
          | (go_split_ands; exact ⟨by go_keep, by go_keep, by go_keep, by go_keep, by go_keep, by go_keep, Below.drew (by assumption)⟩))
        (first
          | (go_at_call 65; refine hck3.mono ?_; rintro e w5 ⟨rfl, hbX⟩; obtain ⟨y0, y1, y2, y3, y4, y5, yf⟩ := ZERO.out w5 (HZ3.out.below hbX)))
      go_split_ands
      have hz5 := HZ3.out.below hbX
      have hB5 : Below w.heap.size w w5 := hB3.drew.trans (hbX.mono hB3.drew.size)
      obtain ⟨z0, z1, z2, z3, z4, z5, _⟩ := (hz5.set (rp, rq, rn, rlo, rhi, rseq)).cells
      have hB6 := flSet_below (f := (rp, rq, rn, rlo, rhi, rseq)) hB5 (Nat.le_refl w.heap.size)
      unfold flSet at z0 z1 z2 z3 z4 z5 hB6
      dsimp only at z0 z1 z2 z3 z4 z5 hB6
      clear hz5
      go_wp2
      exact bodyPost_ret (v := .tuple #[.agg #[.string rp, .string rq, .int .i64 rn, .int .i64 rlo, .int .i64 rhi, .int .i64 rseq], errV a rE]) (by simp [results, Tryz.results14, go_sem, z0, z1, z2, z3, z4, z5]) rfl ⟨rfl, hB6⟩
    · have hbadR : R = (zeroF, 1) := by
        rw [← HRS.out]
        match j, ht with
        | 0, ht => rw [Option.some.inj ht, hno]
        | 1, ht => rw [Option.some.inj ht, hno]; split <;> simp_all
        | 2, ht => rw [Option.some.inj ht, hno]; split <;> simp_all
        | 3, ht => rw [Option.some.inj ht, hno]; split <;> simp_all
      subst hbadR
      clear HRS ht hno c0 c1
      have et := (h.below hB3).text
      obtain ⟨y0, y1, y2, y3, y4, y5, yf⟩ := ZERO.out w3 HF3.out
      have s0 := setCell_self y0
      have s1 := setCell_self y1
      have s2 := setCell_self y2
      have s3 := setCell_self y3
      have s4 := setCell_self y4
      have s5 := setCell_self y5
      go_wp2
      go_region
      all_goals go_wp2
      all_goals exact bodyPost_ret (v := .tuple #[.agg #[.string ⟨#[]⟩, .string ⟨#[]⟩, .int .i64 0, .int .i64 0, .int .i64 0, .int .i64 0], .iface 289 (.pointer (some (a 0)))]) (by simp [results, Tryz.results14, go_sem, y0, y1, y2, y3, y4, y5]) rfl ⟨rfl, hB3.drew⟩
  · have hRR := HR.out.symm.trans (readF_other (l := s.data.toList) (fun e => h6 (by rw [← e, ← htm, List.length_map])))
    subst hRR
    generalize ts.length = L at h6 ⊢
    have hne : ¬ (L : Int) = 6 := by omega
    clear htm hwl hcell h6 HR
    have et := (h.below hB1).text
    obtain ⟨y0, y1, y2, y3, y4, y5, yf⟩ := ZERO.out w1 HF1.out
    have s0 := setCell_self y0
    have s1 := setCell_self y1
    have s2 := setCell_self y2
    have s3 := setCell_self y3
    have s4 := setCell_self y4
    have s5 := setCell_self y5
    go_wp2
    go_region
    all_goals go_wp2
    all_goals exact bodyPost_ret (v := .tuple #[.agg #[.string ⟨#[]⟩, .string ⟨#[]⟩, .int .i64 0, .int .i64 0, .int .i64 0, .int .i64 0], .iface 289 (.pointer (some (a 0)))]) (by simp [results, Tryz.results14, go_sem, y0, y1, y2, y3, y4, y5]) rfl ⟨rfl, hB1.drew⟩
end Go.Proofs.YtpkoefpdpoikkaaGreatDoor
