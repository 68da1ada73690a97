/-
  The contracts of the document's own AddOf and RemoveOf.
-/
import Derived.Test.YtpkoefpdpoikkaaDoorListMem
import Derived.Laws.Bits128
import Derived.LaidEql
import Derived.Stop.Asserts
import Derived.RowKitTokens
import Derived.Deep.CutBlock
namespace Go.Proofs.YtpkoefpdpoikkaaDoor
open Go.RowKit Go.Extern.Stop Go.Stop Go.Extern Go.Sort Go.Shelf Go.Lib

theorem cells6 (w : World) (f : Fl) : ∀ j u, (encF f)[j]? = some u → (w.alloc (.cells #[.string f.1, .string f.2.1, .int .i64 f.2.2.1, .int .i64 f.2.2.2.1, .int .i64 f.2.2.2.2.1, .int .i64 f.2.2.2.2.2] 32)).cell? ((⟨w.heap.size, 0, none⟩ : Addr).add j) = some u := by
  intro j u hu
  rw [Addr.add_lit, Nat.zero_add, cell_of_row _ _ _ _ _ _ (heap_alloc_new _ _)]
  rw [← hu]
  simp [encF]

def findF (fs : List Fl) (p : ByteArray) : Int := match fs.findIdx? (fun f => decide (f.1 = p)) with
  | some i => i
  | none => -1

theorem findF_at {fs : List Fl} {p : ByteArray} {n : Nat} (hn : n < fs.length) (h : ∀ j (h : j < fs.length), j < n → fs[j].1 ≠ p) (e : fs[n].1 = p) : findF fs p = n := by
  unfold findF
  have : fs.findIdx? (fun f => decide (f.1 = p)) = some n := by
    rw [List.findIdx?_eq_some_iff_getElem]
    exact ⟨hn, by simpa using e, fun j hj => by simpa using h j (by omega) hj⟩
  rw [this]
theorem findF_no {fs : List Fl} {p : ByteArray} (h : ∀ j (h : j < fs.length), fs[j].1 ≠ p) : findF fs p = -1 := by
  unfold findF
  have : fs.findIdx? (fun f => decide (f.1 = p)) = none := by
    rw [List.findIdx?_eq_none_iff]
    intro f hf
    obtain ⟨j, hj, rfl⟩ := List.mem_iff_getElem.1 hf
    simpa using h j hj
  rw [this]

theorem nopath_succ {fs : List Fl} {n : Nat} {p : ByteArray} (h : ∀ j (h : j < fs.length), j < n → fs[j].1 ≠ p) (hn : n < fs.length) (e : fs[n].1 ≠ p) : ∀ j (h : j < fs.length), j < n + 1 → fs[j].1 ≠ p := fun j hj hjn => by
  rcases Nat.lt_or_ge j n with h' | h'
  · exact h j hj h'
  · obtain rfl : j = n := by omega
    exact e

def offP (p : ByteArray) (f : Fl) : Bool := decide (f.1 ≠ p)
end Go.Proofs.YtpkoefpdpoikkaaDoor
namespace Go.Proofs.YtpkoefpdpoikkaaDoor
open Go.RowKit Go.Extern.Stop Go.Stop Go.Extern Go.Sort Go.Shelf Go.Lib

set_option maxRecDepth 100000 in
set_option maxHeartbeats 4000000 in
theorem sameFiles_yes (v v' : Value) (fs : List Fl) (w : World) (hx : FlsAt w v fs) (hy : FlsAt w v' fs) (hl : fs.length ≤ 20000) :
    Calls Tryd.prog 9 #[v, v'] w fun e w' => e = .returned (.bool true) ∧ Below w.heap.size w w' := by
  obtain ⟨q, cap, rfl⟩ := hx.form
  obtain ⟨q', cap', rfl⟩ := hy.form
  have HFX : Hid (FlsAt w (.slice q fs.length cap) fs) := hx
  have HFY : Hid (FlsAt w (.slice q' fs.length cap') fs) := hy
  obtain ⟨L, hL⟩ : ∃ L, fs.length = L := ⟨_, rfl⟩
  have HX : Hid (fs.length = L) := hL
  rw [hL] at hl ⊢
  clear hL hx hy
  go_enter Tryd.func9, Tryd.ntmps9
  go_wp2
  go_loopw [5] (fun k wr => ∃ n : Nat, n ≤ L ∧ k = .int .i64 n ∧ Below w.heap.size w wr) (fun k _ => L - (intOf k).toNat)
  case atStart => exact ⟨0, by omega, rfl, Below.refl _ _⟩
  case round =>
    obtain ⟨n, hn, rfl, hb⟩ := hrel
    by_cases hlt : n < L
    · have hltx : n < fs.length := by rw [HX.out]; exact hlt
      obtain ⟨b, o, hq, hc⟩ := (HFX.out.below hb).cells (fun e => by rw [e] at hltx; simp at hltx)
      obtain ⟨b', o', hq', hc'⟩ := (HFY.out.below hb).cells (fun e => by rw [e] at hltx; simp at hltx)
      subst hq hq'
      obtain ⟨c0, c1, c2, c3, c4, c5⟩ := hc n hltx
      obtain ⟨d0, d1, d2, d3, d4, d5⟩ := hc' n hltx
      generalize fs[n] = f at c0 c1 c2 c3 c4 c5 d0 d1 d2 d3 d4 d5
      have hnq := fun W => neqF f W
      have hgd : ∀ (bo : BinOp) (a b : Operand) (w : World), Sem.run Tryd.prog (eqGuard bo 32 a b (flV f) (flV f)) w = .ok () w := fun bo a b w => guardF bo a b f f w
      unfold flV at hnq hgd
      obtain ⟨fp, fq, fn, flo, fhi, fseq⟩ := f
      dsimp only at c0 c1 c2 c3 c4 c5 d0 d1 d2 d3 d4 d5 hnq hgd
      have hi : (n : Int) < (L : Int) := by omega
      have hi0' : (0 : Int) ≤ (n : Int) := by omega
      clear hc hc' hltx
      go_wp2
      go_quiet (fail)
      have hb2 : Below w.heap.size w (wr.drewN nq) := below_drewN hb nq
      generalize wr.drewN nq = wr2 at hb2 ⊢
      go_wp2
      go_roundw
      case rel => exact ⟨n + 1, by omega, by go_num, hb2⟩
      case measure => simp [intOf]; omega
    · obtain rfl : n = L := by omega
      go_wp2
      go_ret
      exact ⟨rfl, hb⟩

theorem listL_take (fs : List Fl) (n : Nat) (h : n < fs.length) : listL (fs.take (n + 1)) = listL (fs.take n) ++ (fileL fs[n] ++ [10]) := by
  have e := (List.take_append_getElem h).symm
  unfold listL
  rw [e, List.flatMap_append]
  simp only [List.flatMap_cons, List.flatMap_nil, List.append_nil]

theorem listL_len : ∀ fs : List Fl, (∀ f ∈ fs, fileE f = 0 ∧ f.1.size ≤ 100 ∧ f.2.1.size ≤ 100) → (listL fs).length ≤ 300 * fs.length
  | [], _ => by simp [listL]
  | f :: r, h => by
    have ih := listL_len r (fun g hg => h g (List.mem_cons_of_mem _ hg))
    obtain ⟨h0, h1, h2⟩ := h f List.mem_cons_self
    have := fl_len h0
    have e : listL (f :: r) = fileL f ++ 10 :: listL r := by simp [listL]
    rw [e, List.length_append, List.length_cons, List.length_cons]
    omega

end Go.Proofs.YtpkoefpdpoikkaaDoor
namespace Go.Proofs.YtpkoefpdpoikkaaDoor
open Go.RowKit Go.Extern.Stop Go.Stop Go.Extern Go.Sort Go.Shelf Go.Lib

def ahead (fs : List Fl) : Nat → Int
  | 0 => 0
  | n + 1 => match fs[n]? with
    | some f => fk f
    | none => 0

theorem ahead_succ {fs : List Fl} {n : Nat} (h : n < fs.length) : ahead fs (n + 1) = fk fs[n] := by
  show (match fs[n]? with
    | some f => fk f
    | none => 0) = _
  rw [List.getElem?_eq_getElem h]

def LeftG (fs : List Fl) (n : Nat) : Prop := lstG 0 fs 0 = lstG (ahead fs n) (fs.drop n) n

theorem left_zero (fs : List Fl) : LeftG fs 0 := rfl
theorem left_bad {fs : List Fl} {n : Nat} (h : LeftG fs n) (hn : n < fs.length) (he : fileE fs[n] ≠ 0) : lstG 0 fs 0 = (fileE fs[n], some n) := by
  unfold LeftG at h
  rw [h, List.drop_eq_getElem_cons hn]
  unfold lstG
  rw [if_pos he]
theorem left_order {fs : List Fl} {n : Nat} (h : LeftG fs n) (hn : n < fs.length) (he : fileE fs[n] = 0) (ho : fk fs[n] ≤ ahead fs n) : lstG 0 fs 0 = (9, some n) := by
  unfold LeftG at h
  rw [h, List.drop_eq_getElem_cons hn]
  unfold lstG
  rw [if_neg (by simp [he]), if_pos ho]
theorem left_succ {fs : List Fl} {n : Nat} (h : LeftG fs n) (hn : n < fs.length) (he : fileE fs[n] = 0) (ho : ahead fs n < fk fs[n]) : LeftG fs (n + 1) := by
  unfold LeftG at h ⊢
  rw [h, ahead_succ hn]
  conv => lhs; rw [List.drop_eq_getElem_cons hn]
  conv => lhs; unfold lstG
  rw [if_neg (by simp [he]), if_neg (by omega)]
theorem left_all {fs : List Fl} (h : LeftG fs fs.length) : lstG 0 fs 0 = (0, none) := by
  unfold LeftG at h
  rw [h, List.drop_length]
  rfl

end Go.Proofs.YtpkoefpdpoikkaaDoor
namespace Go.Proofs.YtpkoefpdpoikkaaDoor
open Go.RowKit Go.Extern.Stop Go.Stop Go.Extern Go.Sort Go.Shelf Go.Lib

def Src (w : World) (q : Option Addr) (m c : Nat) (ys : List Value) : Prop :=
  (m = 0 ∧ (q = none → c = 0)) ∨ ∃ b o, q = some ⟨b, o, none⟩ ∧ ∀ j u, ys[j]? = some u → w.cell? ⟨b, o + j, none⟩ = some u

set_option maxHeartbeats 1000000 in
theorem run_append_src {P : Program} (w : World) (base : Nat) (t ty e : TypeId) (i : TypeInfo) (z : Value) (size bytes : Nat) (ht : P.underlying t = some (.slice e)) (hi : P.info? e = some i) (hz : i.zero = some z)
    (hsize : i.size = size) (hby : i.bytes = bytes) (hzs : z.cells.size = size) (hsz : 0 < size)
    (v : Value) (n : Nat) (xs : List Value) (hown : w.ownsRow base e size v n xs)
    (q : Option Addr) (m c : Nat) (news : List Value) (hl : news.length = m * size) (hsrc : Src w q m c news) (h1 : ∀ u ∈ news, u.oneCell' = true)
    (h63 : n + m ≤ maxLen) (hbytes : (n + m) * bytes ≤ 140737488355328) (hbase : base ≤ w.heap.size) :
    ∃ v' w', (Builtin.append_ #[t, t] ty #[v, .slice q m c]).run P w = .ok v' w' ∧ w'.ownsRow base e size v' (n + m) (xs ++ news) ∧ w.grownBy w' v.ownBlock ∧ (v'.ownBlock = v.ownBlock ∨ v'.ownBlock = some w.heap.size) := by
  rcases hsrc with ⟨h0, hc⟩ | ⟨b, o, rfl, hcells⟩
  · subst h0
    have hnews : news = [] := List.length_eq_zero_iff.1 (by simpa using hl)
    subst hnews
    cases q with
    | none =>
      have hc0 := hc rfl
      subst hc0
      refine ⟨v, w, ?_, by simpa using hown, ⟨rfl, rfl, rfl, Nat.le_refl _, fun _ _ _ => rfl⟩, Or.inl rfl⟩
      rcases hown.2 with ⟨rfl, _⟩ | ⟨g, cap, cur, rfl, _, _, hn, _⟩
      · simp [Builtin.append_, run_underlying ht, sizeOf, typeInfo, zeroValue, hi, hz, Builtin.lenOf, run_firstCells_none]
      · simp [Builtin.append_, run_underlying ht, sizeOf, typeInfo, zeroValue, hi, hz, Builtin.lenOf, run_firstCells_none, hn, storeCells]
    | some ad =>
      obtain ⟨v', w', hr, h2, h3, _, h5⟩ := run_append_own_at (P := P) w base t ty e i z size bytes ht hi hz hsize hby hzs hsz v n xs hown ad 0 c [] hl (fun j u hj => by simp at hj) h1 h63 hbytes hbase
      exact ⟨v', w', hr, h2, h3, h5⟩
  · obtain ⟨v', w', hr, h2, h3, _, h5⟩ := run_append_own_at (P := P) w base t ty e i z size bytes ht hi hz hsize hby hzs hsz v n xs hown ⟨b, o, none⟩ m c news hl (fun j u hj => by rw [Addr.add_lit]; exact hcells j u hj) h1 h63 hbytes hbase
    exact ⟨v', w', hr, h2, h3, h5⟩

theorem wpList_append_src {P : Program} {w : World} {ops : Array Oper} {rest : List Oper} {o : Oper} {a : Act} {Q : Exit → Act → World → Prop} (hgd : o.guard = none) (s x : Operand) (t : TypeId)
    (ho : o.op = .call { callee := .builtin .append, args := #[s, x], argTypes := #[t, t] })
    (base : Nat) (e : TypeId) (i : TypeInfo) (z : Value) (size bytes : Nat) (ht : P.underlying t = some (.slice e)) (hi : P.info? e = some i) (hz : i.zero = some z)
    (hsize : i.size = size) (hby : i.bytes = bytes) (hzs : z.cells.size = size) (hsz : 0 < size)
    (v : Value) (n : Nat) (xs : List Value) (hs : a.eval s = v) (hown : w.ownsRow base e size v n xs)
    (q : Option Addr) (m c : Nat) (news : List Value) (hx : a.eval x = .slice q m c) (hl : news.length = m * size) (hsrc : Src w q m c news) (h1 : ∀ u ∈ news, u.oneCell' = true)
    (h63 : n + m ≤ maxLen) (hbytes : (n + m) * bytes ≤ 140737488355328) (hbase : base ≤ w.heap.size)
    (h : ∀ v' w', w'.ownsRow base e size v' (n + m) (xs ++ news) → w.grownBy w' v.ownBlock → (v'.ownBlock = v.ownBlock ∨ v'.ownBlock = some w.heap.size) → wpList P ops Q rest (a.put o.dst v') w') :
    wpList P ops Q (o :: rest) a w := by
  refine wpList_plain hgd fun K hK => ?_
  obtain ⟨v', w', hr, h2, h3, h4⟩ := run_append_src (P := P) w base t o.type e i z size bytes ht hi hz hsize hby hzs hsz v n xs hown q m c news hl hsrc h1 h63 hbytes hbase
  unfold Oper.wp execOp
  simp only [ho, resolve, invoke, builtin, Sem.run_bind, Sem.run_pure, Result.andThen_ok, List.map_toArray, List.map_cons, List.map_nil, hs, hx, hr]
  exact hK _ _ (h v' w' h2 h3 h4)
end Go.Proofs.YtpkoefpdpoikkaaDoor
namespace Go.Proofs.YtpkoefpdpoikkaaDoor
open Go.RowKit Go.Extern.Stop Go.Stop Go.Extern Go.Sort Go.Shelf Go.Lib

theorem src_fls {w : World} {q : Option Addr} {n c : Nat} {fs : List Fl} (h : FlsAt w (.slice q n c) fs) : Src w q n c (flatF fs) := by
  rcases h with ⟨p, c', e, hp, rfl⟩ | ⟨b, o, cap, e, hl, hc⟩
  · simp only [Value.slice.injEq] at e
    obtain ⟨rfl, rfl, rfl⟩ := e
    exact Or.inl ⟨rfl, hp⟩
  · simp only [Value.slice.injEq] at e
    obtain ⟨rfl, rfl, rfl⟩ := e
    exact Or.inr ⟨b, o, rfl, cellsF_flat hc⟩

theorem flCells_take {w : World} {b o : Nat} {fs : List Fl} (h : FlCells w b o fs) (n : Nat) : FlCells w b o (fs.take n) := fun j hj => by
  rw [List.length_take] at hj
  have := h j (by omega)
  rw [List.getElem_take]
  exact this
theorem flCells_drop {w : World} {b o : Nat} {fs : List Fl} (h : FlCells w b o fs) (n : Nat) : FlCells w b (o + n * 6) (fs.drop n) := fun j hj => by
  rw [List.length_drop] at hj
  have := h (n + j) (by omega)
  rw [List.getElem_drop]
  have e : o + n * 6 + j * 6 = o + (n + j) * 6 := by omega
  rw [e]
  exact this

theorem place_at {fs : List Fl} {f : Fl} {n : Nat} (hn : n ≤ fs.length) (h1 : ∀ j (h : j < fs.length), j < n → fk fs[j] < fk f) (h2 : ∀ h : n < fs.length, ¬ fk fs[n] < fk f) : placeL fs f = fs.take n ++ f :: fs.drop n := by
  have hx : ∀ g ∈ fs.take n, fk g < fk f := fun g hg => by
    obtain ⟨a, ha, rfl⟩ := List.mem_iff_getElem.1 hg
    rw [List.length_take] at ha
    rw [List.getElem_take]
    exact h1 a (by omega) (by omega)
  have hs : fs = fs.take n ++ fs.drop n := (List.take_append_drop n fs).symm
  have ht : fs.takeWhile (fun g => decide (fk g < fk f)) = fs.take n := by
    conv => lhs; rw [hs]
    rw [List.takeWhile_append_of_pos (fun g hg => by simpa using hx g hg)]
    rcases Nat.lt_or_ge n fs.length with h | h
    · rw [List.drop_eq_getElem_cons h, List.takeWhile_cons_of_neg (by simpa using h2 h), List.append_nil]
    · rw [List.drop_of_length_le h]; simp
  have hd : fs.dropWhile (fun g => decide (fk g < fk f)) = fs.drop n := by
    conv => lhs; rw [hs]
    rw [List.dropWhile_append_of_pos (fun g hg => by simpa using hx g hg)]
    rcases Nat.lt_or_ge n fs.length with h | h
    · rw [List.drop_eq_getElem_cons h, List.dropWhile_cons_of_neg (by simpa using h2 h)]
    · rw [List.drop_of_length_le h]; simp
  unfold placeL
  rw [ht, hd]

set_option maxRecDepth 100000 in
set_option maxHeartbeats 2000000 in
theorem ownFiles_any (v : Value) (fs : List Fl) (w : World) (hx : FlsAt w v fs) (hl : fs.length ≤ 1000) :
    Calls Tryd.prog 6 #[v] w fun e w' => ∃ v', e = .returned v' ∧ w'.ownsRow w.heap.size 32 6 v' fs.length (flatF fs) ∧ Below w.heap.size w w' := by
  obtain ⟨i0, hi0, hz0, hs0, hby0⟩ := Tryd.fileInfo
  obtain ⟨q, cap, rfl⟩ := hx.form
  have HSR : Hid (Src w q fs.length cap (flatF fs)) := src_fls hx
  obtain ⟨L, hL⟩ : ∃ L, fs.length = L := ⟨_, rfl⟩
  have HX : Hid (fs.length = L) := hL
  rw [hL] at hl ⊢
  clear hL hx
  go_enter Tryd.func6, Tryd.ntmps6
  go_wp2_with (at_builtin; (refine wpList_append_src rfl _ _ 22 rfl w.heap.size 32 i0 (.agg #[.string ⟨#[]⟩, .string ⟨#[]⟩, .int .i64 0, .int .i64 0, .int .i64 0, .int .i64 0]) 6 64 Tryd.underlying22 hi0 hz0 hs0 hby0 rfl (by decide) (.slice none 0 0) 0 [] rfl (World.ownsRow_nil _ _ _ _) q L cap (flatF fs) rfl ?qf1 ?qf2 ?qf3 ?qf4 ?qf5 ?qf6 ?_))
  any_goals first
    | exact flatF_one fs
    | (rw [flatF_len, HX.out])
    | (have h' := HSR.out; rw [HX.out] at h'; exact h')
    | (unfold maxLen; omega)
    | omega
    | exact Nat.le_refl _
  intro v3 w3 ho3 hg3 _
  have hb3 : Below w.heap.size w w3 := (Below.refl _ _).grown hg3 (Nat.le_refl _) (fun k hk => by simp [Value.ownBlock] at hk)
  have OW : Hid (w3.ownsRow w.heap.size 32 6 v3 L (flatF fs)) := by
    show w3.ownsRow _ _ _ _ _ _
    simpa using ho3
  clear ho3 hg3
  go_wp2
  go_ret
  exact ⟨v3, rfl, OW.out, hb3⟩
end Go.Proofs.YtpkoefpdpoikkaaDoor
namespace Go.Proofs.YtpkoefpdpoikkaaDoor
open Go.RowKit Go.Extern.Stop Go.Stop Go.Extern Go.Sort Go.Shelf Go.Lib

def longFs (fs : List Fl) : Bool := (decide (40 < fs.length) && decide (fs.length ≠ 60) && decide (fs.length ≠ 61)) || fs.any longFB

theorem longFs_no {fs : List Fl} (h : longFs fs = false) : fs.length ≤ 61 ∧ ∀ f ∈ fs, f.1.size ≤ 30 ∧ f.2.1.size ≤ 30 := by
  unfold longFs at h
  rw [Bool.or_eq_false_iff] at h
  refine ⟨?_, fun f hf => ?_⟩
  · have h1 := h.1
    rcases Nat.lt_or_ge 40 fs.length with h' | h'
    · simp only [h', decide_true, Bool.true_and] at h1
      simp at h1
      omega
    · omega
  · have := List.any_eq_false.1 h.2 f hf
    simp only [longFB, Bool.or_eq_true, decide_eq_true_eq, not_or] at this
    omega

theorem anyLong_succ {fs : List Fl} {n : Nat} (h : ∀ j (h : j < fs.length), j < n → longFB fs[j] = false) (hn : n < fs.length) (e : longFB fs[n] = false) : ∀ j (h : j < fs.length), j < n + 1 → longFB fs[j] = false := fun j hj hjn => by
  rcases Nat.lt_or_ge j n with h' | h'
  · exact h j hj h'
  · obtain rfl : j = n := by omega
    exact e

set_option maxRecDepth 100000 in
set_option maxHeartbeats 4000000 in
theorem longFiles_any (v : Value) (fs : List Fl) (w : World) (hx : FlsAt w v fs) (hl : fs.length ≤ maxLen) (hsz : ∀ f ∈ fs, f.1.size ≤ maxLen ∧ f.2.1.size ≤ maxLen) :
    Calls Tryd.prog 5 #[v] w fun e w' => e = .returned (.int .i64 (if longFs fs then 1 else 0)) ∧ Below w.heap.size w w' := by
  obtain ⟨q, cap, rfl⟩ := hx.form
  have HFX : Hid (FlsAt w (.slice q fs.length cap) fs) := hx
  have HSZ : Hid (∀ f ∈ fs, f.1.size ≤ maxLen ∧ f.2.1.size ≤ maxLen) := hsz
  obtain ⟨L, hL⟩ : ∃ L, fs.length = L := ⟨_, rfl⟩
  have HX : Hid (fs.length = L) := hL
  rw [hL] at hl ⊢
  unfold maxLen at hl
  generalize hR : (if longFs fs then (1 : Int) else 0) = R
  have HR : Hid ((if longFs fs then (1 : Int) else 0) = R) := hR
  clear hL hx hsz hR
  by_cases hbig : 40 < L ∧ L ≠ 60 ∧ L ≠ 61
  · have hRR : R = 1 := by
      rw [← HR.out, if_pos]
      unfold longFs
      rw [HX.out]
      simp [hbig.1, hbig.2.1, hbig.2.2]
    subst hRR
    obtain ⟨b1, b2, b3⟩ := hbig
    have i1 : (40 : Int) < (L : Int) := by omega
    have j2 : ((L : Int) != 60) = true := by simp; omega
    have j3 : ((L : Int) != 61) = true := by simp; omega
    go_enter Tryd.func5, Tryd.ntmps5
    go_wp2
    go_ret
    exact ⟨rfl, Below.refl _ _⟩
  · have HS : Hid ((decide (40 < fs.length) && decide (fs.length ≠ 60) && decide (fs.length ≠ 61)) = false) := by
      show _ = _
      rw [HX.out]
      rw [Bool.eq_false_iff]
      intro h
      simp only [Bool.and_eq_true, decide_eq_true_eq] at h
      exact hbig ⟨h.1.1, h.1.2, h.2⟩
    have hc3 : (¬ (40 : Int) < (L : Int)) ∨ ((40 : Int) < (L : Int) ∧ (L : Int) = 60) ∨ ((40 : Int) < (L : Int) ∧ ¬ (L : Int) = 60 ∧ (L : Int) = 61) := by omega
    clear hbig
    rcases hc3 with i1 | ⟨i1, i2⟩ | ⟨i1, i2, i3⟩
    · skip
      go_enter Tryd.func5, Tryd.ntmps5
      go_wp2
      go_loopw [3] (fun k wr => ∃ n : Nat, n ≤ L ∧ k = .int .i64 n ∧ (∀ j (h : j < fs.length), j < n → longFB fs[j] = false) ∧ Below w.heap.size w wr) (fun k _ => L - (intOf k).toNat)
      case atStart => exact ⟨0, by omega, rfl, fun j h h' => absurd h' (Nat.not_lt_zero _), Below.refl _ _⟩
      case round =>
        obtain ⟨n, hn, rfl, hno, hb⟩ := hrel
        have HNO : Hid (∀ j (h : j < fs.length), j < n → longFB fs[j] = false) := hno
        clear hno
        by_cases hlt : n < L
        · have hltx : n < fs.length := by rw [HX.out]; exact hlt
          obtain ⟨b, o, hq, hc⟩ := (HFX.out.below hb).cells (fun e => by rw [e] at hltx; simp at hltx)
          subst hq
          obtain ⟨c0, c1, c2, c3, c4, c5⟩ := hc n hltx
          obtain ⟨k1, k2⟩ := HSZ.out fs[n] (List.getElem_mem _)
          have hlf := longFile_any fs[n] wr k1 k2
          have hyes : longFB fs[n] = true → R = 1 := fun e => by
            rw [← HR.out, if_pos]
            unfold longFs
            rw [Bool.or_eq_true]
            exact Or.inr (List.any_eq_true.2 ⟨fs[n], List.getElem_mem _, e⟩)
          have hnx := fun e => anyLong_succ HNO.out hltx e
          unfold flV at hlf
          generalize longFB fs[n] = lb at hlf hyes hnx
          generalize fs[n] = f at c0 c1 c2 c3 c4 c5 hlf
          obtain ⟨fp, fq, fn, flo, fhi, fseq⟩ := f
          dsimp only at c0 c1 c2 c3 c4 c5 hlf
          have hiL : (n : Int) < (L : Int) := by omega
          have hi0' : (0 : Int) ≤ (n : Int) := by omega
          clear hc k1 k2 hltx
          cases lb with
          | true =>
            obtain rfl := hyes rfl
            simp only [if_true] at hlf
            clear hyes hnx
            go_wp2_with fail
            refine hlf.mono ?_
            rintro e w3 ⟨rfl, hb3⟩
            clear hlf
            go_wp2
            go_ret
            exact ⟨rfl, hb.trans (hb3.mono hb.size)⟩
          | false =>
            have HNX : Hid (∀ j (h : j < fs.length), j < n + 1 → longFB fs[j] = false) := hnx rfl
            simp only [Bool.false_eq_true, if_false] at hlf
            clear hyes hnx
            go_wp2_with fail
            refine hlf.mono ?_
            rintro e w3 ⟨rfl, hb3⟩
            clear hlf
            have hb4 : Below w.heap.size w w3 := hb.trans (hb3.mono hb.size)
            go_wp2
            go_roundw
            case rel => exact ⟨n + 1, by omega, by go_num, HNX.out, hb4⟩
            case measure => simp [intOf]; omega
        · obtain rfl : n = L := by omega
          have hRR : R = 0 := by
            rw [← HR.out, if_neg]
            unfold longFs
            rw [HS.out, Bool.false_or]
            intro h
            obtain ⟨f, hf, e⟩ := List.any_eq_true.1 h
            obtain ⟨j, hj, rfl⟩ := List.mem_iff_getElem.1 hf
            rw [HNO.out j hj (by rw [← HX.out]; exact hj)] at e
            cases e
          subst hRR
          go_wp2
          go_ret
          exact ⟨rfl, hb⟩
    · have j2 : ((L : Int) != 60) = false := by rw [i2]; rfl
      go_enter Tryd.func5, Tryd.ntmps5
      go_wp2
      go_loopw [3] (fun k wr => ∃ n : Nat, n ≤ L ∧ k = .int .i64 n ∧ (∀ j (h : j < fs.length), j < n → longFB fs[j] = false) ∧ Below w.heap.size w wr) (fun k _ => L - (intOf k).toNat)
      case atStart => exact ⟨0, by omega, rfl, fun j h h' => absurd h' (Nat.not_lt_zero _), Below.refl _ _⟩
      case round =>
        obtain ⟨n, hn, rfl, hno, hb⟩ := hrel
        have HNO : Hid (∀ j (h : j < fs.length), j < n → longFB fs[j] = false) := hno
        clear hno
        by_cases hlt : n < L
        · have hltx : n < fs.length := by rw [HX.out]; exact hlt
          obtain ⟨b, o, hq, hc⟩ := (HFX.out.below hb).cells (fun e => by rw [e] at hltx; simp at hltx)
          subst hq
          obtain ⟨c0, c1, c2, c3, c4, c5⟩ := hc n hltx
          obtain ⟨k1, k2⟩ := HSZ.out fs[n] (List.getElem_mem _)
          have hlf := longFile_any fs[n] wr k1 k2
          have hyes : longFB fs[n] = true → R = 1 := fun e => by
            rw [← HR.out, if_pos]
            unfold longFs
            rw [Bool.or_eq_true]
            exact Or.inr (List.any_eq_true.2 ⟨fs[n], List.getElem_mem _, e⟩)
          have hnx := fun e => anyLong_succ HNO.out hltx e
          unfold flV at hlf
          generalize longFB fs[n] = lb at hlf hyes hnx
          generalize fs[n] = f at c0 c1 c2 c3 c4 c5 hlf
          obtain ⟨fp, fq, fn, flo, fhi, fseq⟩ := f
          dsimp only at c0 c1 c2 c3 c4 c5 hlf
          have hiL : (n : Int) < (L : Int) := by omega
          have hi0' : (0 : Int) ≤ (n : Int) := by omega
          clear hc k1 k2 hltx
          cases lb with
          | true =>
            obtain rfl := hyes rfl
            simp only [if_true] at hlf
            clear hyes hnx
            go_wp2_with fail
            refine hlf.mono ?_
            rintro e w3 ⟨rfl, hb3⟩
            clear hlf
            go_wp2
            go_ret
            exact ⟨rfl, hb.trans (hb3.mono hb.size)⟩
          | false =>
            have HNX : Hid (∀ j (h : j < fs.length), j < n + 1 → longFB fs[j] = false) := hnx rfl
            simp only [Bool.false_eq_true, if_false] at hlf
            clear hyes hnx
            go_wp2_with fail
            refine hlf.mono ?_
            rintro e w3 ⟨rfl, hb3⟩
            clear hlf
            have hb4 : Below w.heap.size w w3 := hb.trans (hb3.mono hb.size)
            go_wp2
            go_roundw
            case rel => exact ⟨n + 1, by omega, by go_num, HNX.out, hb4⟩
            case measure => simp [intOf]; omega
        · obtain rfl : n = L := by omega
          have hRR : R = 0 := by
            rw [← HR.out, if_neg]
            unfold longFs
            rw [HS.out, Bool.false_or]
            intro h
            obtain ⟨f, hf, e⟩ := List.any_eq_true.1 h
            obtain ⟨j, hj, rfl⟩ := List.mem_iff_getElem.1 hf
            rw [HNO.out j hj (by rw [← HX.out]; exact hj)] at e
            cases e
          subst hRR
          go_wp2
          go_ret
          exact ⟨rfl, hb⟩
    · have j2 : ((L : Int) != 60) = true := by simp [i2]
      have j3 : ((L : Int) != 61) = false := by rw [i3]; rfl
      go_enter Tryd.func5, Tryd.ntmps5
      go_wp2
      go_loopw [3] (fun k wr => ∃ n : Nat, n ≤ L ∧ k = .int .i64 n ∧ (∀ j (h : j < fs.length), j < n → longFB fs[j] = false) ∧ Below w.heap.size w wr) (fun k _ => L - (intOf k).toNat)
      case atStart => exact ⟨0, by omega, rfl, fun j h h' => absurd h' (Nat.not_lt_zero _), Below.refl _ _⟩
      case round =>
        obtain ⟨n, hn, rfl, hno, hb⟩ := hrel
        have HNO : Hid (∀ j (h : j < fs.length), j < n → longFB fs[j] = false) := hno
        clear hno
        by_cases hlt : n < L
        · have hltx : n < fs.length := by rw [HX.out]; exact hlt
          obtain ⟨b, o, hq, hc⟩ := (HFX.out.below hb).cells (fun e => by rw [e] at hltx; simp at hltx)
          subst hq
          obtain ⟨c0, c1, c2, c3, c4, c5⟩ := hc n hltx
          obtain ⟨k1, k2⟩ := HSZ.out fs[n] (List.getElem_mem _)
          have hlf := longFile_any fs[n] wr k1 k2
          have hyes : longFB fs[n] = true → R = 1 := fun e => by
            rw [← HR.out, if_pos]
            unfold longFs
            rw [Bool.or_eq_true]
            exact Or.inr (List.any_eq_true.2 ⟨fs[n], List.getElem_mem _, e⟩)
          have hnx := fun e => anyLong_succ HNO.out hltx e
          unfold flV at hlf
          generalize longFB fs[n] = lb at hlf hyes hnx
          generalize fs[n] = f at c0 c1 c2 c3 c4 c5 hlf
          obtain ⟨fp, fq, fn, flo, fhi, fseq⟩ := f
          dsimp only at c0 c1 c2 c3 c4 c5 hlf
          have hiL : (n : Int) < (L : Int) := by omega
          have hi0' : (0 : Int) ≤ (n : Int) := by omega
          clear hc k1 k2 hltx
          cases lb with
          | true =>
            obtain rfl := hyes rfl
            simp only [if_true] at hlf
            clear hyes hnx
            go_wp2_with fail
            refine hlf.mono ?_
            rintro e w3 ⟨rfl, hb3⟩
            clear hlf
            go_wp2
            go_ret
            exact ⟨rfl, hb.trans (hb3.mono hb.size)⟩
          | false =>
            have HNX : Hid (∀ j (h : j < fs.length), j < n + 1 → longFB fs[j] = false) := hnx rfl
            simp only [Bool.false_eq_true, if_false] at hlf
            clear hyes hnx
            go_wp2_with fail
            refine hlf.mono ?_
            rintro e w3 ⟨rfl, hb3⟩
            clear hlf
            have hb4 : Below w.heap.size w w3 := hb.trans (hb3.mono hb.size)
            go_wp2
            go_roundw
            case rel => exact ⟨n + 1, by omega, by go_num, HNX.out, hb4⟩
            case measure => simp [intOf]; omega
        · obtain rfl : n = L := by omega
          have hRR : R = 0 := by
            rw [← HR.out, if_neg]
            unfold longFs
            rw [HS.out, Bool.false_or]
            intro h
            obtain ⟨f, hf, e⟩ := List.any_eq_true.1 h
            obtain ⟨j, hj, rfl⟩ := List.mem_iff_getElem.1 hf
            rw [HNO.out j hj (by rw [← HX.out]; exact hj)] at e
            cases e
          subst hRR
          go_wp2
          go_ret
          exact ⟨rfl, hb⟩
end Go.Proofs.YtpkoefpdpoikkaaDoor
namespace Go.Proofs.YtpkoefpdpoikkaaDoor
open Go.RowKit Go.Extern.Stop Go.Stop Go.Extern Go.Sort Go.Shelf Go.Lib

def addE (fs : List Fl) (f : Fl) : Nat × Option Nat := if (listE fs).1 ≠ 0 then listE fs else if fileE f ≠ 0 then (fileE f, none) else if 0 ≤ findF fs f.1 then (7, none) else if 60 ≤ fs.length then (8, none) else (0, none)
def addL (fs : List Fl) (f : Fl) : List Fl := if (addE fs f).1 = 0 then placeL fs f else []
def remE (fs : List Fl) (p : ByteArray) : Nat × Option Nat := if (listE fs).1 ≠ 0 then listE fs else if findF fs p < 0 then (6, none) else (0, none)
def remL (fs : List Fl) (p : ByteArray) : List Fl := if (remE fs p).1 = 0 then fs.filter (offP p) else []

end Go.Proofs.YtpkoefpdpoikkaaDoor
