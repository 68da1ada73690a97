/-
  What may go, in plain mathematics: snaps that are kept, names that they need, objects that are not needed.
-/
import Derived.Test.YtbdhdlloihkibaaGreatDoorRefSnap1
import Derived.Test.YtbdhdlloihkibaaGreatDoorStorePure
namespace Go.Proofs.YtbdhdlloihkibaaGreatDoor
open Go.RowKit Go.Extern.Stop Go.Stop Go.Extern Go.Sort Go.Shelf Go.Lib

def Src (w : World) (q : Option Addr) (m c : Nat) (ys : List Value) : Prop :=
  (m = 0 ∧ (q = none → c = 0)) ∨ ∃ b o, q = some ⟨b, o, none⟩ ∧ ∀ j u, ys[j]? = some u → w.cell? ⟨b, o + j, none⟩ = some u

theorem src_new (w : World) (cs : List Value) (t : TypeId) (m c : Nat) : Src (w.alloc (.cells cs.toArray t)) (some ⟨w.heap.size, 0, none⟩) m c cs := by
  refine Or.inr ⟨_, _, rfl, fun j u hj => ?_⟩
  rw [Nat.zero_add]
  have h := heap_alloc_new w (.cells cs.toArray t)
  unfold World.cell?
  dsimp only
  rw [h]
  simpa using hj

set_option maxHeartbeats 1000000 in
theorem run_append_src {P : Program} (w : World) (base : Nat) (t ty e : TypeId) (i : TypeInfo) (z : Value) (size bytes : Nat) (ht : P.underlying t = some (.slice e)) (hi : P.info? e = some i) (hz : i.zero = some z)
    (hsize : i.size = size) (hby : i.bytes = bytes) (hzs : z.cells.size = size) (hsz : 0 < size)
    (v : Value) (n : Nat) (xs : List Value) (hown : w.ownsRow base e size v n xs)
    (q : Option Addr) (m c : Nat) (news : List Value) (hl : news.length = m * size) (hsrc : Src w q m c news) (h1 : ∀ u ∈ news, u.oneCell' = true)
    (h63 : n + m ≤ maxLen) (hbytes : (n + m) * bytes ≤ 140737488355328) (hbase : base ≤ w.heap.size) :
    ∃ v' w', (Builtin.append_ #[t, t] ty #[v, .slice q m c]).run P w = .ok v' w' ∧ w'.ownsRow base e size v' (n + m) (xs ++ news) ∧ w.grownBy w' v.ownBlock ∧ (v'.ownBlock = v.ownBlock ∨ v'.ownBlock = some w.heap.size) := by
  rcases hsrc with ⟨h0, hc⟩ | ⟨b, o, rfl, hcells⟩
  · subst h0
    have hnews : news = [] := List.length_eq_zero_iff.1 (by simpa using hl)
    subst hnews
    cases q with
    | none =>
      have hc0 := hc rfl
      subst hc0
      refine ⟨v, w, ?_, by simpa using hown, ⟨rfl, rfl, rfl, Nat.le_refl _, fun _ _ _ => rfl⟩, Or.inl rfl⟩
      rcases hown.2 with ⟨rfl, _⟩ | ⟨g, cap, cur, rfl, _, _, hn, _⟩
      · simp [Builtin.append_, run_underlying ht, sizeOf, typeInfo, zeroValue, hi, hz, Builtin.lenOf, run_firstCells_none]
      · simp [Builtin.append_, run_underlying ht, sizeOf, typeInfo, zeroValue, hi, hz, Builtin.lenOf, run_firstCells_none, hn, storeCells]
    | some ad =>
      obtain ⟨v', w', hr, h2, h3, _, h5⟩ := run_append_own_at (P := P) w base t ty e i z size bytes ht hi hz hsize hby hzs hsz v n xs hown ad 0 c [] hl (fun j u hj => by simp at hj) h1 h63 hbytes hbase
      exact ⟨v', w', hr, h2, h3, h5⟩
  · obtain ⟨v', w', hr, h2, h3, _, h5⟩ := run_append_own_at (P := P) w base t ty e i z size bytes ht hi hz hsize hby hzs hsz v n xs hown ⟨b, o, none⟩ m c news hl (fun j u hj => by rw [Addr.add_lit]; exact hcells j u hj) h1 h63 hbytes hbase
    exact ⟨v', w', hr, h2, h3, h5⟩

theorem wpList_append_src {P : Program} {w : World} {ops : Array Oper} {rest : List Oper} {o : Oper} {a : Act} {Q : Exit → Act → World → Prop} (hgd : o.guard = none) (s x : Operand) (t : TypeId)
    (ho : o.op = .call { callee := .builtin .append, args := #[s, x], argTypes := #[t, t] })
    (base : Nat) (e : TypeId) (i : TypeInfo) (z : Value) (size bytes : Nat) (ht : P.underlying t = some (.slice e)) (hi : P.info? e = some i) (hz : i.zero = some z)
    (hsize : i.size = size) (hby : i.bytes = bytes) (hzs : z.cells.size = size) (hsz : 0 < size)
    (v : Value) (n : Nat) (xs : List Value) (hs : a.eval s = v) (hown : w.ownsRow base e size v n xs)
    (q : Option Addr) (m c : Nat) (news : List Value) (hx : a.eval x = .slice q m c) (hl : news.length = m * size) (hsrc : Src w q m c news) (h1 : ∀ u ∈ news, u.oneCell' = true)
    (h63 : n + m ≤ maxLen) (hbytes : (n + m) * bytes ≤ 140737488355328) (hbase : base ≤ w.heap.size)
    (h : ∀ v' w', w'.ownsRow base e size v' (n + m) (xs ++ news) → w.grownBy w' v.ownBlock → (v'.ownBlock = v.ownBlock ∨ v'.ownBlock = some w.heap.size) → wpList P ops Q rest (a.put o.dst v') w') :
    wpList P ops Q (o :: rest) a w := by
  refine wpList_plain hgd fun K hK => ?_
  obtain ⟨v', w', hr, h2, h3, h4⟩ := run_append_src (P := P) w base t o.type e i z size bytes ht hi hz hsize hby hzs hsz v n xs hown q m c news hl hsrc h1 h63 hbytes hbase
  unfold Oper.wp execOp
  simp only [ho, resolve, invoke, builtin, Sem.run_bind, Sem.run_pure, Result.andThen_ok, List.map_toArray, List.map_cons, List.map_nil, hs, hx, hr]
  exact hK _ _ (h v' w' h2 h3 h4)
end Go.Proofs.YtbdhdlloihkibaaGreatDoor
namespace Go.Proofs.YtbdhdlloihkibaaGreatDoor
open Go.RowKit Go.Extern.Stop Go.Stop Go.Extern Go.Sort Go.Shelf Go.Lib

theorem src_fls {w : World} {q : Option Addr} {n c : Nat} {fs : List Fl} (h : FlsAt w (.slice q n c) fs) : Src w q n c (flatF fs) := by
  rcases h with ⟨p, c', e, hp, rfl⟩ | ⟨b, o, cap, e, hl, hc⟩
  · simp only [Value.slice.injEq] at e
    obtain ⟨rfl, rfl, rfl⟩ := e
    exact Or.inl ⟨rfl, hp⟩
  · simp only [Value.slice.injEq] at e
    obtain ⟨rfl, rfl, rfl⟩ := e
    exact Or.inr ⟨b, o, rfl, cellsF_flat hc⟩

set_option maxRecDepth 100000 in
set_option maxHeartbeats 2000000 in
theorem ownFiles_any (v : Value) (fs : List Fl) (w : World) (hx : FlsAt w v fs) (hl : fs.length ≤ 1000) :
    Calls Tryz.prog 26 #[v] w fun e w' => ∃ v', e = .returned v' ∧ w'.ownsRow w.heap.size 50 6 v' fs.length (flatF fs) ∧ Below w.heap.size w w' := by
  obtain ⟨i0, hi0, hz0, hs0, hby0⟩ := Tryz.fileInfo
  obtain ⟨q, cap, rfl⟩ := hx.form
  have HSR : Hid (Src w q fs.length cap (flatF fs)) := src_fls hx
  obtain ⟨L, hL⟩ : ∃ L, fs.length = L := ⟨_, rfl⟩
  have HX : Hid (fs.length = L) := hL
  rw [hL] at hl ⊢
  clear hL hx
  go_enter Tryz.func26, Tryz.ntmps26
  go_wp2_with (at_builtin; (refine wpList_append_src rfl _ _ 28 rfl w.heap.size 50 i0 (.agg #[.string ⟨#[]⟩, .string ⟨#[]⟩, .int .i64 0, .int .i64 0, .int .i64 0, .int .i64 0]) 6 64 Tryz.underlying28 hi0 hz0 hs0 hby0 rfl (by decide) (.slice none 0 0) 0 [] rfl (World.ownsRow_nil _ _ _ _) q L cap (flatF fs) rfl ?qf1 ?qf2 ?qf3 ?qf4 ?qf5 ?qf6 ?_))
  any_goals first
    | exact flatF_one fs
    | (rw [flatF_len, HX.out])
    | (have h' := HSR.out; rw [HX.out] at h'; exact h')
    | (unfold maxLen; omega)
    | omega
    | exact Nat.le_refl _
  intro v3 w3 ho3 hg3 _
  have hb3 : Below w.heap.size w w3 := (Below.refl _ _).grown hg3 (Nat.le_refl _) (fun k hk => by simp [Value.ownBlock] at hk)
  have OW : Hid (w3.ownsRow w.heap.size 50 6 v3 L (flatF fs)) := by
    show w3.ownsRow _ _ _ _ _ _
    simpa using ho3
  clear ho3 hg3
  go_wp2
  go_ret
  exact ⟨v3, rfl, OW.out, hb3⟩
end Go.Proofs.YtbdhdlloihkibaaGreatDoor
namespace Go.Proofs.YtbdhdlloihkibaaGreatDoor
open Go.RowKit Go.Extern.Stop Go.Stop Go.Extern Go.Sort Go.Shelf Go.Lib

theorem SnAt.fz {W : World} {b : Nat} {s : Sn} {vf : Value} (h : SnAt W b s vf) (o : Nat) : W.frozen? ⟨b, o, none⟩ = false := frozen_of_row _ _ _ _ _ h

def snSet (W : World) (b : Nat) (s : Sn) (vf : Value) : World := ((((((W.setCell ⟨b, 0, none⟩ (.int .i64 s.1)).setCell ⟨b, 1, none⟩ (.int .i64 s.2.1)).setCell ⟨b, 2, none⟩ (.int .i64 s.2.2.1)).setCell ⟨b, 3, none⟩ (.int .i64 s.2.2.2.1)).setCell ⟨b, 4, none⟩ (.int .i64 s.2.2.2.2.1)).setCell ⟨b, 5, none⟩ (.string s.2.2.2.2.2.1)).setCell ⟨b, 6, none⟩ vf
theorem SnAt.set {W : World} {b : Nat} {s : Sn} {vf : Value} (h : SnAt W b s vf) (s' : Sn) (vf' : Value) : SnAt (snSet W b s' vf') b s' vf' := by
  unfold SnAt snSet at *
  rw [heap_setCell_same _ _ _ _ _ _ (heap_setCell_same _ _ _ _ _ _ (heap_setCell_same _ _ _ _ _ _ (heap_setCell_same _ _ _ _ _ _ (heap_setCell_same _ _ _ _ _ _ (heap_setCell_same _ _ _ _ _ _ (heap_setCell_same _ _ _ _ _ _ h))))))]
  rfl
theorem snSet_below {W W0 : World} {B b : Nat} {s : Sn} {vf : Value} (h : Below B W0 W) (hb : B ≤ b) : Below B W0 (snSet W b s vf) := ((((((h.setCell hb _).setCell hb _).setCell hb _).setCell hb _).setCell hb _).setCell hb _).setCell hb _

theorem sn_other {W : World} {F G : Nat} {s : Sn} {vf : Value} (h : SnAt W F s vf) (hne : G ≠ F) (o : Nat) (z : Value) : SnAt (W.setCell ⟨G, o, none⟩ z) F s vf := (heap_setCell_other _ _ _ _ (fun e => hne e.symm)).trans h

def OffF (v : Value) (fs : List Fl) (R : Nat) : Prop := ∀ b o c n, v = .slice (some ⟨b, o, none⟩) n c → fs ≠ [] → b ≠ R

theorem off_of {W : World} {R : Nat} {s : Sn} {q : Option Addr} {n c : Nat} {v : Value} {fs : List Fl} (h : SnAt W R s (.slice q n c)) (hr : FlsAt W v fs) : OffF v fs R := by
  intro b o c' n' hv hne e
  subst e
  rcases hr with ⟨_, _, _, _, e⟩ | ⟨b2, o2, c2, e2, _, hc⟩
  · exact hne e
  · rw [e2] at hv
    injection hv with e3
    injection e3 with e3
    injection e3 with e3 e4
    subst e3
    subst e4
    obtain ⟨h0, h1, _⟩ := hc 0 (List.length_pos_iff.2 hne)
    rw [cell_of_row _ _ _ _ _ _ h] at h0 h1
    simp only [Nat.zero_mul, Nat.add_zero] at h0 h1
    match o2, h0, h1 with
    | 0, h0, _ => simp at h0
    | 1, h0, _ => simp at h0
    | 2, h0, _ => simp at h0
    | 3, h0, _ => simp at h0
    | 4, h0, _ => simp at h0
    | 5, _, h1 => simp at h1
    | 6, h0, _ => simp at h0
    | k + 7, h0, _ => simp at h0

theorem FlsAt.set_off {W : World} {R : Nat} {v : Value} {fs : List Fl} (h : FlsAt W v fs) (ho : OffF v fs R) (k : Nat) (z : Value) : FlsAt (W.setCell ⟨R, k, none⟩ z) v fs := by
  rcases h with h | ⟨b, o, c, hv, hl, hc⟩
  · exact Or.inl h
  · by_cases hne : fs = []
    · exact Or.inl ⟨some ⟨b, o, none⟩, c, by rw [hv, hne]; rfl, fun e => (nomatch e), hne⟩
    · have hb := ho b o c _ hv hne
      have hk : ∀ p, (W.setCell ⟨R, k, none⟩ z).cell? ⟨b, p, none⟩ = W.cell? ⟨b, p, none⟩ := fun p => World.cell?_setCell_other _ _ _ _ (by intro e; injection e with e; exact hb e.symm)
      refine Or.inr ⟨b, o, c, hv, hl, fun j hj => ?_⟩
      obtain ⟨h0, h1, h2, h3, h4, h5⟩ := hc j hj
      exact ⟨(hk _).trans h0, (hk _).trans h1, (hk _).trans h2, (hk _).trans h3, (hk _).trans h4, (hk _).trans h5⟩

end Go.Proofs.YtbdhdlloihkibaaGreatDoor
namespace Go.Proofs.YtbdhdlloihkibaaGreatDoor
open Go.RowKit Go.Extern.Stop Go.Stop Go.Extern Go.Sort Go.Shelf Go.Lib

def Short (fs : List Fl) : Prop := ∀ g ∈ fs, g.1.size ≤ 30 ∧ g.2.1.size ≤ 30

end Go.Proofs.YtbdhdlloihkibaaGreatDoor
namespace Go.Proofs.YtbdhdlloihkibaaGreatDoor
open Go Go.Lib

def inT (ts : List ByteArray) (p : ByteArray) : Bool := ts.any fun t => decide (t = p)

theorem inT_iff {ts : List ByteArray} {p : ByteArray} : inT ts p = true ↔ p ∈ ts := by
  simp only [inT, List.any_eq_true, decide_eq_true_eq]
  exact ⟨fun ⟨x, hx, e⟩ => e ▸ hx, fun h => ⟨p, h, rfl⟩⟩
theorem inT_no {ts : List ByteArray} {p : ByteArray} : inT ts p = false ↔ p ∉ ts := by
  rw [← inT_iff]; simp
end Go.Proofs.YtbdhdlloihkibaaGreatDoor
namespace Go.Proofs.YtbdhdlloihkibaaGreatDoor
open Go.RowKit Go.Extern.Stop Go.Stop Go.Extern Go.Sort Go.Shelf Go.Lib

def farE (n : Int) : Bool := !inNum n
def keepB (day age count : Int) (left : Nat) (s : Sn) : Bool := decide (left = 0) || (!farE day && !farE age && (decide ((left : Int) < count) || decide (day - age ≤ s.2.2.2.1)))
def keepL (day age count : Int) : List Sn → List Int
  | [] => []
  | s :: r => if keepB day age count r.length s = true then s.1 :: keepL day age count r else keepL day age count r
theorem keepL_cons (day age count : Int) (s : Sn) (r : List Sn) : keepL day age count (s :: r) = if keepB day age count r.length s = true then s.1 :: keepL day age count r else keepL day age count r := by rw [keepL]
def keepN (day age count : Int) (ss : List Sn) (n : Nat) : List Int := (List.range n).filterMap fun i => (ss[i]?).bind fun s => if keepB day age count (ss.length - 1 - i) s = true then some s.1 else none
theorem keepN_succ {day age count : Int} {ss : List Sn} {n : Nat} (h : n < ss.length) : keepN day age count ss (n + 1) = keepN day age count ss n ++ (if keepB day age count (ss.length - 1 - n) ss[n] = true then [ss[n].1] else []) := by
  unfold keepN
  rw [List.range_succ, List.filterMap_append]
  congr 1
  simp only [List.filterMap_cons, List.filterMap_nil, List.getElem?_eq_getElem h, Option.bind_some]
  split <;> simp_all
theorem fm_congr {α β : Type} {f g : α → Option β} : ∀ {l : List α}, (∀ x ∈ l, f x = g x) → l.filterMap f = l.filterMap g
  | [], _ => rfl
  | a :: r, h => by
    rw [List.filterMap_cons, List.filterMap_cons, h a List.mem_cons_self, fm_congr (fun x hx => h x (List.mem_cons_of_mem _ hx))]
theorem keep_map {day age count : Int} : ∀ (ss : List Sn) (k : Nat), (List.range' k ss.length).filterMap (fun i => (ss[i - k]?).bind fun s => if keepB day age count (ss.length - 1 - (i - k)) s = true then some s.1 else none) = keepL day age count ss
  | [], k => rfl
  | s :: r, k => by
    rw [List.length_cons, List.range'_succ, List.filterMap_cons]
    have ih := keep_map (day := day) (age := age) (count := count) r (k + 1)
    have e : (List.range' (k + 1) r.length).filterMap (fun i => ((s :: r)[i - k]?).bind fun x => if keepB day age count (r.length + 1 - 1 - (i - k)) x = true then some x.1 else none) = keepL day age count r := by
      rw [← ih]
      apply fm_congr
      intro i hi
      have hi2 := List.mem_range'.1 hi
      obtain ⟨j, hj, rfl⟩ := hi2
      have e1 : k + 1 + 1 * j - k = j + 1 := by omega
      have e2 : k + 1 + 1 * j - (k + 1) = j := by omega
      have e3 : r.length + 1 - 1 - (j + 1) = r.length - 1 - j := by omega
      rw [e1, e2, e3, List.getElem?_cons_succ]
    rw [e]
    have e4 : k - k = 0 := Nat.sub_self k
    have e5 : r.length + 1 - 1 - 0 = r.length := by omega
    simp only [e4, List.getElem?_cons_zero, Option.bind_some, e5]
    rw [keepL_cons]
    cases keepB day age count r.length s <;> rfl
theorem keepN_all (day age count : Int) (ss : List Sn) : keepN day age count ss ss.length = keepL day age count ss := by
  have h := keep_map (day := day) (age := age) (count := count) ss 0
  unfold keepN
  rw [List.range_eq_range']
  simpa using h
theorem keepN_len (day age count : Int) (ss : List Sn) (n : Nat) : (keepN day age count ss n).length ≤ n := by
  unfold keepN
  have h := List.length_filterMap_le (fun i => (ss[i]?).bind fun s => if keepB day age count (ss.length - 1 - i) s = true then some s.1 else none) (List.range n)
  rw [List.length_range] at h
  exact h

def wthS (s : ByteArray) (l : List ByteArray) : List ByteArray := if l[plcS s l]? = some s then l else ispS s l
theorem wthS_mem {s x : ByteArray} {l : List ByteArray} : x ∈ wthS s l ↔ x = s ∨ x ∈ l := by
  unfold wthS
  split
  · rename_i h
    constructor
    · exact Or.inr
    · rintro (rfl | h2)
      · exact List.mem_of_getElem? h
      · exact h2
  · exact ispS_mem
theorem plc_there {s : ByteArray} : ∀ {l : List ByteArray}, RiseS l → s ∈ l → l[plcS s l]? = some s
  | [], _, h => absurd h List.not_mem_nil
  | q :: r, hr, h => by
    unfold RiseS at hr
    rw [List.pairwise_cons] at hr
    by_cases e : ltS q s = true
    · have e1 : plcS s (q :: r) = plcS s r + 1 := by rw [plcS, if_pos e]
      rw [e1, List.getElem?_cons_succ]
      rcases List.mem_cons.1 h with h1 | h1
      · exact absurd h1.symm (ltS_ne e)
      · exact plc_there hr.2 h1
    · have e1 : plcS s (q :: r) = 0 := by rw [plcS, if_neg e]
      rw [e1, List.getElem?_cons_zero]
      rcases List.mem_cons.1 h with h1 | h1
      · rw [h1]
      · exact absurd (hr.1 s h1) e
theorem wthS_rise {s : ByteArray} {l : List ByteArray} (h : RiseS l) : RiseS (wthS s l) := by
  unfold wthS
  split
  · exact h
  · rename_i e
    exact ispS_rise h (fun hm => e (plc_there h hm))
theorem wthS_len (s : ByteArray) (l : List ByteArray) : (wthS s l).length ≤ l.length + 1 := by
  unfold wthS
  split
  · omega
  · rw [ispS_cut]
    simp only [List.length_append, List.length_take, List.length_drop, List.length_singleton]
    omega
def snpB (id : Int) : ByteArray := ⟨#[115, 110, 97, 112, 47]⟩ ++ bytesOf (itoa id)
def needS (s : Sn) : List ByteArray := snpB s.1 :: s.2.2.2.2.2.2.map (·.1)
def reachL (ss : List Sn) : List ByteArray := (ss.flatMap needS).foldl (fun l x => wthS x l) []
theorem reach_fold : ∀ (xs l : List ByteArray), RiseS l → RiseS (xs.foldl (fun l x => wthS x l) l) ∧ ∀ x, x ∈ xs.foldl (fun l x => wthS x l) l ↔ x ∈ xs ∨ x ∈ l
  | [], l, h => ⟨h, fun x => by simp⟩
  | a :: r, l, h => by
    obtain ⟨h1, h2⟩ := reach_fold r (wthS a l) (wthS_rise h)
    refine ⟨h1, fun x => ?_⟩
    rw [List.foldl_cons, h2, wthS_mem, List.mem_cons]
    constructor
    · rintro (h | h | h)
      · exact Or.inl (Or.inr h)
      · exact Or.inl (Or.inl h)
      · exact Or.inr h
    · rintro ((h | h) | h)
      · exact Or.inr (Or.inl h)
      · exact Or.inl h
      · exact Or.inr (Or.inr h)
theorem reach_rise (ss : List Sn) : RiseS (reachL ss) := (reach_fold _ [] List.Pairwise.nil).1
theorem reach_mem {ss : List Sn} {x : ByteArray} : x ∈ reachL ss ↔ ∃ s ∈ ss, x ∈ needS s := by
  unfold reachL
  rw [(reach_fold _ [] List.Pairwise.nil).2]
  simp [List.mem_flatMap]

def wthF (l : List ByteArray) (xs : List ByteArray) : List ByteArray := xs.foldl (fun l x => wthS x l) l
theorem wthF_len : ∀ (xs l : List ByteArray), (wthF l xs).length ≤ l.length + xs.length
  | [], l => Nat.le_refl _
  | x :: r, l => by
    have h1 := wthF_len r (wthS x l)
    have h2 := wthS_len x l
    show (wthF (wthS x l) r).length ≤ _
    rw [List.length_cons]
    omega
theorem wthF_snoc (l xs : List ByteArray) (x : ByteArray) : wthF l (xs ++ [x]) = wthS x (wthF l xs) := by
  unfold wthF
  rw [List.foldl_append]
  rfl
def reachN (ss : List Sn) (n : Nat) : List ByteArray := wthF [] ((ss.take n).flatMap needS)
def reachM (ss : List Sn) (n : Nat) (s : Sn) (m : Nat) : List ByteArray := wthF (wthS (snpB s.1) (reachN ss n)) ((s.2.2.2.2.2.2.take m).map (·.1))
theorem reachN_all (ss : List Sn) : reachN ss ss.length = reachL ss := by
  unfold reachN reachL wthF
  rw [List.take_length]
theorem reachN_len (ss : List Sn) (n : Nat) : (reachN ss n).length ≤ (ss.flatMap needS).length := by
  have h := wthF_len ((ss.take n).flatMap needS) []
  have e : ss.flatMap needS = (ss.take n).flatMap needS ++ (ss.drop n).flatMap needS := by rw [← List.flatMap_append, List.take_append_drop]
  rw [e, List.length_append]
  unfold reachN
  simp only [List.length_nil] at h
  omega
theorem reachN_succ {ss : List Sn} {n : Nat} (h : n < ss.length) : reachN ss (n + 1) = reachM ss n ss[n] ss[n].2.2.2.2.2.2.length := by
  unfold reachN reachM
  rw [← List.take_append_getElem h, List.flatMap_append, List.take_length]
  unfold wthF
  rw [List.foldl_append]
  simp only [List.flatMap_cons, List.flatMap_nil, List.append_nil]
  unfold needS
  rw [List.foldl_cons]
  rfl
theorem reachM_succ {ss : List Sn} {n : Nat} {s : Sn} {m : Nat} (h : m < s.2.2.2.2.2.2.length) : reachM ss n s (m + 1) = wthS s.2.2.2.2.2.2[m].1 (reachM ss n s m) := by
  unfold reachM
  rw [← List.take_append_getElem h, List.map_append]
  exact wthF_snoc _ _ _
theorem reachM_len {ss : List Sn} {n : Nat} (h : n < ss.length) (m : Nat) : (reachM ss n ss[n] m).length ≤ (ss.flatMap needS).length := by
  have h1 := wthF_len ((ss[n].2.2.2.2.2.2.take m).map (·.1)) (wthS (snpB ss[n].1) (reachN ss n))
  have h2 := wthS_len (snpB ss[n].1) (reachN ss n)
  have h3 := wthF_len ((ss.take n).flatMap needS) []
  have e : ss.flatMap needS = (ss.take n).flatMap needS ++ (needS ss[n] ++ (ss.drop (n + 1)).flatMap needS) := by
    conv => lhs; rw [← List.take_append_drop n ss, List.drop_eq_getElem_cons h]
    rw [List.flatMap_append, List.flatMap_cons]
  have h4 : (needS ss[n]).length = ss[n].2.2.2.2.2.2.length + 1 := by unfold needS; rw [List.length_cons, List.length_map]
  have h5 : ((ss[n].2.2.2.2.2.2.take m).map (fun f : Fl => f.1)).length ≤ ss[n].2.2.2.2.2.2.length := by rw [List.length_map, List.length_take]; exact Nat.min_le_right _ _
  rw [e, List.length_append, List.length_append, h4]
  unfold reachM
  simp only [List.length_nil] at h3
  have h6 : (reachN ss n).length ≤ 0 + ((ss.take n).flatMap needS).length := h3
  omega

def orphL (st : St) (needed : List ByteArray) (age : Int) : List ByteArray := (st.obs.filter fun o => !inT needed o.1 && decide (age ≤ st.day - o.2.2)).map (·.1)
def orphN (st : St) (needed : List ByteArray) (age : Int) (n : Nat) : List ByteArray := ((st.obs.take n).filter fun o => !inT needed o.1 && decide (age ≤ st.day - o.2.2)).map (·.1)
theorem orphN_succ {st : St} {needed : List ByteArray} {age : Int} {n : Nat} (h : n < st.obs.length) : orphN st needed age (n + 1) = orphN st needed age n ++ (if (!inT needed st.obs[n].1 && decide (age ≤ st.day - st.obs[n].2.2)) = true then [st.obs[n].1] else []) := by
  unfold orphN
  rw [← List.take_append_getElem h, List.filter_append, List.map_append]
  congr 1
  cases hc : (!inT needed st.obs[n].1 && decide (age ≤ st.day - st.obs[n].2.2)) <;> simp [List.filter, hc]
theorem orphN_all (st : St) (needed : List ByteArray) (age : Int) : orphN st needed age st.obs.length = orphL st needed age := by
  unfold orphN orphL
  rw [List.take_length]
theorem orphN_len (st : St) (needed : List ByteArray) (age : Int) (n : Nat) : (orphN st needed age n).length ≤ n := by
  unfold orphN
  rw [List.length_map]
  exact Nat.le_trans (List.length_filter_le _ _) (by rw [List.length_take]; exact Nat.min_le_left _ _)
end Go.Proofs.YtbdhdlloihkibaaGreatDoor
