/-
  What may go, in plain mathematics: snaps that are kept, names that they need, objects that are not needed.
-/
import Derived.Test.YtbdhdlloihkibaaGreatDoorAs
import Derived.Laws.Bits128
import Derived.Deep.CutBlock
import Derived.Test.YtbdhdlloihkibaaGreatDoorStorePure
namespace Go.Proofs.YtbdhdlloihkibaaGreatDoor
open Go.RowKit Go.Extern.Stop Go.Stop Go.Extern

def errVar : Nat → Nat
  | 0 => 4
  | 1 => 2
  | 2 => 5
  | 3 => 6
  | 4 => 7
  | 5 => 0
  | 6 => 8
  | 7 => 9
  | 8 => 10
  | 9 => 11
  | 10 => 3
  | _ => 1

structure Errs (W : World) (a : Nat → Addr) : Prop where
  cell : ∀ i, i < 12 → W.cell? ⟨errVar i, 0, none⟩ = some (.iface 201 (.pointer (some (a i))))
  inj : ∀ i j, i < 12 → j < 12 → a i = a j → i = j
  block : ∀ i, i < 12 → ∃ c t, W.heap[(a i).block]? = some (.cells c t (0, 0))
  handle : W.cell? ⟨12, 0, none⟩ = some (.iface 173 (.agg #[.pointer (some ⟨19, 74, none⟩)]))

def Hand (W : World) : Prop := W.cell? ⟨12, 0, none⟩ = some (.iface 173 (.agg #[.pointer (some ⟨19, 74, none⟩)]))
theorem lt_of_cell {W : World} {p : Addr} {v : Value} (h : W.cell? p = some v) : p.block < W.heap.size := by
  rcases Nat.lt_or_ge p.block W.heap.size with h' | h'
  · exact h'
  · simp [World.cell?, Array.getElem?_eq_none h'] at h

theorem lt_of_heap {W : World} {b : Nat} {o : Obj} (h : W.heap[b]? = some o) : b < W.heap.size := by
  rcases Nat.lt_or_ge b W.heap.size with h' | h'
  · exact h'
  · simp [Array.getElem?_eq_none h'] at h

theorem Errs.below {W W' : World} {a : Nat → Addr} (h : Errs W a) (hb : Below W.heap.size W W') : Errs W' a where
  cell i hi := by rw [hb.cell (lt_of_cell (h.cell i hi))]; exact h.cell i hi
  inj := h.inj
  block i hi := by
    obtain ⟨c, t, hc⟩ := h.block i hi
    exact ⟨c, t, by rw [hb.block _ (lt_of_heap hc)]; exact hc⟩
  handle := by rw [hb.cell (lt_of_cell h.handle)]; exact h.handle

theorem code_nil (w : World) : Calls Tryz.prog 66 #[.nilIface] w fun e w' => e = .returned (.tuple #[.int .i64 0, .int .i64 (-1)]) ∧ w' = w := by
  go_enter Tryz.func66, Tryz.ntmps66
  go_wp2
  go_ret2
  exact ⟨rfl, rfl⟩

theorem list_cell (w : World) (a : Nat → Addr) (n : Nat) (hn : n < 12) : (w.alloc (.cells #[.iface 201 (.pointer (some (a 0))), .iface 201 (.pointer (some (a 1))), .iface 201 (.pointer (some (a 2))), .iface 201 (.pointer (some (a 3))), .iface 201 (.pointer (some (a 4))), .iface 201 (.pointer (some (a 5))), .iface 201 (.pointer (some (a 6))), .iface 201 (.pointer (some (a 7))), .iface 201 (.pointer (some (a 8))), .iface 201 (.pointer (some (a 9))), .iface 201 (.pointer (some (a 10))), .iface 201 (.pointer (some (a 11)))] 74)).cell? ⟨w.heap.size, n, none⟩ = some (.iface 201 (.pointer (some (a n)))) := by
  rw [World.cell?_alloc_at _ _ _ _ rfl]
  match n, hn with
  | 0, _ => rfl
  | 1, _ => rfl
  | 2, _ => rfl
  | 3, _ => rfl
  | 4, _ => rfl
  | 5, _ => rfl
  | 6, _ => rfl
  | 7, _ => rfl
  | 8, _ => rfl
  | 9, _ => rfl
  | 10, _ => rfl
  | 11, _ => rfl

theorem as_miss_below (e t : Addr) (w : World) (h : Hand w) :
    Calls Tryz.prog 92 #[.iface 201 (.pointer (some e)), .iface 128 (.pointer (some t))] w fun ev w' => ev = .returned (.bool false) ∧ Below w.heap.size w w' := by
  refine (as_miss e t w h).mono fun ev w' ⟨he, hw⟩ => ⟨he, ?_⟩
  subst hw
  exact (((Below.refl _ _).alloc (Nat.le_refl _) _).alloc (by simp) _).alloc (by simp; omega) _

theorem is_at (w : World) (a : Nat → Addr) (h : Errs w a) (p : Addr) (cp : Array Value) (tp : TypeId) (hp : w.heap[p.block]? = some (.cells cp tp (0, 0))) (i n : Nat) (hn : n < 12) (hpi : p = a n ↔ n = i) :
    Calls Tryz.prog 93 #[.iface 201 (.pointer (some p)), .iface 201 (.pointer (some (a n)))] w fun e w' => e = .returned (.bool (decide (n = i))) ∧ w' = w := by
  obtain ⟨c, t, hc⟩ := h.block n hn
  by_cases e : n = i
  · have e' := hpi.2 e
    subst e'
    simp only [e, decide_true]
    exact is_same _ w
  · have hne : p ≠ a n := fun x => e (hpi.1 x)
    simp only [e, decide_false]
    exact is_other _ _ _ _ _ _ w hne hp hc

theorem ne_succ {n i : Nat} (hm : ∀ m, m < n → m ≠ i) (e : ¬ n = i) : ∀ m, m < n + 1 → m ≠ i := fun m h => by
  rcases Nat.lt_or_ge m n with h' | h'
  · exact hm m h'
  · obtain rfl : m = n := by omega
    exact e

def codeNum (i : Nat) : Int := if i < 12 then (i : Int) + 1 else -1

set_option maxHeartbeats 1000000 in
theorem code_bare (w : World) (a : Nat → Addr) (h : Errs w a) (p : Addr) (cp : Array Value) (tp : TypeId) (hp : w.heap[p.block]? = some (.cells cp tp (0, 0))) (i : Nat) (hpi : ∀ n, n < 12 → (p = a n ↔ n = i)) :
    Calls Tryz.prog 66 #[.iface 201 (.pointer (some p))] w fun e w' => e = .returned (.tuple #[.int .i64 (codeNum i), .int .i64 (-1)]) ∧ Below w.heap.size w w' := by
  have hE : Errs (w.alloc (.cells #[.pointer none] 126)) a := h.below ((Below.refl _ _).alloc (Nat.le_refl _) _)
  have hb0 : Below w.heap.size w (w.alloc (.cells #[.pointer none] 126)) := (Below.refl _ _).alloc (Nat.le_refl _) _
  go_enter Tryz.func66, Tryz.ntmps66
  go_wp2_with (go_at_call 92; refine (as_miss_below _ _ _ hE.handle).mono ?_; rintro e w1 ⟨rfl, hb⟩; have e1 := hE.below hb; have c0 : w1.cell? ⟨4, 0, none⟩ = some (.iface 201 (.pointer (some (a 0)))) := e1.cell 0 (by decide); have c1 : w1.cell? ⟨2, 0, none⟩ = some (.iface 201 (.pointer (some (a 1)))) := e1.cell 1 (by decide); have c2 : w1.cell? ⟨5, 0, none⟩ = some (.iface 201 (.pointer (some (a 2)))) := e1.cell 2 (by decide); have c3 : w1.cell? ⟨6, 0, none⟩ = some (.iface 201 (.pointer (some (a 3)))) := e1.cell 3 (by decide); have c4 : w1.cell? ⟨7, 0, none⟩ = some (.iface 201 (.pointer (some (a 4)))) := e1.cell 4 (by decide); have c5 : w1.cell? ⟨0, 0, none⟩ = some (.iface 201 (.pointer (some (a 5)))) := e1.cell 5 (by decide); have c6 : w1.cell? ⟨8, 0, none⟩ = some (.iface 201 (.pointer (some (a 6)))) := e1.cell 6 (by decide); have c7 : w1.cell? ⟨9, 0, none⟩ = some (.iface 201 (.pointer (some (a 7)))) := e1.cell 7 (by decide); have c8 : w1.cell? ⟨10, 0, none⟩ = some (.iface 201 (.pointer (some (a 8)))) := e1.cell 8 (by decide); have c9 : w1.cell? ⟨11, 0, none⟩ = some (.iface 201 (.pointer (some (a 9)))) := e1.cell 9 (by decide); have c10 : w1.cell? ⟨3, 0, none⟩ = some (.iface 201 (.pointer (some (a 10)))) := e1.cell 10 (by decide); have c11 : w1.cell? ⟨1, 0, none⟩ = some (.iface 201 (.pointer (some (a 11)))) := e1.cell 11 (by decide))
  have hB : Below w.heap.size w w1 := hb0.trans (hb.mono (by simp))
  have hB2 : Below w.heap.size w (w1.alloc (.cells #[.iface 201 (.pointer (some (a 0))), .iface 201 (.pointer (some (a 1))), .iface 201 (.pointer (some (a 2))), .iface 201 (.pointer (some (a 3))), .iface 201 (.pointer (some (a 4))), .iface 201 (.pointer (some (a 5))), .iface 201 (.pointer (some (a 6))), .iface 201 (.pointer (some (a 7))), .iface 201 (.pointer (some (a 8))), .iface 201 (.pointer (some (a 9))), .iface 201 (.pointer (some (a 10))), .iface 201 (.pointer (some (a 11)))] 74)) := hB.alloc hB.size _
  have hE2 : Errs (w1.alloc (.cells #[.iface 201 (.pointer (some (a 0))), .iface 201 (.pointer (some (a 1))), .iface 201 (.pointer (some (a 2))), .iface 201 (.pointer (some (a 3))), .iface 201 (.pointer (some (a 4))), .iface 201 (.pointer (some (a 5))), .iface 201 (.pointer (some (a 6))), .iface 201 (.pointer (some (a 7))), .iface 201 (.pointer (some (a 8))), .iface 201 (.pointer (some (a 9))), .iface 201 (.pointer (some (a 10))), .iface 201 (.pointer (some (a 11)))] 74)) a := h.below hB2
  have hp2 : (w1.alloc (.cells #[.iface 201 (.pointer (some (a 0))), .iface 201 (.pointer (some (a 1))), .iface 201 (.pointer (some (a 2))), .iface 201 (.pointer (some (a 3))), .iface 201 (.pointer (some (a 4))), .iface 201 (.pointer (some (a 5))), .iface 201 (.pointer (some (a 6))), .iface 201 (.pointer (some (a 7))), .iface 201 (.pointer (some (a 8))), .iface 201 (.pointer (some (a 9))), .iface 201 (.pointer (some (a 10))), .iface 201 (.pointer (some (a 11)))] 74)).heap[p.block]? = some (.cells cp tp (0, 0)) := by rw [hB2.block _ (lt_of_heap hp)]; exact hp
  have hl := list_cell w1 a
  clear c0 c1 c2 c3 c4 c5 c6 c7 c8 c9 c10 c11
  go_loop [3, 30] (fun t k => t = .int .i64 (-1) ∧ ∃ n : Nat, n ≤ 12 ∧ (∀ m, m < n → m ≠ i) ∧ k = .int .i64 n) (fun _ k => 12 - (intOf k).toNat)
  case atStart => exact ⟨rfl, 0, by omega, by omega, rfl⟩
  case round =>
    obtain ⟨rfl, n, hn, hm, rfl⟩ := hrel
    by_cases hlt : n < 12
    · have hcell := hl n hlt
      have his := is_at _ a hE2 p cp tp hp2 i n hlt (hpi n hlt)
      by_cases e : n = i
      · have hd : decide (n = i) = true := by simp [e]
        rw [hd] at his
        have hcn : codeNum i = (n : Int) + 1 := by unfold codeNum; rw [if_pos (by omega), e]
        have HC : Hid (codeNum i = (n : Int) + 1) := hcn
        clear hcn hd e hm hl
        go_wp2_with (go_at_call 93; refine his.mono ?_; rintro e w' ⟨rfl, rfl⟩)
        go_ret2
        exact ⟨by rw [HC.out]; rfl, hB2⟩
      · have hd : decide (n = i) = false := by simp [e]
        rw [hd] at his
        go_wp2_with (go_at_call 93; refine his.mono ?_; rintro e w' ⟨rfl, rfl⟩)
        go_round
        case rel => exact ⟨rfl, n + 1, by omega, ne_succ hm e, by go_num⟩
        case measure => simp [intOf]; omega
    · have hcn : codeNum i = -1 := by
        unfold codeNum
        rw [if_neg]
        intro hi
        exact hm i (by omega) rfl
      have HC : Hid (codeNum i = -1) := hcn
      have hn12 : n = 12 := by omega
      subst hn12
      clear hcn hm hl
      go_wp2
      go_ret2
      exact ⟨by rw [HC.out]; rfl, hB2⟩
end Go.Proofs.YtbdhdlloihkibaaGreatDoor
namespace Go.Proofs.YtbdhdlloihkibaaGreatDoor
open Go.RowKit Go.Extern.Stop Go.Stop Go.Extern Go.Sort Go.Shelf Go.Lib

def ahead (fs : List Fl) : Nat → Int
  | 0 => 0
  | n + 1 => match fs[n]? with
    | some f => fk f
    | none => 0

end Go.Proofs.YtbdhdlloihkibaaGreatDoor
namespace Go.Proofs.YtbdhdlloihkibaaGreatDoor
open Go.RowKit Go.Extern.Stop Go.Stop Go.Extern Go.Sort Go.Shelf Go.Lib

def snV (s : Sn) (vf : Value) : Value := .agg #[.int .i64 s.1, .int .i64 s.2.1, .int .i64 s.2.2.1, .int .i64 s.2.2.2.1, .int .i64 s.2.2.2.2.1, .string s.2.2.2.2.2.1, vf]

def SnAt (W : World) (b : Nat) (s : Sn) (vf : Value) : Prop := W.heap[b]? = some (.cells #[.int .i64 s.1, .int .i64 s.2.1, .int .i64 s.2.2.1, .int .i64 s.2.2.2.1, .int .i64 s.2.2.2.2.1, .string s.2.2.2.2.2.1, vf] 30 (0, 0))
theorem SnAt.cells {W : World} {b : Nat} {s : Sn} {vf : Value} (h : SnAt W b s vf) : W.cell? ⟨b, 0, none⟩ = some (.int .i64 s.1) ∧ W.cell? ⟨b, 1, none⟩ = some (.int .i64 s.2.1) ∧ W.cell? ⟨b, 2, none⟩ = some (.int .i64 s.2.2.1) ∧ W.cell? ⟨b, 3, none⟩ = some (.int .i64 s.2.2.2.1) ∧ W.cell? ⟨b, 4, none⟩ = some (.int .i64 s.2.2.2.2.1) ∧ W.cell? ⟨b, 5, none⟩ = some (.string s.2.2.2.2.2.1) ∧ W.cell? ⟨b, 6, none⟩ = some vf := by
  refine ⟨?_, ?_, ?_, ?_, ?_, ?_, ?_⟩ <;> rw [cell_of_row _ _ _ _ _ _ h] <;> rfl
theorem tx_succ {ts : List ByteArray} {s : ByteArray} {n : Nat} (h : ∀ j (h : j < ts.length), j < n → ts[j] ≠ s) (hn : n < ts.length) (e : ts[n] ≠ s) : ∀ j (h : j < ts.length), j < n + 1 → ts[j] ≠ s := fun j hj hjn => by
  by_cases e' : j = n
  · subst e'; exact e
  · exact h j hj (by omega)

end Go.Proofs.YtbdhdlloihkibaaGreatDoor
namespace Go.Proofs.YtbdhdlloihkibaaGreatDoor
open Go.RowKit Go.Extern.Stop Go.Stop Go.Extern Go.Sort Go.Shelf Go.Lib

def Src (w : World) (q : Option Addr) (m c : Nat) (ys : List Value) : Prop :=
  (m = 0 ∧ (q = none → c = 0)) ∨ ∃ b o, q = some ⟨b, o, none⟩ ∧ ∀ j u, ys[j]? = some u → w.cell? ⟨b, o + j, none⟩ = some u

theorem src_new (w : World) (cs : List Value) (t : TypeId) (m c : Nat) : Src (w.alloc (.cells cs.toArray t)) (some ⟨w.heap.size, 0, none⟩) m c cs := by
  refine Or.inr ⟨_, _, rfl, fun j u hj => ?_⟩
  rw [Nat.zero_add]
  have h := heap_alloc_new w (.cells cs.toArray t)
  unfold World.cell?
  dsimp only
  rw [h]
  simpa using hj

set_option maxHeartbeats 1000000 in
theorem run_append_src {P : Program} (w : World) (base : Nat) (t ty e : TypeId) (i : TypeInfo) (z : Value) (size bytes : Nat) (ht : P.underlying t = some (.slice e)) (hi : P.info? e = some i) (hz : i.zero = some z)
    (hsize : i.size = size) (hby : i.bytes = bytes) (hzs : z.cells.size = size) (hsz : 0 < size)
    (v : Value) (n : Nat) (xs : List Value) (hown : w.ownsRow base e size v n xs)
    (q : Option Addr) (m c : Nat) (news : List Value) (hl : news.length = m * size) (hsrc : Src w q m c news) (h1 : ∀ u ∈ news, u.oneCell' = true)
    (h63 : n + m ≤ maxLen) (hbytes : (n + m) * bytes ≤ 140737488355328) (hbase : base ≤ w.heap.size) :
    ∃ v' w', (Builtin.append_ #[t, t] ty #[v, .slice q m c]).run P w = .ok v' w' ∧ w'.ownsRow base e size v' (n + m) (xs ++ news) ∧ w.grownBy w' v.ownBlock ∧ (v'.ownBlock = v.ownBlock ∨ v'.ownBlock = some w.heap.size) := by
  rcases hsrc with ⟨h0, hc⟩ | ⟨b, o, rfl, hcells⟩
  · subst h0
    have hnews : news = [] := List.length_eq_zero_iff.1 (by simpa using hl)
    subst hnews
    cases q with
    | none =>
      have hc0 := hc rfl
      subst hc0
      refine ⟨v, w, ?_, by simpa using hown, ⟨rfl, rfl, rfl, Nat.le_refl _, fun _ _ _ => rfl⟩, Or.inl rfl⟩
      rcases hown.2 with ⟨rfl, _⟩ | ⟨g, cap, cur, rfl, _, _, hn, _⟩
      · simp [Builtin.append_, run_underlying ht, sizeOf, typeInfo, zeroValue, hi, hz, Builtin.lenOf, run_firstCells_none]
      · simp [Builtin.append_, run_underlying ht, sizeOf, typeInfo, zeroValue, hi, hz, Builtin.lenOf, run_firstCells_none, hn, storeCells]
    | some ad =>
      obtain ⟨v', w', hr, h2, h3, _, h5⟩ := run_append_own_at (P := P) w base t ty e i z size bytes ht hi hz hsize hby hzs hsz v n xs hown ad 0 c [] hl (fun j u hj => by simp at hj) h1 h63 hbytes hbase
      exact ⟨v', w', hr, h2, h3, h5⟩
  · obtain ⟨v', w', hr, h2, h3, _, h5⟩ := run_append_own_at (P := P) w base t ty e i z size bytes ht hi hz hsize hby hzs hsz v n xs hown ⟨b, o, none⟩ m c news hl (fun j u hj => by rw [Addr.add_lit]; exact hcells j u hj) h1 h63 hbytes hbase
    exact ⟨v', w', hr, h2, h3, h5⟩

theorem wpList_append_src {P : Program} {w : World} {ops : Array Oper} {rest : List Oper} {o : Oper} {a : Act} {Q : Exit → Act → World → Prop} (hgd : o.guard = none) (s x : Operand) (t : TypeId)
    (ho : o.op = .call { callee := .builtin .append, args := #[s, x], argTypes := #[t, t] })
    (base : Nat) (e : TypeId) (i : TypeInfo) (z : Value) (size bytes : Nat) (ht : P.underlying t = some (.slice e)) (hi : P.info? e = some i) (hz : i.zero = some z)
    (hsize : i.size = size) (hby : i.bytes = bytes) (hzs : z.cells.size = size) (hsz : 0 < size)
    (v : Value) (n : Nat) (xs : List Value) (hs : a.eval s = v) (hown : w.ownsRow base e size v n xs)
    (q : Option Addr) (m c : Nat) (news : List Value) (hx : a.eval x = .slice q m c) (hl : news.length = m * size) (hsrc : Src w q m c news) (h1 : ∀ u ∈ news, u.oneCell' = true)
    (h63 : n + m ≤ maxLen) (hbytes : (n + m) * bytes ≤ 140737488355328) (hbase : base ≤ w.heap.size)
    (h : ∀ v' w', w'.ownsRow base e size v' (n + m) (xs ++ news) → w.grownBy w' v.ownBlock → (v'.ownBlock = v.ownBlock ∨ v'.ownBlock = some w.heap.size) → wpList P ops Q rest (a.put o.dst v') w') :
    wpList P ops Q (o :: rest) a w := by
  refine wpList_plain hgd fun K hK => ?_
  obtain ⟨v', w', hr, h2, h3, h4⟩ := run_append_src (P := P) w base t o.type e i z size bytes ht hi hz hsize hby hzs hsz v n xs hown q m c news hl hsrc h1 h63 hbytes hbase
  unfold Oper.wp execOp
  simp only [ho, resolve, invoke, builtin, Sem.run_bind, Sem.run_pure, Result.andThen_ok, List.map_toArray, List.map_cons, List.map_nil, hs, hx, hr]
  exact hK _ _ (h v' w' h2 h3 h4)
end Go.Proofs.YtbdhdlloihkibaaGreatDoor
namespace Go.Proofs.YtbdhdlloihkibaaGreatDoor
open Go.RowKit Go.Extern.Stop Go.Stop Go.Extern Go.Sort Go.Shelf Go.Lib

def Short (fs : List Fl) : Prop := ∀ g ∈ fs, g.1.size ≤ 30 ∧ g.2.1.size ≤ 30

end Go.Proofs.YtbdhdlloihkibaaGreatDoor
namespace Go.Proofs.YtbdhdlloihkibaaGreatDoor
open Go Go.Lib

def inT (ts : List ByteArray) (p : ByteArray) : Bool := ts.any fun t => decide (t = p)

theorem inT_iff {ts : List ByteArray} {p : ByteArray} : inT ts p = true ↔ p ∈ ts := by
  simp only [inT, List.any_eq_true, decide_eq_true_eq]
  exact ⟨fun ⟨x, hx, e⟩ => e ▸ hx, fun h => ⟨p, h, rfl⟩⟩
theorem inT_no {ts : List ByteArray} {p : ByteArray} : inT ts p = false ↔ p ∉ ts := by
  rw [← inT_iff]; simp
end Go.Proofs.YtbdhdlloihkibaaGreatDoor
namespace Go.Proofs.YtbdhdlloihkibaaGreatDoor
open Go.RowKit Go.Extern.Stop Go.Stop Go.Extern Go.Sort Go.Shelf Go.Lib

def farE (n : Int) : Bool := !inNum n
def keepB (day age count : Int) (left : Nat) (s : Sn) : Bool := decide (left = 0) || (!farE day && !farE age && (decide ((left : Int) < count) || decide (day - age ≤ s.2.2.2.1)))
def keepL (day age count : Int) : List Sn → List Int
  | [] => []
  | s :: r => if keepB day age count r.length s = true then s.1 :: keepL day age count r else keepL day age count r
theorem keepL_cons (day age count : Int) (s : Sn) (r : List Sn) : keepL day age count (s :: r) = if keepB day age count r.length s = true then s.1 :: keepL day age count r else keepL day age count r := by rw [keepL]
def keepN (day age count : Int) (ss : List Sn) (n : Nat) : List Int := (List.range n).filterMap fun i => (ss[i]?).bind fun s => if keepB day age count (ss.length - 1 - i) s = true then some s.1 else none
theorem keepN_succ {day age count : Int} {ss : List Sn} {n : Nat} (h : n < ss.length) : keepN day age count ss (n + 1) = keepN day age count ss n ++ (if keepB day age count (ss.length - 1 - n) ss[n] = true then [ss[n].1] else []) := by
  unfold keepN
  rw [List.range_succ, List.filterMap_append]
  congr 1
  simp only [List.filterMap_cons, List.filterMap_nil, List.getElem?_eq_getElem h, Option.bind_some]
  split <;> simp_all
theorem fm_congr {α β : Type} {f g : α → Option β} : ∀ {l : List α}, (∀ x ∈ l, f x = g x) → l.filterMap f = l.filterMap g
  | [], _ => rfl
  | a :: r, h => by
    rw [List.filterMap_cons, List.filterMap_cons, h a List.mem_cons_self, fm_congr (fun x hx => h x (List.mem_cons_of_mem _ hx))]
theorem keep_map {day age count : Int} : ∀ (ss : List Sn) (k : Nat), (List.range' k ss.length).filterMap (fun i => (ss[i - k]?).bind fun s => if keepB day age count (ss.length - 1 - (i - k)) s = true then some s.1 else none) = keepL day age count ss
  | [], k => rfl
  | s :: r, k => by
    rw [List.length_cons, List.range'_succ, List.filterMap_cons]
    have ih := keep_map (day := day) (age := age) (count := count) r (k + 1)
    have e : (List.range' (k + 1) r.length).filterMap (fun i => ((s :: r)[i - k]?).bind fun x => if keepB day age count (r.length + 1 - 1 - (i - k)) x = true then some x.1 else none) = keepL day age count r := by
      rw [← ih]
      apply fm_congr
      intro i hi
      have hi2 := List.mem_range'.1 hi
      obtain ⟨j, hj, rfl⟩ := hi2
      have e1 : k + 1 + 1 * j - k = j + 1 := by omega
      have e2 : k + 1 + 1 * j - (k + 1) = j := by omega
      have e3 : r.length + 1 - 1 - (j + 1) = r.length - 1 - j := by omega
      rw [e1, e2, e3, List.getElem?_cons_succ]
    rw [e]
    have e4 : k - k = 0 := Nat.sub_self k
    have e5 : r.length + 1 - 1 - 0 = r.length := by omega
    simp only [e4, List.getElem?_cons_zero, Option.bind_some, e5]
    rw [keepL_cons]
    cases keepB day age count r.length s <;> rfl
theorem keepN_all (day age count : Int) (ss : List Sn) : keepN day age count ss ss.length = keepL day age count ss := by
  have h := keep_map (day := day) (age := age) (count := count) ss 0
  unfold keepN
  rw [List.range_eq_range']
  simpa using h
theorem keepN_len (day age count : Int) (ss : List Sn) (n : Nat) : (keepN day age count ss n).length ≤ n := by
  unfold keepN
  have h := List.length_filterMap_le (fun i => (ss[i]?).bind fun s => if keepB day age count (ss.length - 1 - i) s = true then some s.1 else none) (List.range n)
  rw [List.length_range] at h
  exact h

def wthS (s : ByteArray) (l : List ByteArray) : List ByteArray := if l[plcS s l]? = some s then l else ispS s l
theorem wthS_mem {s x : ByteArray} {l : List ByteArray} : x ∈ wthS s l ↔ x = s ∨ x ∈ l := by
  unfold wthS
  split
  · rename_i h
    constructor
    · exact Or.inr
    · rintro (rfl | h2)
      · exact List.mem_of_getElem? h
      · exact h2
  · exact ispS_mem
theorem plc_there {s : ByteArray} : ∀ {l : List ByteArray}, RiseS l → s ∈ l → l[plcS s l]? = some s
  | [], _, h => absurd h List.not_mem_nil
  | q :: r, hr, h => by
    unfold RiseS at hr
    rw [List.pairwise_cons] at hr
    by_cases e : ltS q s = true
    · have e1 : plcS s (q :: r) = plcS s r + 1 := by rw [plcS, if_pos e]
      rw [e1, List.getElem?_cons_succ]
      rcases List.mem_cons.1 h with h1 | h1
      · exact absurd h1.symm (ltS_ne e)
      · exact plc_there hr.2 h1
    · have e1 : plcS s (q :: r) = 0 := by rw [plcS, if_neg e]
      rw [e1, List.getElem?_cons_zero]
      rcases List.mem_cons.1 h with h1 | h1
      · rw [h1]
      · exact absurd (hr.1 s h1) e
theorem wthS_rise {s : ByteArray} {l : List ByteArray} (h : RiseS l) : RiseS (wthS s l) := by
  unfold wthS
  split
  · exact h
  · rename_i e
    exact ispS_rise h (fun hm => e (plc_there h hm))
theorem wthS_len (s : ByteArray) (l : List ByteArray) : (wthS s l).length ≤ l.length + 1 := by
  unfold wthS
  split
  · omega
  · rw [ispS_cut]
    simp only [List.length_append, List.length_take, List.length_drop, List.length_singleton]
    omega
def snpB (id : Int) : ByteArray := ⟨#[115, 110, 97, 112, 47]⟩ ++ bytesOf (itoa id)
def needS (s : Sn) : List ByteArray := snpB s.1 :: s.2.2.2.2.2.2.map (·.1)
def reachL (ss : List Sn) : List ByteArray := (ss.flatMap needS).foldl (fun l x => wthS x l) []
theorem reach_fold : ∀ (xs l : List ByteArray), RiseS l → RiseS (xs.foldl (fun l x => wthS x l) l) ∧ ∀ x, x ∈ xs.foldl (fun l x => wthS x l) l ↔ x ∈ xs ∨ x ∈ l
  | [], l, h => ⟨h, fun x => by simp⟩
  | a :: r, l, h => by
    obtain ⟨h1, h2⟩ := reach_fold r (wthS a l) (wthS_rise h)
    refine ⟨h1, fun x => ?_⟩
    rw [List.foldl_cons, h2, wthS_mem, List.mem_cons]
    constructor
    · rintro (h | h | h)
      · exact Or.inl (Or.inr h)
      · exact Or.inl (Or.inl h)
      · exact Or.inr h
    · rintro ((h | h) | h)
      · exact Or.inr (Or.inl h)
      · exact Or.inl h
      · exact Or.inr (Or.inr h)
theorem reach_rise (ss : List Sn) : RiseS (reachL ss) := (reach_fold _ [] List.Pairwise.nil).1
theorem reach_mem {ss : List Sn} {x : ByteArray} : x ∈ reachL ss ↔ ∃ s ∈ ss, x ∈ needS s := by
  unfold reachL
  rw [(reach_fold _ [] List.Pairwise.nil).2]
  simp [List.mem_flatMap]

def wthF (l : List ByteArray) (xs : List ByteArray) : List ByteArray := xs.foldl (fun l x => wthS x l) l
theorem wthF_len : ∀ (xs l : List ByteArray), (wthF l xs).length ≤ l.length + xs.length
  | [], l => Nat.le_refl _
  | x :: r, l => by
    have h1 := wthF_len r (wthS x l)
    have h2 := wthS_len x l
    show (wthF (wthS x l) r).length ≤ _
    rw [List.length_cons]
    omega
def reachN (ss : List Sn) (n : Nat) : List ByteArray := wthF [] ((ss.take n).flatMap needS)
theorem reachN_all (ss : List Sn) : reachN ss ss.length = reachL ss := by
  unfold reachN reachL wthF
  rw [List.take_length]
theorem reachN_len (ss : List Sn) (n : Nat) : (reachN ss n).length ≤ (ss.flatMap needS).length := by
  have h := wthF_len ((ss.take n).flatMap needS) []
  have e : ss.flatMap needS = (ss.take n).flatMap needS ++ (ss.drop n).flatMap needS := by rw [← List.flatMap_append, List.take_append_drop]
  rw [e, List.length_append]
  unfold reachN
  simp only [List.length_nil] at h
  omega
def orphL (st : St) (needed : List ByteArray) (age : Int) : List ByteArray := (st.obs.filter fun o => !inT needed o.1 && decide (age ≤ st.day - o.2.2)).map (·.1)
end Go.Proofs.YtbdhdlloihkibaaGreatDoor
