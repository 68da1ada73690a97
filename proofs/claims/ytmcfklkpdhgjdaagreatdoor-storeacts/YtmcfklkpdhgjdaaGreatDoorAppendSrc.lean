/-
  An append to a row of the call's own, whatever slice is appended: nothing, or cells one behind the other.
-/
import Derived.Test.YtmcfklkpdhgjdaaGreatDoorRowRead
import Derived.Laws.Rows
import Derived.Deep.OwnRows
import Derived.OneCell
import Derived.BigRegion
import Derived.Test.YtmcfklkpdhgjdaaGreatDoorRowCut
import Derived.Maps.AppendAt
namespace Go.Proofs.YtmcfklkpdhgjdaaGreatDoor
open Go.RowKit Go.Extern.Stop Go.Stop Go.Extern Go.Sort Go.Shelf Go.Lib

/-- A slice, as it reads: nothing, wherever it points; or cells, one behind the other. -/
def Src (w : World) (q : Option Addr) (m c : Nat) (ys : List Value) : Prop :=
  (m = 0 ∧ (q = none → c = 0)) ∨ ∃ b o, q = some ⟨b, o, none⟩ ∧ ∀ j u, ys[j]? = some u → w.cell? ⟨b, o + j, none⟩ = some u

theorem Src.below {w w' : World} {q : Option Addr} {m c : Nat} {ys : List Value} (h : Src w q m c ys) (hb : Below w.heap.size w w') : Src w' q m c ys := by
  rcases h with h | ⟨b, o, e, h⟩
  · exact Or.inl h
  · exact Or.inr ⟨b, o, e, fun j u hu => below_keep hb (h j u hu)⟩

theorem src_nil (w : World) : Src w none 0 0 [] := Or.inl ⟨rfl, fun _ => rfl⟩

theorem src_new (w : World) (cs : List Value) (t : TypeId) (m c : Nat) : Src (w.alloc (.cells cs.toArray t)) (some ⟨w.heap.size, 0, none⟩) m c cs := by
  refine Or.inr ⟨_, _, rfl, fun j u hj => ?_⟩
  rw [Nat.zero_add]
  have h := heap_alloc_new w (.cells cs.toArray t)
  unfold World.cell?
  dsimp only
  rw [h]
  simpa using hj

theorem src_of_own {w : World} {base : Nat} {e : TypeId} {size : Nat} {q : Option Addr} {n c m : Nat} {xs : List Value} (h : w.ownsRow base e size (.slice q n c) m xs) : n = m ∧ Src w q n c xs := by
  rcases h.2 with ⟨e, h0⟩ | ⟨g, cap, cur, e, _, hg, _, _, _, ht⟩
  · injection e with e1 e2 e3
    exact ⟨by omega, Or.inl ⟨e2, fun _ => e3⟩⟩
  · injection e with e1 e2 e3
    refine ⟨e2, Or.inr ⟨g, 0, e1, fun j u hj => ?_⟩⟩
    have := h.cells (g := g) (by rw [e1]; rfl) j u hj
    rw [Addr.add_lit, Nat.zero_add] at this
    rw [Nat.zero_add]; exact this

set_option maxHeartbeats 1000000 in
theorem run_append_src {P : Program} (w : World) (base : Nat) (t ty e : TypeId) (i : TypeInfo) (z : Value) (size bytes : Nat) (ht : P.underlying t = some (.slice e)) (hi : P.info? e = some i) (hz : i.zero = some z)
    (hsize : i.size = size) (hby : i.bytes = bytes) (hzs : z.cells.size = size) (hsz : 0 < size)
    (v : Value) (n : Nat) (xs : List Value) (hown : w.ownsRow base e size v n xs)
    (q : Option Addr) (m c : Nat) (news : List Value) (hl : news.length = m * size) (hsrc : Src w q m c news) (h1 : ∀ u ∈ news, u.oneCell' = true)
    (h63 : n + m ≤ maxLen) (hbytes : (n + m) * bytes ≤ 140737488355328) (hbase : base ≤ w.heap.size) :
    ∃ v' w', (Builtin.append_ #[t, t] ty #[v, .slice q m c]).run P w = .ok v' w' ∧ w'.ownsRow base e size v' (n + m) (xs ++ news) ∧ w.grownBy w' v.ownBlock ∧ (v'.ownBlock = v.ownBlock ∨ v'.ownBlock = some w.heap.size) := by
  rcases hsrc with ⟨h0, hc⟩ | ⟨b, o, rfl, hcells⟩
  · subst h0
    have hnews : news = [] := List.length_eq_zero_iff.1 (by simpa using hl)
    subst hnews
    cases q with
    | none =>
      have hc0 := hc rfl
      subst hc0
      refine ⟨v, w, ?_, by simpa using hown, ⟨rfl, rfl, rfl, Nat.le_refl _, fun _ _ _ => rfl⟩, Or.inl rfl⟩
      rcases hown.2 with ⟨rfl, _⟩ | ⟨g, cap, cur, rfl, _, _, hn, _⟩
      · simp [Builtin.append_, run_underlying ht, sizeOf, typeInfo, zeroValue, hi, hz, Builtin.lenOf, run_firstCells_none]
      · simp [Builtin.append_, run_underlying ht, sizeOf, typeInfo, zeroValue, hi, hz, Builtin.lenOf, run_firstCells_none, hn, storeCells]
    | some ad =>
      obtain ⟨v', w', hr, h2, h3, _, h5⟩ := run_append_own_at (P := P) w base t ty e i z size bytes ht hi hz hsize hby hzs hsz v n xs hown ad 0 c [] hl (fun j u hj => by simp at hj) h1 h63 hbytes hbase
      exact ⟨v', w', hr, h2, h3, h5⟩
  · obtain ⟨v', w', hr, h2, h3, _, h5⟩ := run_append_own_at (P := P) w base t ty e i z size bytes ht hi hz hsize hby hzs hsz v n xs hown ⟨b, o, none⟩ m c news hl (fun j u hj => by rw [Addr.add_lit]; exact hcells j u hj) h1 h63 hbytes hbase
    exact ⟨v', w', hr, h2, h3, h5⟩

theorem wpList_append_src {P : Program} {w : World} {ops : Array Oper} {rest : List Oper} {o : Oper} {a : Act} {Q : Exit → Act → World → Prop} (hgd : o.guard = none) (s x : Operand) (t : TypeId)
    (ho : o.op = .call { callee := .builtin .append, args := #[s, x], argTypes := #[t, t] })
    (base : Nat) (e : TypeId) (i : TypeInfo) (z : Value) (size bytes : Nat) (ht : P.underlying t = some (.slice e)) (hi : P.info? e = some i) (hz : i.zero = some z)
    (hsize : i.size = size) (hby : i.bytes = bytes) (hzs : z.cells.size = size) (hsz : 0 < size)
    (v : Value) (n : Nat) (xs : List Value) (hs : a.eval s = v) (hown : w.ownsRow base e size v n xs)
    (q : Option Addr) (m c : Nat) (news : List Value) (hx : a.eval x = .slice q m c) (hl : news.length = m * size) (hsrc : Src w q m c news) (h1 : ∀ u ∈ news, u.oneCell' = true)
    (h63 : n + m ≤ maxLen) (hbytes : (n + m) * bytes ≤ 140737488355328) (hbase : base ≤ w.heap.size)
    (h : ∀ v' w', w'.ownsRow base e size v' (n + m) (xs ++ news) → w.grownBy w' v.ownBlock → (v'.ownBlock = v.ownBlock ∨ v'.ownBlock = some w.heap.size) → wpList P ops Q rest (a.put o.dst v') w') :
    wpList P ops Q (o :: rest) a w := by
  refine wpList_plain hgd fun K hK => ?_
  obtain ⟨v', w', hr, h2, h3, h4⟩ := run_append_src (P := P) w base t o.type e i z size bytes ht hi hz hsize hby hzs hsz v n xs hown q m c news hl hsrc h1 h63 hbytes hbase
  unfold Oper.wp execOp
  simp only [ho, resolve, invoke, builtin, Sem.run_bind, Sem.run_pure, Result.andThen_ok, List.map_toArray, List.map_cons, List.map_nil, hs, hx, hr]
  exact hK _ _ (h v' w' h2 h3 h4)
end Go.Proofs.YtmcfklkpdhgjdaaGreatDoor
