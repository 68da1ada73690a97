/-
  The contract of data.readHead: the four numbers of a head's line.
  The contracts of data.eachLine and data.ReadLines, for any kind of file: the lines of a body, one behind the other, each handed to the function that takes it.
  The contract of the function that data.Read hands over: one row more.
-/
import Derived.Test.YtpiagofhgalklacGreatDoorDataMake
import Derived.Maps.AppendAt
import Derived.Deep.Onto
namespace Go.Proofs.YtpiagofhgalklacGreatDoor
open Go.RowKit Go.Extern.Stop Go.Stop Go.Extern Go.Sort Go.Shelf Go.Lib

theorem headO_five {Kw l k A B C D : List UInt8} (h : words l = [k, A, B, C, D]) : headO Kw l = if k = Kw then (match numO A, numO B, numO C, numO D with
    | some a, some b, some c, some d => some (a, b, c, d)
    | _, _, _, _ => none) else none := by
  unfold headO; rw [h]; rfl
theorem headO_other {Kw l : List UInt8} (h : (words l).length ≠ 5) : headO Kw l = none := by
  unfold headO
  split
  · rename_i e; rw [e] at h; simp at h
  · rfl

theorem five_of {α : Type} {ts : List α} (h : ts.length = 5) : ∃ a b c d e, ts = [a, b, c, d, e] := by
  match ts, h with
  | [a, b, c, d, e], _ => exact ⟨a, b, c, d, e, rfl⟩

theorem eqBB {s t : ByteArray} (h : s.data.toList = t.data.toList) : (s.toList == t.toList) = true := by
  rw [ByteArray.toList_eq, ByteArray.toList_eq]; simpa using h
theorem neBB {s t : ByteArray} (h : s.data.toList ≠ t.data.toList) : (s.toList == t.toList) = false := by
  rw [ByteArray.toList_eq, ByteArray.toList_eq]; simpa using h

/-- What readHead hands back. -/
def headR (K l : List UInt8) : (Int × Int × Int) × Int × Bool := match headO K l with
  | some (n, lo, hi, sum) => ((n, lo, hi), sum, true)
  | none => ((0, 0, 0), 0, false)

end Go.Proofs.YtpiagofhgalklacGreatDoor
namespace Go.Proofs.YtpiagofhgalklacGreatDoor
open Go.RowKit Go.Extern.Stop Go.Stop Go.Extern Go.Sort Go.Shelf Go.Lib

def strLen : Value → Nat
  | .string s => s.size
  | _ => 0

/-- What is wrong with one line more (0: nothing). -/
def stepE {β : Type} (k : FK β) (acc : List β) (l : List UInt8) : Nat := if (k.rd l).2 ≠ 0 then (k.rd l).2 else if acc ≠ [] ∧ k.bad (k.rd l).1 (acc.getLastD k.d) = true then 9 else 0

theorem rowsG_step {β : Type} (k : FK β) (l : List UInt8) (r : List (List UInt8)) (hr : r ≠ []) (at_ : Nat) (acc : List β) : rowsG k (l :: r) at_ acc = if stepE k acc l ≠ 0 then ([], stepE k acc l, at_) else rowsG k r (at_ + 1) (acc ++ [(k.rd l).1]) := by
  obtain ⟨l2, r2, rfl⟩ := List.exists_cons_of_ne_nil hr
  rw [rowsG_cons]
  unfold stepE
  by_cases h1 : (k.rd l).2 ≠ 0
  · simp only [if_pos h1]
  · simp only [if_neg h1]
    by_cases h2 : acc ≠ [] ∧ k.bad (k.rd l).1 (acc.getLastD k.d) = true
    · simp only [if_pos h2]; rfl
    · simp only [if_neg h2]; rfl

/-- What is asked of the function that takes the lines: it turns nothing but what is its own; the blocks from P to Q are not. -/
structure Taker {β : Type} (k : FK β) (a : Nat → Addr) (En : World → Prop) (F bl B P Q : Nat) (Inv : World → List β → Prop) : Prop where
  env : ∀ {W : World}, En W → EnvD0 W a
  ent : ∀ args w, (callFunc F args).run Tryz.prog w = .ok (.enter F args) w
  low : B ≤ P
  keep : ∀ {W W' : World} {acc : List β}, Inv W acc → Below W.heap.size W W' → Inv W' acc
  set : ∀ {W : World} {acc : List β} (j o : Nat) (u : Value), P ≤ j → j < Q → Inv W acc → Inv (W.setCell ⟨j, o, none⟩ u) acc
  take : ∀ (W : World) (line : ByteArray) (acc : List β), En W → Inv W acc → Q ≤ W.heap.size → line.size ≤ 100000 → acc.length ≤ 100000 →
    Calls Tryz.prog F #[.string line, .pointer (some ⟨bl, 0, none⟩)] W fun e w' => Below B W w' ∧ (∀ j, P ≤ j → j < Q → w'.heap[j]? = W.heap[j]?) ∧
      ((stepE k acc line.data.toList ≠ 0 ∧ e = .returned (.tuple #[.int .i64 0, errV a (stepE k acc line.data.toList)]) ∧ Inv w' acc) ∨
       (stepE k acc line.data.toList = 0 ∧ e = .returned (.tuple #[.int .i64 (k.key (k.rd line.data.toList).1), .nilIface]) ∧ Inv w' (acc ++ [(k.rd line.data.toList).1])))

/-- The box of the function that takes lines. -/
def FunAt (W : World) (t F bl : Nat) : Prop := W.heap[t]? = some (.cells #[.func (.func F) #[] #[.pointer (some ⟨bl, 0, none⟩)]] 79 (0, 0))

theorem FunAt.cell {W : World} {t F bl : Nat} (h : FunAt W t F bl) : W.cell? ⟨t, 0, none⟩ = some (.func (.func F) #[] #[.pointer (some ⟨bl, 0, none⟩)]) := cell_of_one h
theorem FunAt.below {W W' : World} {t F bl : Nat} (h : FunAt W t F bl) (hb : Below W.heap.size W W') : FunAt W' t F bl := by
  unfold FunAt at *
  exact (hb.block t (lt_of_block h)).trans h

theorem frame_below {B W w w' P Q g} (_ : Below B W w) (h : ∀ j, P ≤ j → j < Q → j ≠ g → w.heap[j]? = W.heap[j]?) (hQ : Q ≤ w.heap.size) (hb : Below w.heap.size w w') : ∀ j, P ≤ j → j < Q → j ≠ g → w'.heap[j]? = W.heap[j]? :=
  fun j h1 h2 h3 => (hb.block j (Nat.lt_of_lt_of_le h2 hQ)).trans (h j h1 h2 h3)

end Go.Proofs.YtpiagofhgalklacGreatDoor
namespace Go.Proofs.YtpiagofhgalklacGreatDoor
open Go.RowKit Go.Extern.Stop Go.Stop Go.Extern Go.Sort Go.Shelf Go.Lib

theorem own_shape {W : World} {base : Nat} {e : TypeId} {size : Nat} {v : Value} {n : Nat} {xs : List Value} (h : W.ownsRow base e size v n xs) : ∃ q c, v = .slice q n c := by
  rcases h.2 with ⟨rfl, rfl⟩ | ⟨g, cap, cur, rfl, _⟩
  · exact ⟨none, 0, rfl⟩
  · exact ⟨_, _, rfl⟩
theorem own_next {W : World} {base : Nat} {e : TypeId} {size : Nat} {v : Value} {n : Nat} {xs : List Value} (h : W.ownsRow base e size v (n + 1) xs) : ∃ g c, v = .slice (some ⟨g, 0, none⟩) (n + 1) c := by
  rcases h.2 with ⟨_, h0⟩ | ⟨g, cap, cur, rfl, _⟩
  · omega
  · exact ⟨_, _, rfl⟩
theorem own_far {W : World} {base : Nat} {e : TypeId} {size : Nat} {v : Value} {n : Nat} {xs : List Value} (h : W.ownsRow base e size v n xs) {k : Nat} (hk : v.ownBlock = some k) : base ≤ k := (h.lt k hk).1
theorem last_is {β : Type} (acc : List β) (k : Nat) (d : β) (hk : acc.length = k + 1) (hkk : k < acc.length) : acc.getLastD d = acc[k] := by
  have hne : acc ≠ [] := by intro e; rw [e] at hk; simp at hk
  rw [List.getLastD_eq_getLast?, List.getLast?_eq_some_getLast hne, Option.getD_some, List.getLast_eq_getElem]
  congr 1
  omega

end Go.Proofs.YtpiagofhgalklacGreatDoor
