/-
  The contracts of strings.Split by a blank, and of row.Numbers.
-/
import Derived.Test.YtgffkkijfmoooacDoorRowRead
import Derived.Laws.Rows
import Derived.Deep.OwnRows
import Derived.OneCell
namespace Go.Proofs.YtgffkkijfmoooacDoor
open Go.RowKit Go.Extern.Stop Go.Stop Go.Extern Go.Sort Go.Shelf Go.Lib

theorem words_len : ∀ (l : List UInt8), ∀ x ∈ words l, x.length ≤ l.length
  | [], x, h => by simp [words] at h; simp [h]
  | c :: r, x, h => by
    have ih := words_len r
    unfold words at h
    split at h
    · rw [List.mem_cons] at h
      rcases h with rfl | h
      · simp
      · have := ih x h; simp; omega
    · split at h
      · simp at h; simp [h]
      · rename_i w ws hw
        rw [hw] at ih
        rw [List.mem_cons] at h
        rcases h with rfl | h
        · have := ih w List.mem_cons_self; simp; omega
        · have := ih x (List.mem_cons_of_mem _ h); simp; omega

/-- A store of what the cell holds turns nothing. -/
theorem setCell_self {w : World} {b o : Nat} {v : Value} (h : w.cell? ⟨b, o, none⟩ = some v) : w.setCell ⟨b, o, none⟩ v = w := by
  have hm : (w.setCell ⟨b, o, none⟩ v).heap = w.heap := by
    unfold World.setCell
    apply Array.ext_getElem?
    intro i
    dsimp only
    rw [Array.getElem?_modify]
    split
    · rename_i e
      subst e
      unfold World.cell? at h
      dsimp only at h
      cases hh : w.heap[b]? with
      | none => rfl
      | some ob =>
        rw [hh] at h
        cases ob with
        | cells c t f =>
          simp only [Option.isSome_none, Bool.false_eq_true, if_false] at h
          simp only [Option.map_some, Option.isSome_none, Bool.false_eq_true, if_false, Option.some.injEq, Obj.cells.injEq, and_true]
          apply Array.ext_getElem?
          intro k
          rw [Array.getElem?_setIfInBounds]
          split
          · rename_i e; subst e
            split
            · exact h.symm
            · rename_i hlt; rw [Array.getElem?_eq_none (by omega)]
          · rfl
        | _ => simp at h
    · rfl
  cases w
  simp only [World.setCell] at hm ⊢
  rw [hm]

/-- A slice of texts, from its first cell on. -/
def TxAt (w : World) (v : Value) (ts : List ByteArray) : Prop :=
  ∃ b, v = .slice (some ⟨b, 0, none⟩) ts.length ts.length ∧ ∀ j (h : j < ts.length), w.cell? ⟨b, j, none⟩ = some (.string ts[j])

theorem TxAt.below {w w' : World} {v : Value} {ts : List ByteArray} (h : TxAt w v ts) (hb : Below w.heap.size w w') : TxAt w' v ts := by
  obtain ⟨b, hv, h⟩ := h
  exact ⟨b, hv, fun j hj => below_keep hb (h j hj)⟩

theorem Tryd.numsInfo : (Tryd.prog.info? 3).map (fun i => (i.zero, i.size, i.bytes)) = some (some (.int .i64 0), 1, 8) := by kernel_rfl

/-- What words are: numbers, in a list of their own, or one that is none. -/
def NumsRow (w : World) (e : Ending) (ts : List ByteArray) : Prop :=
  (∃ (zs : List Int) (g : Nat), zs.length = ts.length ∧ (∀ (j : Nat) (t : ByteArray), ts[j]? = some t → numO t.data.toList = zs[j]?) ∧ e = .returned (.tuple #[.slice (some ⟨g, 0, none⟩) ts.length ts.length, .bool true]) ∧ ∀ j (h : j < zs.length), w.cell? ⟨g, j, none⟩ = some (.int .i64 zs[j])) ∨
  (∃ (j : Nat) (t : ByteArray), ts[j]? = some t ∧ numO t.data.toList = none ∧ e = .returned (.tuple #[.slice none 0 0, .bool false]))

theorem made_get (z : Value) (n j : Nat) (h : j < n) : (madeCells #[z] n)[j]? = some z := by
  unfold madeCells
  simp [h, Nat.mod_one]

end Go.Proofs.YtgffkkijfmoooacDoor
