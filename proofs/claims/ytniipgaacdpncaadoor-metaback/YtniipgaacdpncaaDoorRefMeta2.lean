/-
  The contract of the document's own ReadIDs.
-/
import Derived.Test.YtniipgaacdpncaaDoorRefMeta
import Derived.Deep.CutBlock
namespace Go.Proofs.YtniipgaacdpncaaDoor
open Go.RowKit Go.Extern.Stop Go.Stop Go.Extern Go.Sort Go.Shelf Go.Lib

/-- What ReadIDs hands back. -/
def ReadIP (w : World) (R : List Int × Nat × Option Nat) (e : Ending) (w' : World) : Prop := ∃ v, e = .returned (.tuple #[v, .agg #[.int .i64 R.2.1, .int .i64 (atZ R.2.2)]]) ∧ KeysAt w' v R.1 ∧ (∀ k, v.ownBlock = some k → w.heap.size ≤ k) ∧ Below w.heap.size w w'

theorem readI_bad {l k : List UInt8} {ws : List (List UInt8)} (h : words l.dropLast = k :: ws) (hb : ¬ (l.getLast? = some 10 ∧ k = kMeta) ∨ numsO ws = none) : readI l = ([], 1, none) := by
  unfold readI
  rw [h]
  dsimp only
  split
  · rename_i h1
    rcases hb with h2 | h2
    · exact absurd h1 h2
    · rw [h2]
  · rfl
theorem readI_ok {l : List UInt8} {ws : List (List UInt8)} {zs : List Int} (h : words l.dropLast = kMeta :: ws) (hl : l.getLast? = some 10) (hn : numsO ws = some zs) : readI l = if (idsE zs).1 ≠ 0 then ([], idsE zs) else (zs, 0, none) := by
  unfold readI
  rw [h]
  dsimp only
  rw [if_pos ⟨hl, rfl⟩, hn]

theorem nilNew {B : Nat} : ∀ k, (Value.slice none 0 0).ownBlock = some k → B ≤ k := fun k hk => by simp [Value.ownBlock] at hk
theorem nilKeys (W : World) : KeysAt W (.slice none 0 0) [] := Or.inl ⟨none, 0, rfl, rfl⟩

theorem words_count : ∀ l : List UInt8, (words l).length ≤ l.length + 1
  | [] => by simp [words]
  | c :: r => by
    have := words_count r
    unfold words
    split
    · simp; omega
    · split
      · simp
      · rename_i e
        rw [e] at this
        simp at this ⊢
        omega

theorem words_ne (l : List UInt8) : words l ≠ [] := by
  cases l with
  | nil => simp [words]
  | cons c r =>
    unfold words
    split
    · simp
    · split <;> simp

theorem nums_end {B : Nat} {W : World} {ts : List ByteArray} {e : Ending} (h : NumsPostN B W e ts) : ∃ (v : Value) (b : Bool), e = .returned (.tuple #[v, .bool b]) ∧ ((∃ zs, numsO (ts.map (·.data.toList)) = some zs ∧ b = true ∧ KeysAt W v zs ∧ ∀ k, v.ownBlock = some k → B ≤ k) ∨ (numsO (ts.map (·.data.toList)) = none ∧ b = false)) := by
  rcases h with ⟨zs, v, h1, h2, h3, h4, h5⟩ | ⟨j, t, h1, h2, h3⟩
  · refine ⟨v, true, h3, Or.inl ⟨zs, numsO_good (by rw [List.length_map]; exact h1) (fun j t ht => ?_), rfl, h4, h5⟩⟩
    rw [List.getElem?_map] at ht
    cases e : ts[j]? with
    | none => rw [e] at ht; cases ht
    | some u =>
      rw [e] at ht
      obtain rfl : u.data.toList = t := Option.some.inj ht
      exact h2 j u e
  · exact ⟨_, false, h3, Or.inr ⟨numsO_bad (j := j) (t := t.data.toList) (by rw [List.getElem?_map, h1]; rfl) h2, rfl⟩⟩

theorem numsO_len : ∀ {ws : List (List UInt8)} {zs : List Int}, numsO ws = some zs → zs.length = ws.length
  | [], zs, h => by
    obtain rfl : [] = zs := Option.some.inj h
    rfl
  | w :: r, zs, h => by
    unfold numsO at h
    split at h
    · rename_i z ys _ h2
      obtain rfl := Option.some.inj h
      simp [numsO_len h2]
    · cases h

theorem keys_off {W : World} {F : Nat} {v : Value} {zs : List Int} (h : KeysAt W v zs) (hn : ∀ k, v.ownBlock = some k → F < k) (p r : Int) : KeysAt ((W.setCell ⟨F, 0, none⟩ (.int .i64 p)).setCell ⟨F, 1, none⟩ (.int .i64 r)) v zs := by
  rcases h with h | ⟨b, o, cap, rfl, hc⟩
  · exact Or.inl h
  · have hb : F < b := hn b (by simp [Value.ownBlock])
    refine Or.inr ⟨b, o, cap, rfl, fun j hj => ?_⟩
    rw [World.cell?_setCell_other _ _ _ _ (by intro e; injection e with e; omega), World.cell?_setCell_other _ _ _ _ (by intro e; injection e with e; omega)]
    exact hc j hj

end Go.Proofs.YtniipgaacdpncaaDoor
