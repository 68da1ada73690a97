/-
  The walk of RowTells: whatever rows, text, keys and bounds: true; what was there is as it was.
-/
import Derived.Test.YtgffkkijfmoooabGreatDoorRefSort
import Derived.Test.YtgffkkijfmoooabGreatDoorCoded
import Derived.Test.YtgffkkijfmoooabGreatDoorFaulted
import Derived.Lib.QuietBelow
import Derived.BigQuiet
namespace Go.Proofs.YtgffkkijfmoooabGreatDoor
open Go.RowKit Go.Extern.Stop Go.Stop Go.Extern Go.Sort Go.Shelf Go.Lib

theorem readO_le (l : List UInt8) : (readO l).2 ≤ 5 := by
  unfold readO
  split
  · split
    · split
      · exact Nat.zero_le _
      · exact rowE_le _
    · exact (by decide : (1 : Nat) ≤ 5)
  · exact (by decide : (1 : Nat) ≤ 5)

/-- SortRows, wherever the rows lie. -/
theorem sortRows_at (v : Value) (xs : List Rw) (w : World) (h : RowsAt w v xs) (hl : xs.length ≤ 1000) :
    Calls Tryz.prog 60 #[v] w fun e w' => ∃ v', e = .returned v' ∧ RowsAt w' v' (sortR xs) ∧ Below w.heap.size w w' := by
  rcases h with ⟨p, c, rfl, rfl⟩ | ⟨b, o, cap, rfl, hc⟩
  · clear hl
    go_enter Tryz.func60, Tryz.ntmps60
    go_wp2
    refine wp_loop_rounds 1 ?_
    rw [rounds_succ]
    go_wp2
    go_ret
    exact ⟨_, rfl, Or.inl ⟨none, 0, rfl, by simp [sortR]⟩, Below.refl _ _⟩
  · exact sortRows_any b o cap xs w hc hl

/-- An append, by its run. -/
theorem wpList_append_out {P : Program} {w : World} {ops : Array Oper} {rest : List Oper} {o : Oper} {a : Act} {Q : Exit → Act → World → Prop} (hgd : o.guard = none) (s x : Operand) (t : TypeId)
    (ho : o.op = .call { callee := .builtin .append, args := #[s, x], argTypes := #[t, t] }) (v u : Value) (hs : a.eval s = v) (hx : a.eval x = u) {R : Value → World → Prop}
    (hr : ∀ ty, ∃ v' w', (Builtin.append_ #[t, t] ty #[v, u]).run P w = .ok v' w' ∧ R v' w') (h : ∀ v' w', R v' w' → wpList P ops Q rest (a.put o.dst v') w') : wpList P ops Q (o :: rest) a w := by
  refine wpList_plain hgd fun K hK => ?_
  obtain ⟨v', w', hrun, hR⟩ := hr o.type
  unfold Oper.wp execOp
  simp only [ho, resolve, invoke, builtin, Sem.run_bind, Sem.run_pure, Result.andThen_ok, List.map_toArray, List.map_cons, List.map_nil, hs, hx, hrun]
  exact hK _ _ (h v' w' hR)

/-- Whole numbers appended to none. -/
theorem append_keys (q : Option Addr) (M d : Nat) (zs : List Int) (W : World) (hz : KeysAt W (.slice q M d) zs) (hM : zs.length = M) (hl : M ≤ 1000) (ty : TypeId) :
    ∃ v' w', (Builtin.append_ #[44, 44] ty #[.slice none 0 0, .slice q M d]).run Tryz.prog W = .ok v' w' ∧ KeysAt w' v' zs ∧ Below W.heap.size W w' := by
  obtain ⟨i0, hi0, hz0, hs0, hby0⟩ := Tryz.numInfo
  have fin : ∀ v' w', w'.ownsRow W.heap.size 3 1 v' (0 + M) ([] ++ zs.map (Value.int .i64)) → W.grownBy w' (Value.slice none 0 0).ownBlock → KeysAt w' v' zs ∧ Below W.heap.size W w' := by
    intro v' w' hown hgrow
    refine ⟨?_, (Below.refl _ _).grown hgrow (Nat.le_refl _) (fun k hk => by simp [Value.ownBlock] at hk)⟩
    rw [Nat.zero_add, List.nil_append] at hown
    rcases Nat.eq_zero_or_pos M with h0 | h0
    · subst h0
      have hz0 : zs = [] := List.length_eq_zero_iff.1 hM
      rcases hown.2 with ⟨e, _⟩ | ⟨g, cap, cur, e, _⟩
      · exact Or.inl ⟨_, _, e, hz0⟩
      · exact Or.inl ⟨_, _, e, hz0⟩
    · obtain ⟨g, cap, e, _, hc⟩ := own_cell hown (by omega)
      refine Or.inr ⟨g, 0, cap, by rw [e, hM], fun j hj => ?_⟩
      rw [Nat.zero_add]
      exact hc j _ (by simp [hj])
  rcases hz with ⟨p, c, e, e'⟩ | ⟨b, o, cap, e, hcells⟩
  · injection e with e1 e2 e3
    subst e1 e2 e3 e'
    cases q with
    | none =>
      refine ⟨.slice none 0 0, W, ?_, Or.inl ⟨_, _, rfl, rfl⟩, Below.refl _ _⟩
      simp [Builtin.append_, run_underlying Tryz.underlying44, sizeOf, typeInfo, zeroValue, hi0, hz0, Builtin.lenOf, run_firstCells_none]
    | some ad =>
      obtain ⟨v', w', hr, h1, h2, _⟩ := run_append_own W W.heap.size 44 ty 3 i0 (.int .i64 0) 1 8 Tryz.underlying44 hi0 hz0 hs0 hby0 rfl (by decide) (.slice none 0 0) 0 [] (World.ownsRow_nil _ _ _ _) ad 0 d [] rfl (fun j u hj => by simp at hj) (fun u hu => by cases hu) (by decide) (by decide) (Nat.le_refl _)
      exact ⟨v', w', hr, fin v' w' h1 h2⟩
  · injection e with e1 e2 e3
    subst e1 e2 e3
    obtain ⟨v', w', hr, h1, h2, _⟩ := run_append_own W W.heap.size 44 ty 3 i0 (.int .i64 0) 1 8 Tryz.underlying44 hi0 hz0 hs0 hby0 rfl (by decide) (.slice none 0 0) 0 [] (World.ownsRow_nil _ _ _ _) ⟨b, o, none⟩ zs.length d (zs.map (Value.int .i64)) (by simp) (fun j u hj => by
      have hj' : j < zs.length := by
        rcases Nat.lt_or_ge j zs.length with h' | h'
        · exact h'
        · rw [List.getElem?_eq_none (by simpa using h')] at hj; cases hj
      rw [Addr.add_lit]
      rw [List.getElem?_eq_getElem (by simpa using hj')] at hj
      simp only [List.getElem_map, Option.some.injEq] at hj
      rw [hcells j hj', hj]) (fun u hu => by
      simp only [List.mem_map] at hu
      obtain ⟨z, _, rfl⟩ := hu
      rfl) (by unfold maxLen; omega) (by omega) (Nat.le_refl _)
    exact ⟨v', w', hr, fin v' w' h1 h2⟩

end Go.Proofs.YtgffkkijfmoooabGreatDoor
