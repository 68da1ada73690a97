/-
  The contract of the document's own NumbersOf, of two texts.
-/
import Derived.Test.YtniipgaacdpncaaGreatDoorRefWords
namespace Go.Proofs.YtniipgaacdpncaaGreatDoor
open Go.RowKit Go.Extern.Stop Go.Stop Go.Extern Go.Sort Go.Shelf Go.Lib

theorem Tryz.numInfo3 : (Tryz.prog.info? 3).map (fun i => (i.zero, i.size, i.bytes)) = some (some (.int .i64 0), 1, 8) := by kernel_rfl
theorem Tryz.numInfo : ∃ i0 : TypeInfo, Tryz.prog.info? 3 = some i0 ∧ i0.zero = some (.int .i64 0) ∧ i0.size = 1 ∧ i0.bytes = 8 := by
  obtain ⟨i, hi, h⟩ := Option.map_eq_some_iff.1 Tryz.numInfo3
  simp only [Prod.mk.injEq] at h
  exact ⟨i, hi, h.1, h.2.1, h.2.2⟩

theorem own_cell {w : World} {base : Nat} {t : TypeId} {v : Value} {n : Nat} {l : List Value} (h : w.ownsRow base t 1 v n l) (hn : n ≠ 0) : ∃ g cap, v = .slice (some ⟨g, 0, none⟩) n cap ∧ n ≤ cap ∧ ∀ j u, l[j]? = some u → w.cell? ⟨g, j, none⟩ = some u := by
  obtain ⟨hl, h⟩ := h
  rcases h with ⟨hv, hn'⟩ | ⟨g, cap, cur, rfl, _, hg, hc, _, _, ht⟩
  · exact absurd hn' hn
  · refine ⟨g, cap, rfl, hc, fun j u hu => ?_⟩
    have hj : j < l.length := by
      rcases Nat.lt_or_ge j l.length with h' | h'
      · exact h'
      · rw [List.getElem?_eq_none h'] at hu; cases hu
    rw [← ht, List.getElem?_take, if_pos (by omega)] at hu
    simp only [World.cell?, hg]
    simpa using hu

/-- What two texts are: two numbers, or none. -/
def NumsOf (w : World) (e : Ending) : Option Int → Option Int → Prop
  | some x, some y => ∃ g c, e = .returned (.tuple #[.slice (some ⟨g, 0, none⟩) 2 c, .bool true]) ∧ w.cell? ⟨g, 0, none⟩ = some (.int .i64 x) ∧ w.cell? ⟨g, 1, none⟩ = some (.int .i64 y)
  | _, _ => e = .returned (.tuple #[.slice none 0 0, .bool false])

set_option maxRecDepth 100000 in
set_option maxHeartbeats 2000000 in
theorem numbersOf_any (b o cap : Nat) (K V : ByteArray) (w : World) (hK : w.cell? ⟨b, o, none⟩ = some (.string K)) (hV : w.cell? ⟨b, o + 1, none⟩ = some (.string V)) (hsK : K.size ≤ maxLen) (hsV : V.size ≤ maxLen) :
    Calls Tryz.prog 30 #[.slice (some ⟨b, o, none⟩) 2 cap] w fun e w' => NumsOf w' e (numO K.data.toList) (numO V.data.toList) ∧ Below w.heap.size w w' := by
  obtain ⟨i0, hi0, hz0, hs0, hby0⟩ := Tryz.numInfo
  have hNK := fun W => numberOf_any K W hsK
  have hNV := fun W => numberOf_any V W hsV
  unfold numR at hNK hNV
  cases hk : numO K.data.toList with
  | none =>
    rw [hk] at hNK
    have he : ∀ W e y, NumsOf W e none y = (e = .returned (.tuple #[.slice none 0 0, .bool false])) := fun W e y => by cases y <;> rfl
    simp only [he]
    clear hNV hV he hk
    dsimp only at hNK
    go_enter Tryz.func30, Tryz.ntmps30
    go_wp2
    refine wp_loop_rounds 3 ?_
    rw [rounds_succ]
    go_wp2_with (go_at_call 44; refine (hNK _).mono ?_; rintro e w1 ⟨rfl, hw⟩; rw [hw]; clear hw)
    go_ret2
    exact ⟨rfl, Below.refl _ _⟩
  | some x =>
    rw [hk] at hNK
    clear hk
    dsimp only at hNK
    have hb0 : Below w.heap.size w (w.alloc (.cells #[.int .i64 x] 3)) := (Below.refl _ _).alloc (Nat.le_refl _) _
    have h00 : (w.alloc (.cells #[.int .i64 x] 3)).ownsRow w.heap.size 3 1 (.slice none 0 0) 0 [] := World.ownsRow_nil _ _ _ _
    generalize hv : numO V.data.toList = y at hNV ⊢
    clear hv
    go_enter Tryz.func30, Tryz.ntmps30
    go_wp2
    refine wp_loop_rounds 3 ?_
    rw [rounds_succ]
    go_wp2_with (first
      | (go_at_call 44; refine (hNK _).mono ?_; rintro e w1 ⟨rfl, hw⟩; rw [hw]; clear hw)
      | (at_builtin; refine wpList_append_own _ rfl _ _ 22 rfl w.heap.size 3 i0 (.int .i64 0) 1 8 Tryz.underlying22 hi0 hz0 hs0 hby0 rfl (by decide) (.slice none 0 0) 0 [] rfl ?qc0 ⟨w.heap.size, 0, none⟩ 1 1 [.int .i64 x] rfl ?qc1 ?qc2 ?qc3 ?qc4 ?qc5 ?qc6 ?_))
    case qc0 => exact h00
    case qc1 => rfl
    case qc2 => exact cell_one _ _ _
    case qc3 => intro u hu; simp at hu; subst hu; rfl
    case qc4 => unfold maxLen; omega
    case qc5 => omega
    case qc6 => exact hb0.size
    intro v1 w4 hown4 hgrow hnil
    have hb4 : Below w.heap.size w w4 := hb0.grown hgrow hb0.size (fun k hk => by simp [Value.ownBlock] at hk)
    have hV4 := below_keep hb4 hV
    have OW4 : Hid (w4.ownsRow w.heap.size 3 1 v1 1 [.int .i64 x]) := hown4
    clear hown4 hgrow hnil h00 hV hK hNK
    go_wp2
    rw [rounds_succ]
    cases y with
    | none =>
      dsimp only at hNV
      go_wp2_with (go_at_call 44; refine (hNV _).mono ?_; rintro e w1 ⟨rfl, hw⟩; rw [hw]; clear hw)
      go_ret2
      exact ⟨rfl, hb4⟩
    | some y =>
      dsimp only at hNV
      have hb5 : Below w4.heap.size w4 (w4.alloc (.cells #[.int .i64 y] 3)) := (Below.refl _ _).alloc (Nat.le_refl _) _
      have hb5' : Below w.heap.size w (w4.alloc (.cells #[.int .i64 y] 3)) := hb4.trans (hb5.mono hb4.size)
      go_wp2_with (first
        | (go_at_call 44; refine (hNV _).mono ?_; rintro e w1 ⟨rfl, hw⟩; rw [hw]; clear hw)
        | (at_builtin; refine wpList_append_own _ rfl _ _ 22 rfl w.heap.size 3 i0 (.int .i64 0) 1 8 Tryz.underlying22 hi0 hz0 hs0 hby0 rfl (by decide) v1 1 [.int .i64 x] rfl ?qd0 ⟨w4.heap.size, 0, none⟩ 1 1 [.int .i64 y] rfl ?qd1 ?qd2 ?qd3 ?qd4 ?qd5 ?qd6 ?_))
      case qd0 => exact own_below OW4.out hb5
      case qd1 => rfl
      case qd2 => exact cell_one _ _ _
      case qd3 => intro u hu; simp at hu; subst hu; rfl
      case qd4 => unfold maxLen; omega
      case qd5 => omega
      case qd6 => exact hb5'.size
      intro v2 w6 hown6 hgrow hnil
      have hb6 : Below w.heap.size w w6 := hb5'.grown hgrow hb5'.size (fun k hk => by
        rcases OW4.out.2 with ⟨e, _⟩ | ⟨g', cap', cur, e, hg', _⟩
        · rw [e] at hk; simp [Value.ownBlock] at hk
        · rw [e] at hk; simp [Value.ownBlock] at hk; omega)
      obtain ⟨g, c, rfl, _, hcl⟩ := own_cell hown6 (by omega)
      have c0 := hcl 0 (.int .i64 x) rfl
      have c1 := hcl 1 (.int .i64 y) rfl
      clear hown6 hgrow hnil hcl
      go_wp2
      rw [rounds_succ]
      go_wp2
      go_ret2
      exact ⟨⟨g, c, rfl, c0, c1⟩, hb6⟩
end Go.Proofs.YtniipgaacdpncaaGreatDoor
