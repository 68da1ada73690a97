/-
  The contracts of the program's mayPut and Swap.
-/
import Derived.Test.YtmcfklkpdhgjdaaDoorStoName
import Derived.Test.YtmcfklkpdhgjdaaDoorStoSize
namespace Go.Proofs.YtmcfklkpdhgjdaaDoor
open Go.RowKit Go.Extern.Stop Go.Stop Go.Extern Go.Sort Go.Shelf Go.Lib

section
variable {w : World} {b : Nat} {mo : Option Nat} {q : ByteArray → Nat} {s : St}
set_option maxRecDepth 100000 in
set_option maxHeartbeats 2000000 in
theorem mayPut_any (h : SIn w b mo q s) (hk : Keeps s) {a : Nat → Addr} (he : EnvO w a) (n t : ByteArray) (hn : n.size ≤ 1000) (ht : t.size ≤ 100000) :
    Calls Tryd.prog 24 #[.pointer (some ⟨b, 0, none⟩), .string n, .string t] w fun e w' => e = .returned (errV a (putE s n t)) ∧ Below w.heap.size w w' := by
  have hnm : n.size ≤ maxLen := by unfold maxLen; omega
  have hcn := oName_any n w hnm
  have HS : Hid (SIn w b mo q s) := h
  have HK : Hid (Keeps s) := hk
  have HE : Hid (EnvO w a) := he
  have hbs := bytesS_le hk.texts
  have hmany := hk.many
  unfold putE
  clear h hk he
  cases ho : objB n.data.toList with
  | false =>
    rw [ho] at hcn
    simp only [if_true]
    clear ho
    go_enter Tryd.func24, Tryd.ntmps24
    go_wp2_with (go_at_call 32; refine hcn.mono ?_; rintro e w1 ⟨rfl, hb⟩; have e1 := (HE.out.below hb).name)
    go_ret
    exact ⟨rfl, hb⟩
  | true =>
    rw [ho] at hcn
    rw [if_neg (by decide)]
    clear ho
    by_cases h1 : 20000 < t.size
    · rw [if_pos h1]
      have d1 : decide ((20000 : Int) < (t.size : Int)) = true := decide_eq_true (by omega)
      go_enter Tryd.func24, Tryd.ntmps24
      go_wp2_with (go_at_call 32; refine hcn.mono ?_; rintro e w1 ⟨rfl, hb⟩; have e1 := (HE.out.below hb).bound)
      go_ret
      exact ⟨rfl, hb⟩
    · rw [if_neg h1]
      have d1 : decide ((20000 : Int) < (t.size : Int)) = false := decide_eq_false (by omega)
      rcases Bool.eq_false_or_eq_true s.off with hoff | hoff
      · rw [if_pos hoff]
        go_enter Tryd.func24, Tryd.ntmps24
        go_wp2_with (go_at_call 32; refine hcn.mono ?_; rintro e w1 ⟨rfl, hb⟩; have e1 := (HE.out.below hb).off; have c3 := (HS.out.below hb).block.cells.2.2.2.1; rw [hoff] at c3)
        go_ret
        exact ⟨rfl, hb⟩
      · rw [if_neg (by rw [hoff]; decide)]
        cases hg : getO s.obs n with
        | some o =>
          have hl : ∀ w1, Below w.heap.size w w1 → (Instr.lookup 47 (.map mo) (.string n) false).run Tryd.prog w1 = .ok (ptrV (q n)) w1 := fun w1 hb => by
            have := (HS.out.below hb).map.look hnm
            rw [lookP_some (by rw [hg]; rfl)] at this
            exact this
          have HL : Hid _ := hl
          rw [if_pos (by rfl)]
          clear hl
          go_enter Tryd.func24, Tryd.ntmps24
          go_wp2_with (go_at_call 32; refine hcn.mono ?_; rintro e w1 ⟨rfl, hb⟩; have e1 := (HE.out.below hb).exist; obtain ⟨c0, _, _, c3, _⟩ := (HS.out.below hb).block.cells; rw [hoff] at c3; have hl := HL.out w1 hb)
          go_ret
          exact ⟨rfl, hb⟩
        | none =>
          have hl : ∀ w1, Below w.heap.size w w1 → (Instr.lookup 47 (.map mo) (.string n) false).run Tryd.prog w1 = .ok (.pointer none) w1 := fun w1 hb => by
            have := (HS.out.below hb).map.look hnm
            rw [lookP_none hg] at this
            exact this
          have HL : Hid _ := hl
          rw [if_neg (by decide)]
          clear hl hg
          by_cases h2 : 200 ≤ s.obs.length
          · rw [if_pos (Or.inl h2)]
            have d2 : decide ((200 : Int) ≤ (s.obs.length : Int)) = true := decide_eq_true (by omega)
            have HN : Hid (∀ w1, Below w.heap.size w w1 → ∀ ty, (Builtin.len_ #[47] ty #[.map mo]).run Tryd.prog w1 = .ok (.int .i64 s.obs.length) w1) := fun w1 hb ty => (HS.out.below hb).map.len ty
            generalize s.obs.length = L at d2 HN hmany hbs h2
            go_enter Tryd.func24, Tryd.ntmps24
            go_wp2_with (go_at_call 32; refine hcn.mono ?_; rintro e w1 ⟨rfl, hb⟩; have e1 := (HE.out.below hb).full; obtain ⟨c0, _, _, c3, _⟩ := (HS.out.below hb).block.cells; rw [hoff] at c3; have hl := HL.out w1 hb; have hln := HN.out w1 hb)
            go_ret
            exact ⟨rfl, hb⟩
          · have d2 : decide ((200 : Int) ≤ (s.obs.length : Int)) = false := decide_eq_false (by omega)
            have HN : Hid (∀ w1, Below w.heap.size w w1 → ∀ ty, (Builtin.len_ #[47] ty #[.map mo]).run Tryd.prog w1 = .ok (.int .i64 s.obs.length) w1) := fun w1 hb ty => (HS.out.below hb).map.len ty
            have HZ : Hid (∀ w1, Below w.heap.size w w1 → Calls Tryd.prog 33 #[.pointer (some ⟨b, 0, none⟩)] w1 fun e w' => e = .returned (.int .i64 (bytesS s.obs)) ∧ Below w1.heap.size w1 w') := fun w1 hb => ssize_any (HS.out.below hb) HK.out
            generalize hL : s.obs.length = L at d2 HN hmany hbs h2 ⊢
            generalize bytesS s.obs = Z at HZ hbs ⊢
            have hZ2 : (Z : Int) + (t.size : Int) ≤ 9223372036854775807 := by omega
            by_cases h3 : 262144 < Z + t.size
            · rw [if_pos (Or.inr h3)]
              have d3 : decide ((262144 : Int) < (Z : Int) + (t.size : Int)) = true := decide_eq_true (by omega)
              clear h3 h2 hbs hmany h1 hL
              go_enter Tryd.func24, Tryd.ntmps24
              go_wp2_with (first | (go_at_call 32; refine hcn.mono ?_; rintro e w1 ⟨rfl, hb⟩; obtain ⟨c0, _, _, c3, _⟩ := (HS.out.below hb).block.cells; rw [hoff] at c3; have hl := HL.out w1 hb; have hln := HN.out w1 hb; have hz := HZ.out w1 hb) | (go_at_call 33; refine hz.mono ?_; rintro e w2 ⟨rfl, hb2⟩; have hb3 : Below w.heap.size w w2 := hb.trans (hb2.mono hb.size); have e1 := (HE.out.below hb3).full))
              go_ret
              exact ⟨rfl, hb3⟩
            · rw [if_neg (by omega)]
              have d3 : decide ((262144 : Int) < (Z : Int) + (t.size : Int)) = false := decide_eq_false (by omega)
              clear h3 h2 hbs hmany h1 hL
              go_enter Tryd.func24, Tryd.ntmps24
              go_wp2_with (first | (go_at_call 32; refine hcn.mono ?_; rintro e w1 ⟨rfl, hb⟩; obtain ⟨c0, _, _, c3, _⟩ := (HS.out.below hb).block.cells; rw [hoff] at c3; have hl := HL.out w1 hb; have hln := HN.out w1 hb; have hz := HZ.out w1 hb) | (go_at_call 33; refine hz.mono ?_; rintro e w2 ⟨rfl, hb2⟩; have hb3 : Below w.heap.size w w2 := hb.trans (hb2.mono hb.size)))
              go_ret
              exact ⟨rfl, hb3⟩
end
end Go.Proofs.YtmcfklkpdhgjdaaDoor
