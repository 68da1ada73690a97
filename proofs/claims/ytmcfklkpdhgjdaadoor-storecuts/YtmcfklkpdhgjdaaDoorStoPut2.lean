/-
  The contracts of the program's Swap and Put.
-/
import Derived.Test.YtmcfklkpdhgjdaaDoorStoPut
namespace Go.Proofs.YtmcfklkpdhgjdaaDoor
open Go.RowKit Go.Extern.Stop Go.Stop Go.Extern Go.Sort Go.Shelf Go.Lib

theorem wrtS_cut1 {s : St} {n : Nat} (h : s.cut ≤ 9223372036854775807) : (wrtS s n).2.cut ≤ 9223372036854775807 := by
  unfold wrtS
  split
  · exact h
  · split
    · exact h
    · dsimp only; omega

section
variable {w : World} {b : Nat} {mo : Option Nat} {q : ByteArray → Nat} {s : St}
set_option maxRecDepth 100000 in
set_option maxHeartbeats 2000000 in
theorem sswap_any (h : SIn w b mo q s) {a : Nat → Addr} (he : EnvO w a) (old t : ByteArray) (ht : t.size ≤ 100000) :
    Calls Tryd.prog 13 #[.pointer (some ⟨b, 0, none⟩), .string old, .string t] w fun e w' => e = .returned (errV a (swapC s old t)) ∧ SPost SAtP w (.pointer (some ⟨b, 0, none⟩)) (fpS b mo q s.obs) (swapS s old t) w' := by
  obtain ⟨_, c1, _, c3, _⟩ := h.block.cells
  have e1 := he.bound
  have e2 := he.off
  have e3 := he.stale
  have HS : Hid (SPost SAtP w (.pointer (some ⟨b, 0, none⟩)) (fpS b mo q s.obs) s w) := spost_of h (But.refl _ _) fun k hk => Or.inl hk
  by_cases h1 : 20000 < t.size
  · have hE : swapE s old t = 2 := by unfold swapE; rw [if_pos h1]
    have hC : swapC s old t = 2 := by unfold swapC; rw [hE]; rfl
    have hT : swapS s old t = s := by unfold swapS; rw [hE]; rfl
    rw [hC, hT]
    have d1 : decide ((20000 : Int) < (t.size : Int)) = true := decide_eq_true (by omega)
    clear h he hE hC hT h1
    go_enter Tryd.func13, Tryd.ntmps13
    go_wp2
    go_ret
    exact ⟨rfl, HS.out⟩
  · have d1 : decide ((20000 : Int) < (t.size : Int)) = false := decide_eq_false (by omega)
    rcases Bool.eq_false_or_eq_true s.off with hoff | hoff
    · have hE : swapE s old t = 12 := by unfold swapE; rw [if_neg h1, if_pos hoff]
      have hC : swapC s old t = 12 := by unfold swapC; rw [hE]; rfl
      have hT : swapS s old t = s := by unfold swapS; rw [hE]; rfl
      rw [hC, hT]
      rw [hoff] at c3
      clear h he hE hC hT h1
      go_enter Tryd.func13, Tryd.ntmps13
      go_wp2
      go_ret
      exact ⟨rfl, HS.out⟩
    · rw [hoff] at c3
      by_cases h2 : s.head = old
      · have hE : swapE s old t = 0 := by unfold swapE; rw [if_neg h1, if_neg (by rw [hoff]; decide), if_neg (by simp [h2])]
        have d2 := nm_eq h2
        have hw := swrite_any h.block he t (by unfold maxLen; omega) hoff h.cut
        have hwh := wrtS_whole (s := s) (n := t.size) hoff
        have hle := wrtS_le s t.size
        obtain ⟨g1, g2, g3⟩ := wrtS_obs s t.size
        have HSW : Hid (∀ w', WrtP a w b mo s t (.returned (.tuple #[.string (t.extract 0 (wrtS s t.size).1), errV a (if (wrtS s t.size).2.off = true then 12 else 0)])) w' → (wrtS s t.size).2.off = true → SPost SAtP w (.pointer (some ⟨b, 0, none⟩)) (fpS b mo q s.obs) (swapS s old t) w') := fun w' hp ho => by
          have hT : swapS s old t = (wrtS s t.size).2 := by
            unfold swapS
            rw [hE, if_neg (by decide), if_pos (by
              have hne : ¬ (wrtS s t.size).1 = t.size := fun e => by have := hwh.2 e; rw [ho] at this; cases this
              omega)]
          rw [hT]
          exact spost_turned h hp.2.2 (by rw [g2, g3]; exact hp.2.1) g1 (wrtS_cut1 h.cut)
        have HSO : Hid (∀ w', WrtP a w b mo s t (.returned (.tuple #[.string (t.extract 0 (wrtS s t.size).1), errV a (if (wrtS s t.size).2.off = true then 12 else 0)])) w' → (wrtS s t.size).2.off = false → SPost SAtP w (.pointer (some ⟨b, 0, none⟩)) (fpS b mo q s.obs) (swapS s old t) (w'.setCell ⟨b, 1, none⟩ (.string t))) := fun w' hp ho => by
          have hT : swapS s old t = { (wrtS s t.size).2 with head := t } := by
            unfold swapS
            rw [hE, if_neg (by decide), if_neg (by have := hwh.1 ho; omega)]
          rw [hT]
          exact spost_turned h (hp.2.2.setCell (Or.inl rfl) _) (by dsimp only; rw [g3]; exact hp.2.1.head t) g1 (wrtS_cut1 h.cut)
        have HC1 : Hid ((wrtS s t.size).2.off = true → swapC s old t = 12) := fun ho => by
          unfold swapC
          rw [hE, if_neg (by decide), if_pos (by
            have hne : ¬ (wrtS s t.size).1 = t.size := fun e => by have := hwh.2 e; rw [ho] at this; cases this
            omega)]
        have HC0 : Hid ((wrtS s t.size).2.off = false → swapC s old t = 0) := fun ho => by
          unfold swapC
          rw [hE, if_neg (by decide), if_neg (by have := hwh.1 ho; omega)]
        have hx : (wrtS s t.size).2.off = false → t.extract 0 (wrtS s t.size).1 = t := fun ho => by rw [hwh.1 ho, extract_all]
        rcases Bool.eq_false_or_eq_true (wrtS s t.size).2.off with ho | ho
        · rw [HC1.out ho]
          have hw2 : Calls Tryd.prog 25 #[.pointer (some ⟨b, 3, none⟩), .string t] w fun e w' => e = .returned (.tuple #[.string (t.extract 0 (wrtS s t.size).1), .iface 151 (.pointer (some (a 11)))]) ∧ SPost SAtP w (.pointer (some ⟨b, 0, none⟩)) (fpS b mo q s.obs) (swapS s old t) w' := hw.mono fun e w' hp => by
            have hp' := hp
            obtain ⟨rfl, hp2⟩ := hp'
            refine ⟨by rw [ho]; rfl, HSW.out _ hp ho⟩
          generalize t.extract 0 (wrtS s t.size).1 = tx at hw2
          clear h he hE h1 h2 hw hwh hle g1 g2 g3 hx ho
          go_enter Tryd.func13, Tryd.ntmps13
          go_wp2_with (go_at_call 25; refine hw2.mono ?_; rintro e w1 ⟨rfl, hp⟩)
          go_ret
          exact ⟨rfl, hp⟩
        · rw [HC0.out ho]
          have hw2 : Calls Tryd.prog 25 #[.pointer (some ⟨b, 3, none⟩), .string t] w fun e w' => e = .returned (.tuple #[.string t, .nilIface]) ∧ (∃ x, w'.cell? ⟨b, 1, none⟩ = some x) ∧ w'.cell? ⟨b, 1, none⟩ = some (.string s.head) ∧ w'.frozen? ⟨b, 1, none⟩ = false ∧ SPost SAtP w (.pointer (some ⟨b, 0, none⟩)) (fpS b mo q s.obs) (swapS s old t) (w'.setCell ⟨b, 1, none⟩ (.string t)) := hw.mono fun e w' hp => by
            have hp' := hp
            obtain ⟨rfl, hp2, hp3⟩ := hp'
            refine ⟨by rw [ho, hx ho]; rfl, ⟨_, hp2.cells.2.1⟩, hp2.cells.2.1, hp2.cells.2.2.2.2.2.2 1, HSO.out _ hp ho⟩
          clear h he hE h1 h2 hw hwh hle g1 g2 g3 hx ho
          go_enter Tryd.func13, Tryd.ntmps13
          go_wp2_with (go_at_call 25; refine hw2.mono ?_; rintro e w1 ⟨rfl, -, k1, f1, hp⟩)
          go_ret
          exact ⟨rfl, hp⟩
      · have hE : swapE s old t = 11 := by unfold swapE; rw [if_neg h1, if_neg (by rw [hoff]; decide), if_pos h2]
        have hC : swapC s old t = 11 := by unfold swapC; rw [hE]; rfl
        have hT : swapS s old t = s := by unfold swapS; rw [hE]; rfl
        rw [hC, hT]
        have d2 := nm_ne h2
        clear h he hE hC hT h1 h2
        go_enter Tryd.func13, Tryd.ntmps13
        go_wp2
        go_ret
        exact ⟨rfl, HS.out⟩

/-- With one more object, in a block of its own: the map has turned, and so has the store's own block. -/
theorem SIn.added {w' : World} {mb k : Nat} {n t : ByteArray} {d : Int} {s1 : St} (h : SIn w b mo q s) (hn : ∀ p ∈ s.obs, p.1 ≠ n) (hb : SC w' b (some mb) s1.head s1.day s1.off (waitsB s1) (leftI s1)) (hc : s1.cut ≤ 9223372036854775807)
    (hm : PtrMap w' mb (setQ q n k) (insO s.obs (n, t, d))) (hx : w'.heap[k]? = some (.cells #[.string t, .int .i64 d] 57 (0, 0))) (ho : ∀ o ∈ s.obs, w'.heap[q o.1]? = w.heap[q o.1]?) : SIn w' b (some mb) (setQ q n k) { s1 with obs := insO s.obs (n, t, d) } := by
  refine ⟨hb, Or.inr ⟨mb, rfl, hm⟩, fun o hm' => ?_, insO_rise (o := (n, t, d)) h.rise hn, hc⟩
  rcases insO_mem.1 hm' with rfl | hmo
  · rw [setQ_same]; exact hx
  · rw [setQ_other _ _ (hn o hmo)]
    exact (ho o hmo).trans (h.objs o hmo)
end
end Go.Proofs.YtmcfklkpdhgjdaaDoor
