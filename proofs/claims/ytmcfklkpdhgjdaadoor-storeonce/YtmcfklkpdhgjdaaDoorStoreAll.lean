/-
  The program's store has what the statements ask of it.
-/
import Derived.Test.YtmcfklkpdhgjdaaDoorStoSame
import Derived.Test.YtmcfklkpdhgjdaaDoorStoNames
namespace Go.Proofs.YtmcfklkpdhgjdaaDoor
open Go.RowKit Go.Extern.Stop Go.Stop Go.Extern Go.Sort Go.Shelf Go.Lib

theorem cut_turn {s : St} {n : Int} (h : cutC s n = 0) : (cutS s n).head = s.head ∧ (cutS s n).day = s.day ∧ (cutS s n).off = false ∧ waitsB (cutS s n) = true ∧ leftI (cutS s n) = n ∧ (cutS s n).obs = s.obs ∧ (cutS s n).cut = n := by
  have h0 : ¬ n < 0 := fun e => by unfold cutC at h; rw [if_pos e] at h; cases h
  have h1 : s.off = false := by
    unfold cutC at h
    rw [if_neg h0] at h
    cases ho : s.off with
    | false => rfl
    | true => rw [ho, if_pos rfl] at h; cases h
  have e : cutS s n = { s with cut := n } := by unfold cutS; rw [h]; rfl
  rw [e]
  have hw : waitsB { s with cut := n } = true := by unfold waitsB; dsimp only; rw [h1, decide_eq_true (by omega)]; rfl
  exact ⟨rfl, rfl, h1, hw, by unfold leftI; rw [hw]; rfl, rfl, rfl⟩
theorem on_turn (s : St) : waitsB (onS s) = false ∧ leftI (onS s) = 0 := by
  have hw : waitsB (onS s) = false := by unfold waitsB onS; rfl
  exact ⟨hw, by unfold leftI; rw [hw]; rfl⟩
theorem day_turn (s : St) (d : Int) : waitsB { s with day := d } = waitsB s ∧ leftI { s with day := d } = leftI s := ⟨rfl, rfl⟩

theorem new_fp (N : Nat) : ∀ k, fpS N none (fun _ => 0) newS.obs k → N ≤ k := by
  rintro k (rfl | hk | ⟨o, ho, _⟩)
  · exact Nat.le_refl _
  · cases hk
  · cases ho
theorem storeK (w : World) (a : Nat → Addr) (hE : Errs w a) : StoreK a w.heap.size (EMw w) SAtP where
  below W W' h hb := Below.trans (h : Below w.heap.size w W) hb
  size W h := Below.size (h : Below w.heap.size w W)
  coded W n h hn := coded2_any W a (EMw.errs h hE) n hn
  ptr W v FP s h := by
    obtain ⟨b, mo, q, rfl, rfl, hs⟩ := h
    exact ⟨_, rfl⟩
  lt W v FP s k h hk := by
    obtain ⟨b, mo, q, rfl, rfl, hs⟩ := h
    exact hs.lt hk
  keep W W' v FP P s h hB hP := by
    obtain ⟨b, mo, q, rfl, rfl, hs⟩ := h
    exact ⟨b, mo, q, rfl, rfl, hs.keep hB hP⟩
  new W _ := (snew_any W).mono fun e w' ⟨he, hs, hb⟩ => ⟨_, _, he, ⟨W.heap.size, none, _, rfl, rfl, hs⟩, new_fp W.heap.size, hb⟩
  put W v FP s n t hm h hk hn ht := by
    obtain ⟨b, mo, q, rfl, rfl, hs⟩ := h
    exact sput_any hs hk (EnvO.of (EMw.errs hm hE)) n t hn ht
  get W v FP s n hm h hk hn := by
    obtain ⟨b, mo, q, rfl, rfl, hs⟩ := h
    exact sget_any hs (EnvO.of (EMw.errs hm hE)) n (by unfold maxLen; omega)
  drop W v FP s n hm h hk hn := by
    obtain ⟨b, mo, q, rfl, rfl, hs⟩ := h
    exact sdrop_any hs (EnvO.of (EMw.errs hm hE)) n (by unfold maxLen; omega)
  names W v FP s hm h hk := by
    obtain ⟨b, mo, q, rfl, rfl, hs⟩ := h
    exact snames_any hs hk
  swap W v FP s n t hm h hk hn ht := by
    obtain ⟨b, mo, q, rfl, rfl, hs⟩ := h
    exact sswap_any hs (EnvO.of (EMw.errs hm hE)) n t ht
  head W v FP s hm h hk := by
    obtain ⟨b, mo, q, rfl, rfl, hs⟩ := h
    exact (shead_c hs.block).mono fun e w' ⟨he, hw⟩ => ⟨he, hw ▸ Below.refl _ _⟩
  cut W v FP s z hm h hk hz := by
    obtain ⟨b, mo, q, rfl, rfl, hs⟩ := h
    refine (scut_c hs.block (EnvO.of (EMw.errs hm hE)) z).mono fun e w' ⟨he, hw⟩ => ?_
    have hsame : SPost SAtP W (.pointer (some ⟨b, 0, none⟩)) (fpS b mo q s.obs) s W := spost_of hs (But.refl _ _) fun k hk => Or.inl hk
    by_cases h0 : cutC s z = 0
    · obtain ⟨g1, g2, g3, g4, g5, g6, g7⟩ := cut_turn h0
      have hc : (if z < 0 then 2 else if s.off = true then 12 else 0) = 0 := h0
      have hz0 : ¬ z < 0 := fun e => by rw [if_pos e] at hc; cases hc
      have ho : ¬ s.off = true := fun e => by rw [if_neg hz0, if_pos e] at hc; cases hc
      rw [if_neg hz0, if_neg ho] at hw
      subst hw
      refine ⟨he, spost_turned hs (powW_but W b false true z) ?_ g6 (by rw [g7]; exact hz.2)⟩
      rw [g1, g2, g3, g4, g5]
      exact hs.block.pow false true z
    · have hc : cutS s z = s := by unfold cutS; rw [if_pos h0]
      have hw' : w' = W := by
        by_cases hz0 : z < 0
        · rw [if_pos hz0] at hw; exact hw
        · rw [if_neg hz0] at hw
          by_cases ho : s.off = true
          · rw [if_pos ho] at hw; exact hw
          · exact absurd (show cutC s z = 0 by unfold cutC; rw [if_neg hz0, if_neg ho]) h0
      subst hw'
      rw [hc]
      exact ⟨he, hsame⟩
  on W v FP s hm h hk := by
    obtain ⟨b, mo, q, rfl, rfl, hs⟩ := h
    refine (son_c hs.block).mono fun e w' ⟨he, hw⟩ => ?_
    subst hw
    refine ⟨he, spost_turned hs (powW_but W b false false 0) ?_ rfl (by show (-1 : Int) ≤ _; omega)⟩
    obtain ⟨g1, g2⟩ := on_turn s
    rw [g1, g2]
    exact hs.block.pow false false 0
  power W v FP s hm h hk := by
    obtain ⟨b, mo, q, rfl, rfl, hs⟩ := h
    exact (spower_c hs.block).mono fun e w' ⟨he, hw⟩ => ⟨he, hw ▸ Below.refl _ _⟩
  next W v FP s z hm h hk hz := by
    obtain ⟨b, mo, q, rfl, rfl, hs⟩ := h
    refine (snext_c hs.block (EnvO.of (EMw.errs hm hE)) z hz hk.day0 hk.day1).mono fun e w' hp => ?_
    rcases hp with ⟨hb, he, hw⟩ | ⟨hb, he, hw⟩
    · have hc : nextC s z = 2 := by unfold nextC; rw [if_pos hb]
      have hn : nextS s z = s := by unfold nextS; rw [hc]; rfl
      rw [hc, hn]
      exact ⟨he, spost_of (hs.below hw) (But.of_below hw) fun k hk => Or.inl hk⟩
    · have hc : nextC s z = 0 := by unfold nextC; rw [if_neg hb]
      have hn : nextS s z = { s with day := s.day + z } := by unfold nextS; rw [hc]; rfl
      rw [hc, hn]
      subst hw
      refine ⟨he, spost_turned hs (set_but W b 2 _) ?_ rfl hs.cut⟩
      exact hs.block.day _
  day W v FP s hm h hk := by
    obtain ⟨b, mo, q, rfl, rfl, hs⟩ := h
    exact (sday_c hs.block).mono fun e w' ⟨he, hw⟩ => ⟨he, hw ▸ Below.refl _ _⟩
  copy W v FP s hm h hk := by
    obtain ⟨b, mo, q, rfl, rfl, hs⟩ := h
    refine (scopy_any hs hk).mono fun e w' ⟨b', mb, q', he, hs', hn, hb⟩ => ?_
    exact ⟨_, _, he, ⟨b', some mb, q', rfl, rfl, hs'⟩, hn, hb⟩
  same W v u FP GP s r hm h h' := by
    obtain ⟨b, mo, q, rfl, rfl, hs⟩ := h
    obtain ⟨b', mo', q', rfl, rfl, hs'⟩ := h'
    exact ssame_any hs hs'
  same1 W v FP s hm h := by
    obtain ⟨b, mo, q, rfl, rfl, hs⟩ := h
    exact (ssame1_any W).mono fun e w' ⟨he, hw⟩ => ⟨he, hw ▸ Below.refl _ _⟩
  same0 W hm := (ssame0_any W).mono fun e w' ⟨he, hw⟩ => ⟨he, hw ▸ Below.refl _ _⟩
end Go.Proofs.YtmcfklkpdhgjdaaDoor
