/-
  The contracts of Names of the document's own store, and of the document's own SameTexts.
-/
import Derived.Test.YtmcfklkpdhgjdaaGreatDoorRefStore2
import Derived.Test.YtmcfklkpdhgjdaaGreatDoorRefWords
namespace Go.Proofs.YtmcfklkpdhgjdaaGreatDoor
open Go.RowKit Go.Extern.Stop Go.Stop Go.Extern Go.Sort Go.Shelf Go.Lib

/-- A slice of texts, as it reads (none may point nowhere). -/
def TxsAt (w : World) (v : Value) (ts : List ByteArray) : Prop :=
  (∃ p c, v = .slice p 0 c ∧ ts = []) ∨ ∃ b o cap, v = .slice (some ⟨b, o, none⟩) ts.length cap ∧ ∀ j (h : j < ts.length), w.cell? ⟨b, o + j, none⟩ = some (.string ts[j])
theorem TxsAt.below {w w' : World} {v : Value} {ts : List ByteArray} (h : TxsAt w v ts) (hb : Below w.heap.size w w') : TxsAt w' v ts := by
  rcases h with h | ⟨b, o, cap, hv, hc⟩
  · exact Or.inl h
  · exact Or.inr ⟨b, o, cap, hv, fun j hj => below_keep hb (hc j hj)⟩
theorem TxsAt.form {w : World} {v : Value} {ts : List ByteArray} (h : TxsAt w v ts) : ∃ q c, v = .slice q ts.length c := by
  rcases h with ⟨p, c, rfl, rfl⟩ | ⟨b, o, cap, rfl, _⟩
  · exact ⟨p, c, rfl⟩
  · exact ⟨_, cap, rfl⟩
theorem TxsAt.at {w : World} {q : Option Addr} {n c : Nat} {ts : List ByteArray} (h : TxsAt w (.slice q n c) ts) (hne : ts ≠ []) : ∃ b o, q = some ⟨b, o, none⟩ ∧ ∀ j (h : j < ts.length), w.cell? ⟨b, o + j, none⟩ = some (.string ts[j]) := by
  rcases h with ⟨p, c', _, e⟩ | ⟨b, o, cap, e, hc⟩
  · exact absurd e hne
  · injection e with e1
    exact ⟨b, o, e1, hc⟩
theorem txs_of_own {w : World} {base : Nat} {v : Value} {ts : List ByteArray} (h : w.ownsRow base 9 1 v ts.length (ts.map Value.string)) : TxsAt w v ts := by
  obtain ⟨hl, h⟩ := h
  rcases h with ⟨hv, hn⟩ | ⟨g, cap, cur, rfl, _, hg, hcp, _, _, ht⟩
  · exact Or.inl ⟨none, 0, by rw [hv], List.length_eq_zero_iff.1 hn⟩
  · refine Or.inr ⟨g, 0, cap, rfl, fun j hj => ?_⟩
    have hu : (ts.map Value.string)[j]? = some (.string ts[j]) := by simp [hj]
    rw [← ht, List.getElem?_take, if_pos (by simpa using hj)] at hu
    simp only [World.cell?, hg, Nat.zero_add]
    simpa using hu

theorem ob_take {l : List Ob} {n : Nat} (h : n < l.length) : ((l.take (n + 1)).map (·.1)).map Value.string = ((l.take n).map (·.1)).map Value.string ++ [Value.string l[n].1] := by
  rw [List.take_succ_eq_append_getElem h, List.map_append, List.map_append]
  rfl

set_option maxRecDepth 100000 in
set_option maxHeartbeats 2000000 in
theorem mnames_any (b : Nat) (s : St) (w : World) (h : MAt w b s) (hl : s.obs.length ≤ 1000) :
    Calls Tryz.prog 32 #[.pointer (some ⟨b, 0, none⟩)] w fun e w' => ∃ v', e = .returned v' ∧ TxsAt w' v' (s.obs.map (·.1)) ∧ Below w.heap.size w w' := by
  obtain ⟨i0, hi0, hz0, hs0, hby0⟩ := Tryz.strInfo
  obtain ⟨vL, hm, ho⟩ := h
  obtain ⟨q, cap, rfl⟩ := ho.form
  have HO : Hid (ObsAt w (.slice q s.obs.length cap) s.obs) := ho
  have HM : Hid (MC w b (.slice q s.obs.length cap) s) := hm
  obtain ⟨L, hL⟩ : ∃ L, s.obs.length = L := ⟨_, rfl⟩
  have HX : Hid (s.obs.length = L) := hL
  rw [hL] at hl HM
  clear hL ho hm
  go_enter Tryz.func32, Tryz.ntmps32
  go_wp2
  go_loopw [3, 4] (fun out k wr => ∃ n : Nat, n ≤ L ∧ k = .int .i64 n ∧ Below w.heap.size w wr ∧ wr.ownsRow w.heap.size 9 1 out n (((s.obs.take n).map (·.1)).map Value.string)) (fun _ k _ => L - (intOf k).toNat)
  case atStart => exact ⟨0, by omega, rfl, Below.refl _ _, by simp; exact World.ownsRow_nil _ _ _ _⟩
  case round =>
    obtain ⟨n, hn, rfl, hb, hown⟩ := hrel
    have OW : Hid (wr.ownsRow w.heap.size 9 1 u3 n (((s.obs.take n).map (·.1)).map Value.string)) := hown
    have c0 := (HM.out.below hb).cells.1
    clear hown
    by_cases hlt : n < L
    · have hltx : n < s.obs.length := by rw [HX.out]; exact hlt
      obtain ⟨g, o, hq, hc⟩ := (HO.out.below hb).cells (fun e => by rw [e] at hltx; simp at hltx)
      subst hq
      have c1 := (hc n hltx).1
      have HT : Hid (((s.obs.take (n + 1)).map (·.1)).map Value.string = ((s.obs.take n).map (·.1)).map Value.string ++ [Value.string s.obs[n].1]) := ob_take hltx
      generalize s.obs[n].1 = t at c1 HT
      generalize ((s.obs.take n).map (·.1)).map Value.string = XS at OW HT
      have hi : (n : Int) < (L : Int) := by omega
      have hi0' : (0 : Int) ≤ (n : Int) := by omega
      clear hc hltx
      have hal : Below wr.heap.size wr (wr.alloc (.cells #[.string t] 9)) := (Below.refl _ _).alloc (Nat.le_refl _) _
      have hbA : Below w.heap.size w (wr.alloc (.cells #[.string t] 9)) := hb.alloc hb.size _
      go_wp2_with (at_builtin; refine wpList_append_own _ rfl _ _ 64 rfl w.heap.size 9 i0 (.string ⟨#[]⟩) 1 16 Tryz.underlying64 hi0 hz0 hs0 hby0 rfl (by decide) u3 n XS rfl ?qc0 ⟨wr.heap.size, 0, none⟩ 1 1 [.string t] rfl ?qc1 ?qc2 ?qc3 ?qc4 ?qc5 ?qc6 ?_)
      case qc0 => exact own_below OW.out hal
      case qc1 => rfl
      case qc2 => exact cell_one _ _ _
      case qc3 => intro u hu; simp at hu; subst hu; rfl
      case qc4 => unfold maxLen; omega
      case qc5 => omega
      case qc6 => first | exact hbA.size | (have := hb.size; omega)
      intro v' w4 hown4 hgrow hnil
      have hbC : Below w.heap.size w w4 := hbA.grown hgrow hbA.size (fun k hk => (OW.out.lt k hk).1)
      have OW4 : Hid (w4.ownsRow w.heap.size 9 1 v' (n + 1) (((s.obs.take (n + 1)).map (·.1)).map Value.string)) := by
        show w4.ownsRow _ _ _ _ _ _
        rw [HT.out]; exact hown4
      clear hown4 hnil hgrow
      go_wp2
      go_roundw
      case rel => exact ⟨n + 1, by omega, by go_num, hbC, OW4.out⟩
      case measure => simp [intOf]; omega
    · obtain rfl : n = L := by omega
      have HF : Hid (TxsAt wr u3 (s.obs.map (·.1))) := by
        have h' := OW.out
        rw [List.take_of_length_le (by rw [HX.out]; exact Nat.le_refl _)] at h'
        refine txs_of_own (base := w.heap.size) ?_
        rw [List.length_map, HX.out]
        exact h'
      go_wp2
      go_ret
      exact ⟨u3, rfl, HF.out, hb⟩

set_option maxRecDepth 100000 in
set_option maxHeartbeats 1000000 in
theorem sameTexts_yes (v v' : Value) (ts : List ByteArray) (w : World) (h : TxsAt w v ts) (h' : TxsAt w v' ts) (hl : ts.length ≤ 1000) :
    Calls Tryz.prog 30 #[v, v'] w fun e w' => e = .returned (.bool true) ∧ Below w.heap.size w w' := by
  obtain ⟨q, c, rfl⟩ := h.form
  obtain ⟨q', c', rfl⟩ := h'.form
  have HA : Hid (TxsAt w (.slice q ts.length c) ts) := h
  have HB : Hid (TxsAt w (.slice q' ts.length c') ts) := h'
  obtain ⟨L, hL⟩ : ∃ L, ts.length = L := ⟨_, rfl⟩
  have HX : Hid (ts.length = L) := hL
  rw [hL] at hl ⊢
  clear hL h h'
  go_enter Tryz.func30, Tryz.ntmps30
  go_wp2
  go_loopw [5] (fun k wr => ∃ n : Nat, n ≤ L ∧ k = .int .i64 n ∧ Below w.heap.size w wr) (fun k _ => L - (intOf k).toNat)
  case atStart => exact ⟨0, by omega, rfl, Below.refl _ _⟩
  case round =>
    obtain ⟨n, hn, rfl, hb⟩ := hrel
    by_cases hlt : n < L
    · have hltx : n < ts.length := by rw [HX.out]; exact hlt
      have hne : ts ≠ [] := fun e => by rw [e] at hltx; simp at hltx
      obtain ⟨g, o, hq, hc⟩ := (HA.out.below hb).at hne
      obtain ⟨g', o', hq', hc'⟩ := (HB.out.below hb).at hne
      subst hq
      subst hq'
      have c1 := hc n hltx
      have c2 := hc' n hltx
      generalize ts[n] = t at c1 c2
      have d1 : (t.toList == t.toList) = true := by simp
      have hi : (n : Int) < (L : Int) := by omega
      have hi0' : (0 : Int) ≤ (n : Int) := by omega
      clear hc hc' hltx hne
      go_wp2_with fail
      go_quiet (fail)
      have hbd : Below w.heap.size w (wr.drewN nq) := below_drewN hb nq
      clear c1 c2
      generalize wr.drewN nq = W5 at hbd ⊢
      go_wp2
      go_roundw
      case rel => exact ⟨n + 1, by omega, by go_num, hbd⟩
      case measure => simp [intOf]; omega
    · obtain rfl : n = L := by omega
      go_wp2
      go_ret
      exact ⟨rfl, hb⟩
end Go.Proofs.YtmcfklkpdhgjdaaGreatDoor
