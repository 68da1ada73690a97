/-
  The contracts of meta.Now, behind and Check.
-/
import Derived.Test.YtniipgaacdpncaaGreatDoorRefMeta
import Derived.Test.YtniipgaacdpncaaGreatDoorListTold
import Derived.Test.YtniipgaacdpncaaGreatDoorMetaEnv
namespace Go.Proofs.YtniipgaacdpncaaGreatDoor
open Go.RowKit Go.Extern.Stop Go.Stop Go.Extern Go.Sort Go.Shelf Go.Lib

/-- A list of numbers of snaps that has room for what it has. -/
def RoomV (v : Value) : Prop := ∀ q l c, v = .slice q l c → l ≤ c
def IdsAt (w : World) (v : Value) (zs : List Int) : Prop := KeysAt w v zs ∧ RoomV v
theorem IdsAt.below {w w' : World} {v : Value} {zs : List Int} (h : IdsAt w v zs) (hb : Below w.heap.size w w') : IdsAt w' v zs := ⟨h.1.below hb, h.2⟩
/-- A list that is newer than a world. -/
def NewV (w : World) (v : Value) : Prop := ∀ k, v.ownBlock = some k → w.heap.size ≤ k
theorem roomV_nil : RoomV (.slice none 0 0) := fun q l c e => by injection e with _ e1 e2; omega

theorem lastZ {zs : List Int} {k : Nat} (hk : zs.length = k + 1) (hkk : k < zs.length) : zs.getLastD 0 = zs[k] := by
  have hne : zs ≠ [] := fun e => by rw [e] at hk; simp at hk
  rw [List.getLastD_eq_getLast?, List.getLast?_eq_some_getLast hne, Option.getD_some, List.getLast_eq_getElem]
  congr 1
  omega

theorem aheadL {zs : List Int} {n : Nat} (hn : n ≤ zs.length) : (zs.take n).getLastD 0 = aheadZ zs n := by
  cases n with
  | zero => rfl
  | succ m =>
    have hm : m < zs.length := by omega
    have hl : (zs.take (m + 1)).length = m + 1 := by rw [List.length_take]; omega
    rw [lastZ hl (by omega), List.getElem_take]
    simp [aheadZ, List.getD, hm]

theorem keysAt_take {w : World} {b o n cap : Nat} {zs : List Int} (hc : ∀ j (h : j < zs.length), w.cell? ⟨b, o + j, none⟩ = some (.int .i64 zs[j])) (hn : n ≤ zs.length) : KeysAt w (.slice (some ⟨b, o, none⟩) n cap) (zs.take n) := by
  have hl : (zs.take n).length = n := by rw [List.length_take]; omega
  refine Or.inr ⟨b, o, cap, by rw [hl], fun j hj => ?_⟩
  rw [List.getElem_take]
  exact hc j (by omega)

set_option maxRecDepth 100000 in
set_option maxHeartbeats 2000000 in
theorem mnow_any (v : Value) (zs : List Int) (w : World) (hz : KeysAt w v zs) (hl : zs.length ≤ 100000) :
    Calls Tryz.prog 14 #[v] w fun e w' => e = .returned (.int .i64 (zs.getLastD 0)) ∧ w' = w := by
  obtain ⟨q, cap, rfl⟩ := hz.shape
  by_cases hne : zs = []
  · subst hne
    simp only [List.length_nil, List.getLastD_nil]
    clear hz hl
    go_enter Tryz.func14, Tryz.ntmps14
    go_wp2
    go_ret
    exact ⟨rfl, rfl⟩
  · obtain ⟨b, o, rfl, hc⟩ := hz.at hne
    obtain ⟨k, hk⟩ : ∃ k, zs.length = k + 1 := ⟨zs.length - 1, by have := List.length_pos_iff.2 hne; omega⟩
    have hkk : k < zs.length := by omega
    have ck := hc k hkk
    rw [lastZ hk hkk, hk]
    have hk5 : k ≤ 100000 := by omega
    clear hc hz hne hl
    generalize zs[k] = z at ck ⊢
    clear hkk hk
    have h0 : (((k + 1 : Nat) : Int) == 0) = false := beq_eq_false_iff_ne.2 (by omega)
    have hw : IntKind.i64.wrap (((k + 1 : Nat) : Int) - 1) = (k : Int) := by rw [IntWalk.i64_in _ (by omega)]; omega
    have hi1 : (k : Int) < ((k + 1 : Nat) : Int) := by omega
    have hi2 : (0 : Int) ≤ (k : Int) := by omega
    obtain ⟨K, hK⟩ : ∃ K, k + 1 = K := ⟨_, rfl⟩
    rw [hK] at h0 hw hi1 ⊢
    clear hK
    go_enter Tryz.func14, Tryz.ntmps14
    go_wp2
    go_ret
    exact ⟨rfl, rfl⟩

/-- What a number is told that stands behind others. -/
def mbehE (zs : List Int) (z : Int) : Nat := if idB z = false then 2 else if z ≤ zs.getLastD 0 then 9 else 0

set_option maxRecDepth 100000 in
set_option maxHeartbeats 2000000 in
theorem mbehind_any (v : Value) (zs : List Int) (z : Int) (w : World) (a : Nat → Addr) (h : EnvM w a) (hz : KeysAt w v zs) (hl : zs.length ≤ 100000) :
    Calls Tryz.prog 24 #[v, .int .i64 z] w fun e w' => e = .returned (errV a (mbehE zs z)) ∧ w' = w := by
  have hno := mnow_any v zs w hz hl
  obtain ⟨q, cap, rfl⟩ := hz.shape
  have hbo := h.bound
  have hor := h.order
  by_cases h1 : z < 1
  · have hE : mbehE zs z = 2 := by
      unfold mbehE
      rw [if_pos]
      simp only [idB, Bool.and_eq_false_iff, decide_eq_false_iff_not]
      omega
    rw [hE]
    simp only [errV]
    clear hno hE
    go_enter Tryz.func24, Tryz.ntmps24
    go_wp2
    go_ret
    exact ⟨rfl, rfl⟩
  by_cases h2 : 1073741824 < z
  · have hE : mbehE zs z = 2 := by
      unfold mbehE
      rw [if_pos]
      simp only [idB, Bool.and_eq_false_iff, decide_eq_false_iff_not]
      omega
    rw [hE]
    simp only [errV]
    clear hno hE
    go_enter Tryz.func24, Tryz.ntmps24
    go_wp2
    go_ret
    exact ⟨rfl, rfl⟩
  have hE : mbehE zs z = if z ≤ zs.getLastD 0 then 9 else 0 := by
    unfold mbehE
    rw [if_neg]
    rw [Bool.not_eq_false]
    exact idB_iff.2 ⟨by omega, by omega⟩
  rw [hE]
  clear hE hz
  generalize zs.getLastD 0 = last at hno ⊢
  by_cases h3 : z ≤ last
  · rw [if_pos h3]
    simp only [errV]
    go_enter Tryz.func24, Tryz.ntmps24
    go_wp2_with fail
    refine hno.mono ?_
    rintro e w1 ⟨rfl, rfl⟩
    clear hno
    go_wp2
    go_ret
    exact ⟨rfl, rfl⟩
  · rw [if_neg h3]
    simp only [errV]
    go_enter Tryz.func24, Tryz.ntmps24
    go_wp2_with fail
    refine hno.mono ?_
    rintro e w1 ⟨rfl, rfl⟩
    clear hno
    go_wp2
    go_ret
    exact ⟨rfl, rfl⟩

set_option maxRecDepth 100000 in
set_option maxHeartbeats 4000000 in
theorem mcheck_any (v : Value) (zs : List Int) (w : World) (a : Nat → Addr) (h : EnvM w a) (hz : IdsAt w v zs) (hl : zs.length ≤ 100000) :
    Calls Tryz.prog 9 #[v] w fun e w' => ∃ ev, e = .returned ev ∧ ToldE w' a ev (idsE zs) ∧ Below w.heap.size w w' := by
  obtain ⟨hz, hrm⟩ := hz
  obtain ⟨q, cap, rfl⟩ := hz.shape
  have hcap := hrm q zs.length cap rfl
  clear hrm
  by_cases hne : zs = []
  · subst hne
    have hE : idsE ([] : List Int) = (6, none) := rfl
    rw [hE]
    have hm := h.miss
    simp only [List.length_nil]
    clear hz hl hcap
    go_enter Tryz.func9, Tryz.ntmps9
    go_wp2
    go_ret
    exact ⟨_, rfl, rfl, Below.refl _ _⟩
  obtain ⟨b, o, rfl, hc⟩ := hz.at hne
  have hpos := List.length_pos_iff.2 hne
  by_cases hbig : 40 < zs.length
  · have hE : idsE zs = (8, none) := by unfold idsE; rw [if_neg hne, if_pos hbig]
    rw [hE]
    have hm := h.full
    clear hz hc hE hne
    generalize zs.length = L at hl hcap hpos hbig ⊢
    have h0 : ((L : Int) == 0) = false := beq_eq_false_iff_ne.2 (by omega)
    have hi : (40 : Int) < (L : Int) := by omega
    go_enter Tryz.func9, Tryz.ntmps9
    go_wp2
    go_ret
    exact ⟨_, rfl, rfl, Below.refl _ _⟩
  have HE : Hid (idsE zs = idsG 0 zs 0) := by
    show _ = _
    unfold idsE; rw [if_neg hne, if_neg hbig]
  have HC : Hid (∀ j (h : j < zs.length), w.cell? ⟨b, o + j, none⟩ = some (.int .i64 zs[j])) := hc
  have HEN : Hid (EnvM w a) := h
  obtain ⟨R, hR⟩ : ∃ R, idsE zs = R := ⟨_, rfl⟩
  rw [hR] at HE ⊢
  obtain ⟨L, hL⟩ : ∃ L, zs.length = L := ⟨_, rfl⟩
  have HX : Hid (zs.length = L) := hL
  rw [hL] at hl hcap hpos hbig ⊢
  clear hL hz hc hne hR h
  have h0 : ((L : Int) == 0) = false := beq_eq_false_iff_ne.2 (by omega)
  have hi : ¬ (40 : Int) < (L : Int) := by omega
  go_enter Tryz.func9, Tryz.ntmps9
  go_wp2
  go_loopw [16] (fun k wr => ∃ n : Nat, n ≤ L ∧ k = .int .i64 n ∧ IdLeft zs n ∧ wr = w) (fun k _ => L - (intOf k).toNat)
  case atStart => exact ⟨0, by omega, rfl, idL_zero zs, rfl⟩
  case round =>
    obtain ⟨n, hn, rfl, hlf, rfl⟩ := hrel
    have HLF : Hid (IdLeft zs n) := hlf
    clear hlf
    by_cases hlt : n < L
    · have hltx : n < zs.length := by rw [HX.out]; exact hlt
      have c0 := HC.out n hltx
      have hbe := mbehind_any (.slice (some ⟨b, o, none⟩) n cap) (zs.take n) zs[n] wr a HEN.out (keysAt_take HC.out (by omega)) (by rw [List.length_take]; omega)
      unfold mbehE at hbe
      rw [aheadL (by omega)] at hbe
      have hbd := fun e => idL_bound HLF.out hltx e
      have hod := fun e o => idL_order HLF.out hltx e o
      have hnx := fun e o => idL_succ HLF.out hltx e o
      generalize aheadZ zs n = Y at hbe hod hnx
      generalize zs[n] = z at c0 hbe hbd hod hnx
      have hiL : (n : Int) < (L : Int) := by omega
      have hi0' : (0 : Int) ≤ (n : Int) := by omega
      have hic : (n : Int) ≤ (cap : Int) := by omega
      clear hltx
      cases hB : idB z
      · rw [if_pos hB] at hbe
        have HR : Hid (R = (2, some n)) := by show _ = _; rw [HE.out]; exact hbd hB
        simp only [errV] at hbe
        have hal : Below wr.heap.size wr (wr.alloc (.cells #[.int .i64 n, .iface 159 (.pointer (some (a 1)))] 60)) := (Below.refl _ _).alloc (Nat.le_refl _) _
        clear hbd hod hnx hB
        go_wp2_with fail
        refine hbe.mono ?_
        rintro e w1 ⟨rfl, rfl⟩
        clear hbe c0
        go_wp2
        go_ret
        refine ⟨_, rfl, ?_, hal⟩
        rw [HR.out]
        exact ⟨by simp, w1.heap.size, rfl, by simp, by simp [errV]⟩
      · rw [if_neg (by rw [hB]; simp)] at hbe
        replace hod := hod hB
        replace hnx := hnx hB
        clear hbd hB
        by_cases ho : z ≤ Y
        · rw [if_pos ho] at hbe
          have HR : Hid (R = (9, some n)) := by show _ = _; rw [HE.out]; exact hod ho
          simp only [errV] at hbe
          have hal : Below wr.heap.size wr (wr.alloc (.cells #[.int .i64 n, .iface 159 (.pointer (some (a 8)))] 60)) := (Below.refl _ _).alloc (Nat.le_refl _) _
          clear hod hnx ho
          go_wp2_with fail
          refine hbe.mono ?_
          rintro e w1 ⟨rfl, rfl⟩
          clear hbe c0
          go_wp2
          go_ret
          refine ⟨_, rfl, ?_, hal⟩
          rw [HR.out]
          exact ⟨by simp, w1.heap.size, rfl, by simp, by simp [errV]⟩
        · rw [if_neg ho] at hbe
          have HNX : Hid (IdLeft zs (n + 1)) := hnx ho
          simp only [errV] at hbe
          clear hod hnx ho
          go_wp2_with fail
          refine hbe.mono ?_
          rintro e w1 ⟨rfl, rfl⟩
          clear hbe c0
          go_wp2
          go_roundw
          case rel => exact ⟨n + 1, by omega, by go_num, HNX.out, by first | trivial | rfl⟩
          case measure => simp [intOf]; omega
    · obtain rfl : n = L := by omega
      have HR : Hid (R = (0, none)) := by
        show _ = _
        rw [HE.out]
        have h' := HLF.out
        rw [← HX.out] at h'
        exact idL_all h'
      go_wp2
      go_ret
      refine ⟨_, rfl, ?_, Below.refl _ _⟩
      rw [HR.out]
      rfl
end Go.Proofs.YtniipgaacdpncaaGreatDoor
