/-
  The contract of meta.Push.
-/
import Derived.Test.YtniipgaacdpncaaGreatDoorMetaCat
import Derived.BigQuiet
namespace Go.Proofs.YtniipgaacdpncaaGreatDoor
open Go.RowKit Go.Extern.Stop Go.Stop Go.Extern Go.Sort Go.Shelf Go.Lib

theorem idsG_snoc (z : Int) : ∀ (zs : List Int) (p : Int) (i : Nat), (idsG p zs i).1 = 0 → (idsG p (zs ++ [z]) i).1 = if idB z = false then 2 else if z ≤ zs.getLastD p then 9 else 0
  | [], p, i, _ => by
    show (idsG p [z] i).1 = if idB z = false then 2 else if z ≤ p then 9 else 0
    unfold idsG
    by_cases h1 : idB z = false
    · rw [if_pos h1, if_pos h1]
    rw [if_neg h1, if_neg h1]
    by_cases h2 : z ≤ p
    · rw [if_pos h2, if_pos h2]
    rw [if_neg h2, if_neg h2]
    rfl
  | y :: r, p, i, h => by
    rw [List.cons_append]
    unfold idsG at h ⊢
    by_cases h1 : idB y = false
    · rw [if_pos h1] at h; cases h
    rw [if_neg h1] at h ⊢
    by_cases h2 : y ≤ p
    · rw [if_pos h2] at h; cases h
    rw [if_neg h2] at h ⊢
    rw [idsG_snoc z r y (i + 1) h, List.getLastD_cons]

theorem push_beh {zs : List Int} {z : Int} (h : (idsE zs).1 = 0) (hl : zs.length ≠ 40) : (idsE (zs ++ [z])).1 = mbehE zs z := by
  have hg := ids_good.1 h
  have h0 : (idsG 0 zs 0).1 = 0 := by
    unfold idsE at h
    rw [if_neg hg.1, if_neg (by omega)] at h
    exact h
  unfold idsE
  rw [if_neg (by simp), if_neg (by rw [List.length_append]; simp; omega)]
  exact idsG_snoc z zs 0 0 h0

theorem push_full {zs : List Int} {z : Int} (hl : zs.length = 40) : (idsE (zs ++ [z])).1 = 8 := by
  unfold idsE
  rw [if_neg (by simp), if_pos (by rw [List.length_append]; simp; omega)]

/-- What one more ends with. -/
def MPushP (w : World) (a : Nat → Addr) (zs : List Int) (E : Nat × Option Nat) (e : Ending) (w' : World) : Prop := ∃ v' ev, e = .returned (.tuple #[v', ev]) ∧ IdsAt w' v' zs ∧ NewV w v' ∧ ToldE w' a ev E ∧ Below w.heap.size w w'

theorem mpush_nil {w W : World} {a : Nat → Addr} {zs : List Int} {E : Nat × Option Nat} {ev : Value} (hz : zs = []) (ht : ToldE W a ev E) (hb : Below w.heap.size w W) : MPushP w a zs E (.returned (.tuple #[.slice none 0 0, ev])) W := by
  subst hz
  exact ⟨_, _, rfl, ⟨Or.inl ⟨none, 0, rfl, rfl⟩, roomV_nil⟩, fun k hk => by simp [Value.ownBlock] at hk, ht, hb⟩

set_option maxRecDepth 100000 in
set_option maxHeartbeats 4000000 in
theorem mpush_any (v : Value) (zs : List Int) (z : Int) (w : World) (a : Nat → Addr) (h : EnvM w a) (hz : IdsAt w v zs) (hl : zs.length ≤ 100) :
    Calls Tryz.prog 15 #[v, .int .i64 z] w fun e w' => MPushP w a (pushI zs z) (pushE zs z) e w' := by
  have hck := mcheck_any v zs w a h hz (by omega)
  by_cases hok : (idsE zs).1 = 0
  case neg =>
    have hE : pushE zs z = idsE zs := by unfold pushE; rw [if_pos hok]
    have HI : Hid (pushI zs z = []) := by show _ = _; unfold pushI; rw [hE, if_neg hok]
    rw [hE]
    generalize pushI zs z = PI at HI ⊢
    generalize idsE zs = R at hck hok ⊢
    clear hE
    go_enter Tryz.func15, Tryz.ntmps15
    go_wp2_with fail
    refine hck.mono ?_
    rintro e w1 ⟨ev, rfl, ht, hb1⟩
    clear hck
    obtain ⟨t, u, rfl⟩ := ht.bad hok
    have HTT : Hid (ToldE w1 a (.iface t u) R) := ht
    clear ht
    go_wp2
    go_ret2
    exact mpush_nil HI.out HTT.out hb1
  case pos =>
  have hfine := ids_fine hok
  rw [hfine] at hck
  have hE : pushE zs z = ((idsE (zs ++ [z])).1, none) := by unfold pushE; rw [if_neg (by simpa using hok)]
  obtain ⟨hne, -⟩ := ids_good.1 hok
  have HEN : Hid (∀ W, Below w.heap.size w W → EnvM W a) := fun W hb => h.below hb
  have HKZ : Hid (∀ W, Below w.heap.size w W → KeysAt W v zs) := fun W hb => hz.1.below hb
  obtain ⟨q, cap, rfl⟩ := hz.1.shape
  obtain ⟨b, o, rfl, hc⟩ := hz.1.at hne
  by_cases h40 : zs.length = 40
  · have hE2 : pushE zs z = (8, none) := by rw [hE, push_full h40]
    have HI : Hid (pushI zs z = []) := by show _ = _; unfold pushI; rw [hE2]; rfl
    rw [hE2]
    generalize pushI zs z = PI at HI ⊢
    rw [h40] at hck ⊢
    clear hE hE2 hfine hok hne hz hc HKZ
    go_enter Tryz.func15, Tryz.ntmps15
    go_wp2_with fail
    refine hck.mono ?_
    rintro e w1 ⟨ev, rfl, ht, hb1⟩
    clear hck
    obtain rfl : ev = .nilIface := ht
    have hfu := (HEN.out w1 hb1).full
    clear h
    go_wp2
    go_quiet (fail)
    go_wp2
    go_ret2
    exact mpush_nil HI.out rfl (below_drewN hb1 nq)
  rw [push_beh hok h40] at hE
  have HPI : Hid (pushI zs z = if mbehE zs z = 0 then zs ++ [z] else []) := by
    show _ = _
    unfold pushI
    rw [hE]
  rw [hE]
  have hbe := fun W (hb : Below w.heap.size w W) => mbehind_any _ zs z W a (HEN.out W hb) (HKZ.out W hb) (by omega)
  have hcat := fun (W : World) (hb : Below w.heap.size w W) => concatZ_any (W.heap.size + 1) [zs, [z]] ((W.alloc (.cells #[.int .i64 z] 3)).alloc (.cells #[.slice (some ⟨b, o, none⟩) zs.length cap, .slice (some ⟨W.heap.size, 0, none⟩) 1 1] 22)) (fun j hj => by
      have hj2 : j < 2 := hj
      have hal : Below W.heap.size W ((W.alloc (.cells #[.int .i64 z] 3)).alloc (.cells #[.slice (some ⟨b, o, none⟩) zs.length cap, .slice (some ⟨W.heap.size, 0, none⟩) 1 1] 22)) := ((Below.refl _ _).alloc (Nat.le_refl _) _).alloc (by simp) _
      match j, hj2 with
      | 0, _ =>
        refine ⟨some ⟨b, o, none⟩, cap, ?_, (HKZ.out W hb).below hal, fun e => by cases e⟩
        have : W.heap.size + 1 = (W.alloc (.cells #[.int .i64 z] 3)).heap.size := by simp
        rw [this, cell_of_row _ _ _ _ _ _ (heap_alloc_new _ _)]
        rfl
      | 1, _ =>
        refine ⟨some ⟨W.heap.size, 0, none⟩, 1, ?_, Or.inr ⟨W.heap.size, 0, 1, rfl, fun k hk => ?_⟩, fun e => by cases e⟩
        · have : W.heap.size + 1 = (W.alloc (.cells #[.int .i64 z] 3)).heap.size := by simp
          rw [this, cell_of_row _ _ _ _ _ _ (heap_alloc_new _ _)]
          rfl
        · have hk0 : k = 0 := by simp at hk; omega
          subst hk0
          have h2 := heap_alloc2_old W (.cells #[.int .i64 z] 3) (.cells #[.slice (some ⟨b, o, none⟩) zs.length cap, .slice (some ⟨W.heap.size, 0, none⟩) 1 1] 22)
          rw [cell_of_row _ _ _ _ _ _ h2]
          rfl) (by simp) (by simp; omega)
  have hfl : ([zs, [z]] : List (List Int)).flatten = zs ++ [z] := by simp
  rw [hfl] at hcat
  obtain ⟨L, hL⟩ : ∃ L, zs.length = L := ⟨_, rfl⟩
  rw [hL] at hl hck h40 hbe hcat ⊢
  have h40' : ((L : Int) == 40) = false := beq_eq_false_iff_ne.2 (by omega)
  have hlc : ([zs, [z]] : List (List Int)).length = 2 := rfl
  rw [hlc] at hcat
  generalize hBE : mbehE zs z = E at hbe HPI ⊢
  have hEv : E = 0 ∨ E ≠ 0 := by omega
  clear hE hfine hok hz hc hne HKZ hL hfl hlc hBE h
  rcases hEv with rfl | hE0
  · have HPI2 : Hid (pushI zs z = zs ++ [z]) := HPI.out
    rw [HPI2.out]
    simp only [errV] at hbe
    clear HPI HPI2
    go_enter Tryz.func15, Tryz.ntmps15
    go_wp2_with fail
    refine hck.mono ?_
    rintro e w1 ⟨ev, rfl, ht, hb1⟩
    clear hck
    obtain rfl : ev = .nilIface := ht
    have hbe1 := hbe w1 hb1
    clear hbe
    go_wp2_with fail
    refine hbe1.mono ?_
    rintro e w2 ⟨rfl, rfl⟩
    clear hbe1
    have hca := hcat w2 hb1
    have hal : Below w2.heap.size w2 ((w2.alloc (.cells #[.int .i64 z] 3)).alloc (.cells #[.slice (some ⟨b, o, none⟩) L cap, .slice (some ⟨w2.heap.size, 0, none⟩) 1 1] 22)) := ((Below.refl _ _).alloc (Nat.le_refl _) _).alloc (by simp) _
    have hB3 := hb1.trans (hal.mono hb1.size)
    clear hcat hal
    go_wp2_with fail
    refine hca.mono ?_
    rintro e w4 ⟨v4, rfl, ho4, hb4⟩
    clear hca
    have HID : Hid (IdsAt w4 v4 (zs ++ [z]) ∧ NewV w v4) := by
      refine ⟨idsAt_of_own ho4, fun k hk => ?_⟩
      obtain ⟨_, _, _, _, _, hk'⟩ := own_form ho4
      exact Nat.le_trans hB3.size (hk' k hk)
    clear ho4
    go_wp2
    go_ret2
    exact ⟨v4, .nilIface, rfl, HID.out.1, HID.out.2, rfl, hB3.trans (hb4.mono hB3.size)⟩
  · have HI : Hid (pushI zs z = []) := by
      show _ = _
      rw [HPI.out, if_neg hE0]
    generalize pushI zs z = PI at HI ⊢
    clear HPI hcat
    obtain ⟨m, rfl⟩ : ∃ m, E = m + 1 := ⟨E - 1, by omega⟩
    have HTT : Hid (∀ W, ToldE W a (.iface 159 (.pointer (some (a m)))) (m + 1, none)) := fun W => rfl
    simp only [errV] at hbe
    go_enter Tryz.func15, Tryz.ntmps15
    go_wp2_with fail
    refine hck.mono ?_
    rintro e w1 ⟨ev, rfl, ht, hb1⟩
    clear hck
    obtain rfl : ev = .nilIface := ht
    have hbe1 := hbe w1 hb1
    clear hbe
    go_wp2_with fail
    refine hbe1.mono ?_
    rintro e w2 ⟨rfl, rfl⟩
    clear hbe1
    go_wp2
    go_ret2
    exact mpush_nil HI.out (HTT.out _) hb1
end Go.Proofs.YtniipgaacdpncaaGreatDoor
