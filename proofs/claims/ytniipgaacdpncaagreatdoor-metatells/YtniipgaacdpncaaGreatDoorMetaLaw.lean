/-
  What the statements on the numbers of snaps ask of the program's functions, in one word; the closed fact of the statements; OwnInts.
-/
import Derived.Test.YtniipgaacdpncaaGreatDoorRefMeta2
import Derived.Test.YtniipgaacdpncaaGreatDoorListLaw
import Derived.Test.YtniipgaacdpncaaGreatDoorGoneWalk
import Derived.Test.YtniipgaacdpncaaGreatDoorMetaPush
namespace Go.Proofs.YtniipgaacdpncaaGreatDoor
open Go.RowKit Go.Extern.Stop Go.Stop Go.Extern Go.Sort Go.Shelf Go.Lib

/-- What the statements ask of the program's functions on numbers of snaps. -/
structure MetaK (a : Nat → Addr) (EM : World → Prop) : Prop where
  below : ∀ W W' : World, EM W → Below W.heap.size W W' → EM W'
  check : ∀ (W : World) (v : Value) (zs : List Int), EM W → IdsAt W v zs → zs.length ≤ 100 → Calls Tryz.prog 9 #[v] W fun e w' => ∃ ev, e = .returned ev ∧ ToldE w' a ev (idsE zs) ∧ Below W.heap.size W w'
  text : ∀ (W : World) (v : Value) (zs : List Int), EM W → IdsAt W v zs → zs.length ≤ 100 → Calls Tryz.prog 6 #[v] W fun e w' => ∃ ev, e = .returned (.tuple #[.string (if (idsE zs).1 = 0 then bytesOf (idsL zs) else ⟨#[]⟩), ev]) ∧ ToldE w' a ev (idsE zs) ∧ Below W.heap.size W w'
  read : ∀ (W : World) (s : ByteArray), EM W → s.size ≤ 10000 → Calls Tryz.prog 11 #[.string s] W fun e w' => ∃ v ev, e = .returned (.tuple #[v, ev]) ∧ KeysAt w' v (readI s.data.toList).1 ∧ ToldE w' a ev (readI s.data.toList).2 ∧ Below W.heap.size W w'
  now : ∀ (W : World) (v : Value) (zs : List Int), EM W → KeysAt W v zs → zs.length ≤ 100 → Calls Tryz.prog 14 #[v] W fun e w' => e = .returned (.int .i64 (zs.getLastD 0)) ∧ Below W.heap.size W w'
  push : ∀ (W : World) (v : Value) (zs : List Int) (z : Int), EM W → IdsAt W v zs → zs.length ≤ 100 → Calls Tryz.prog 15 #[v, .int .i64 z] W fun e w' => ∃ v' ev, e = .returned (.tuple #[v', ev]) ∧ IdsAt w' v' (pushI zs z) ∧ NewV W v' ∧ ToldE w' a ev (pushE zs z) ∧ Below W.heap.size W w'
  keep : ∀ (W : World) (v u : Value) (zs ys : List Int), EM W → IdsAt W v zs → KeysAt W u ys → zs.length ≤ 100 → ys.length ≤ 100 → Calls Tryz.prog 17 #[v, u] W fun e w' => ∃ v' ev, e = .returned (.tuple #[v', ev]) ∧ IdsAt w' v' (keepI zs ys) ∧ NewV W v' ∧ ToldE w' a ev (idsE zs) ∧ Below W.heap.size W w'

theorem on_ids : idsE [1, 5] = (0, none) := by decide
theorem on_5 : itoa 5 = [53] := by
  have h : decDigits 5 = [53] := dig_o 5 (by decide)
  simp [itoa, h]
theorem on_meta : idsL [1, 5] = [109, 101, 116, 97, 32, 49, 32, 53, 10] := by
  simp [idsL, idsT, kMeta, on_1, on_5]

theorem two_at (w : World) : KeysAt (w.alloc (.cells #[.int .i64 1, .int .i64 5] 3)) (.slice (some ⟨w.heap.size, 0, none⟩) 2 2) [1, 5] := by
  refine Or.inr ⟨w.heap.size, 0, 2, rfl, fun j hj => ?_⟩
  have hj2 : j < 2 := hj
  rw [cell_of_row _ _ _ _ _ _ (heap_alloc_new _ _)]
  match j, hj2 with
  | 0, _ => rfl
  | 1, _ => rfl

set_option maxRecDepth 100000 in
set_option maxHeartbeats 2000000 in
theorem noted_any (w : World) (a : Nat → Addr) (EM : World → Prop) (K : MetaK a EM) (h : EM w) :
    Calls Tryz.prog 4 #[] w fun e w' => e = .returned (.bool true) ∧ Below w.heap.size w w' := by
  have hal := fun W : World => ((Below.refl W.heap.size W).alloc (Nat.le_refl _) (.cells #[.int .i64 1, .int .i64 5] 3))
  have ht := K.text _ _ [1, 5] (K.below _ _ h (hal w)) ⟨two_at w, fun q l c e => by injection e with _ e1 e2; omega⟩ (by decide)
  rw [on_ids, if_pos rfl, on_meta] at ht
  have eb : bytesOf [109, 101, 116, 97, 32, 49, 32, 53, 10] = ⟨#[109, 101, 116, 97, 32, 49, 32, 53, 10]⟩ := rfl
  rw [eb] at ht
  have hn := fun W (hb : Below w.heap.size w W) => K.now _ _ [1, 5] (K.below _ _ h (hb.trans ((hal W).mono hb.size))) (two_at W) (by decide)
  have hB0 := hal w
  clear eb
  go_enter Tryz.func4, Tryz.ntmps4
  go_wp2_with fail
  generalize w.alloc (.cells #[.int .i64 1, .int .i64 5] 3) = WA at ht hB0 ⊢
  refine ht.mono ?_
  rintro e w1 ⟨ev, rfl, he, hb1⟩
  clear ht
  obtain rfl : ev = .nilIface := he
  have hB1 : Below w.heap.size w w1 := hB0.trans (hb1.mono hB0.size)
  have hn1 := hn w1 hB1
  have hB2 : Below w.heap.size w (w1.alloc (.cells #[.int .i64 1, .int .i64 5] 3)) := hB1.trans ((hal w1).mono hB1.size)
  clear hn hal
  go_wp2_with fail
  refine hn1.mono ?_
  rintro e w3 ⟨rfl, hb3⟩
  clear hn1
  have hB3 : Below w.heap.size w w3 := hB2.trans (hb3.mono hB2.size)
  simp only [List.getLastD]
  go_wp2
  go_ret
  exact ⟨rfl, hB3⟩

set_option maxRecDepth 100000 in
set_option maxHeartbeats 2000000 in
theorem ownInts2_any (q : Option Addr) (c : Nat) (zs : List Int) (w : World) (hz : KeysAt w (.slice q zs.length c) zs) (hq : q = none → c = 0) (hl : zs.length ≤ 1000) :
    Calls Tryz.prog 7 #[.slice q zs.length c] w fun e w' => ∃ v', e = .returned v' ∧ w'.ownsRow w.heap.size 3 1 v' zs.length (zs.map encZ) ∧ Below w.heap.size w w' := by
  obtain ⟨i0, hi0, hz0, hs0, hby0⟩ := Tryz.numInfo
  have HSR : Hid (Src w q zs.length c (zs.map (Value.int .i64))) := src_keys hz hq
  obtain ⟨L, hL⟩ : ∃ L, zs.length = L := ⟨_, rfl⟩
  have HX : Hid (zs.length = L) := hL
  rw [hL] at hl ⊢
  clear hL hz hq
  go_enter Tryz.func7, Tryz.ntmps7
  go_wp2_with (at_builtin; (refine wpList_append_src rfl _ _ 22 rfl w.heap.size 3 i0 (.int .i64 0) 1 8 Tryz.underlying22 hi0 hz0 hs0 hby0 rfl (by decide) (.slice none 0 0) 0 [] rfl (World.ownsRow_nil _ _ _ _) q L c (zs.map encZ) rfl ?qf1 ?qf2 ?qf3 ?qf4 ?qf5 ?qf6 ?_))
  any_goals first
    | (intro u hu; obtain ⟨x, _, rfl⟩ := List.mem_map.1 hu; rfl)
    | (rw [List.length_map, HX.out]; simp)
    | (have h' := HSR.out; rw [HX.out] at h'; exact h')
    | (unfold maxLen; omega)
    | omega
    | exact Nat.le_refl _
  intro v3 w3 ho3 hg3 _
  have hb3 : Below w.heap.size w w3 := (Below.refl _ _).grown hg3 (Nat.le_refl _) (fun k hk => by simp [Value.ownBlock] at hk)
  have OW : Hid (w3.ownsRow w.heap.size 3 1 v3 L (zs.map encZ)) := by
    show w3.ownsRow _ _ _ _ _ _
    simpa using ho3
  clear ho3 hg3
  go_wp2
  go_ret
  exact ⟨v3, rfl, OW.out, hb3⟩
end Go.Proofs.YtniipgaacdpncaaGreatDoor
