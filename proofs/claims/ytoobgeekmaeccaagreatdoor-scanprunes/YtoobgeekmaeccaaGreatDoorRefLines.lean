/-
  The contract of data.Make: too many rows; a row that is none; a file.
  The contract of the document's own DataOf.
  The contracts of the document's own Cut, by any byte, and of NumbersOf, of any texts.
-/
import Derived.Test.YtoobgeekmaeccaaGreatDoorDataLines
import Derived.BigQuiet
import Derived.Test.YtoobgeekmaeccaaGreatDoorRefIns
import Derived.Test.YtoobgeekmaeccaaGreatDoorLinePure
namespace Go.Proofs.YtoobgeekmaeccaaGreatDoor
open Go.RowKit Go.Extern.Stop Go.Stop Go.Extern Go.Sort Go.Shelf Go.Lib

structure EnvD (w : World) (a : Nat → Addr) : Prop where
  env : Env w a
  shape : w.cell? ⟨0, 0, none⟩ = some (.iface 327 (.pointer (some (a 2))))
  full : w.cell? ⟨1, 0, none⟩ = some (.iface 327 (.pointer (some (a 7))))
  order : w.cell? ⟨4, 0, none⟩ = some (.iface 327 (.pointer (some (a 8))))
  sum : w.cell? ⟨9, 0, none⟩ = some (.iface 327 (.pointer (some (a 9))))

theorem EnvD.below {w w' : World} {a : Nat → Addr} (h : EnvD w a) (hb : Below w.heap.size w w') : EnvD w' a :=
  ⟨h.env.below hb, below_keep hb h.shape, below_keep hb h.full, below_keep hb h.order, below_keep hb h.sum⟩

structure EnvD0 (w : World) (a : Nat → Addr) : Prop where
  env : Env0 w a
  shape : w.cell? ⟨0, 0, none⟩ = some (.iface 327 (.pointer (some (a 2))))
  full : w.cell? ⟨1, 0, none⟩ = some (.iface 327 (.pointer (some (a 7))))
  order : w.cell? ⟨4, 0, none⟩ = some (.iface 327 (.pointer (some (a 8))))
  sum : w.cell? ⟨9, 0, none⟩ = some (.iface 327 (.pointer (some (a 9))))

theorem EnvD0.below {w w' : World} {a : Nat → Addr} (h : EnvD0 w a) (hb : Below w.heap.size w w') : EnvD0 w' a :=
  ⟨h.env.below hb, below_keep hb h.shape, below_keep hb h.full, below_keep hb h.order, below_keep hb h.sum⟩

theorem EnvD.weak {w : World} {a : Nat → Addr} (h : EnvD w a) : EnvD0 w a := ⟨h.env.weak, h.shape, h.full, h.order, h.sum⟩

theorem keys_perm {xs ys : List Rw} (h : xs.Perm ys) : endsZ (keysR xs) = endsZ (keysR ys) := ends_perm (h.map _)

theorem sort_ok {xs : List Rw} (h : ∀ x ∈ xs, rowE x = 0) : ∀ x ∈ sortR xs, rowE x = 0 := fun x hx => h x ((sortR_perm xs).mem_iff.1 hx)

set_option maxRecDepth 100000 in
set_option maxHeartbeats 4000000 in
theorem make_any (q : Option Addr) (cap : Nat) (xs : List Rw) (w : World) (a : Nat → Addr) (h : EnvD w a) (hx : RowsAt w (.slice q xs.length cap) xs) (hl : xs.length ≤ 40) (hp : ∀ x ∈ xs, x.1.size ≤ 30)
    (m : Nat) (hm : m ≤ xs.length) (hgood : ∀ i (h : i < xs.length), i < m → rowE xs[i] = 0) (hend : ∀ (h : m < xs.length), rowE xs[m] ≠ 0) :
    Calls Tryz.prog 72 #[.slice q xs.length cap] w fun e w' => (m = xs.length ∧ e = .returned (.tuple #[.string (bytesOf (fileOf (sortR xs))), .nilIface]) ∧ Below w.heap.size w w') ∨
      (∃ h : m < xs.length, ∃ fb, e = .returned (.tuple #[.string ⟨#[]⟩, .iface 92 (.pointer (some ⟨fb, 0, none⟩))]) ∧ w'.cell? ⟨fb, 0, none⟩ = some (.int .i64 m) ∧ w'.cell? ⟨fb, 1, none⟩ = some (errV a (rowE xs[m])) ∧ Below w.heap.size w w') := by
  obtain ⟨L, hL⟩ : ∃ L, xs.length = L := ⟨_, rfl⟩
  have HX : Hid (xs.length = L) := hL
  have HGOOD : Hid (∀ i (h : i < xs.length), i < m → rowE xs[i] = 0) := hgood
  have HEND : Hid (∀ (h : m < xs.length), rowE xs[m] ≠ 0) := hend
  rw [hL] at hx hl hm
  have harg : (Value.slice q xs.length cap) = .slice q L cap := by rw [hL]
  rw [harg]
  clear hL hgood hend harg
  have hi40 : ¬ (40 : Int) < (L : Int) := by omega
  go_enter Tryz.func72, Tryz.ntmps72
  go_wp2
  go_loopw [13] (fun k wr => ∃ n : Nat, n ≤ m ∧ k = .int .i64 n ∧ Below w.heap.size w wr) (fun k _ => L - (intOf k).toNat)
  case atStart => exact ⟨0, by omega, rfl, Below.refl _ _⟩
  case round =>
    obtain ⟨n, hn, rfl, hb⟩ := hrel
    by_cases hlt : n < L
    · have hltx : n < xs.length := by rw [HX.out]; exact hlt
      have hrows := hx.below hb
      rcases hrows with ⟨_, _, e, e'⟩ | ⟨b, o, cap2, e, hcells⟩
      · exfalso; have := HX.out; rw [e'] at this; simp at this; omega
      injection e with e1 e2 e3
      subst e1
      clear e2 e3
      obtain ⟨c1, c2, c3⟩ := hcells n hltx
      clear hcells
      have hi : (n : Int) < (L : Int) := by omega
      have hrp := hp _ (List.getElem_mem hltx)
      have hck := fun W (hW : Env W a) => check_any xs[n] W a hW (by unfold maxLen; omega)
      by_cases hnm : n < m
      · have hrok := HGOOD.out n hltx hnm
        rw [hrok] at hck
        simp only [errV] at hck
        generalize xs[n] = x at c1 c2 c3 hck
        obtain ⟨xp, xk, xv⟩ := x
        dsimp only at c1 c2 c3 hck
        have hal : Below wr.heap.size wr (wr.alloc (.cells #[.string xp, .int .i64 xk, .int .i64 xv] 54)) := (Below.refl _ _).alloc (Nat.le_refl _) _
        have hb2 : Below w.heap.size w (wr.alloc (.cells #[.string xp, .int .i64 xk, .int .i64 xv] 54)) := hb.trans (hal.mono hb.size)
        have hck2 := hck _ (h.env.below hb2)
        clear hck
        go_wp2_with fail
        refine hck2.mono ?_
        rintro e w3 ⟨rfl, hb3⟩
        clear hck2 c1 c2 c3
        have hb4 : Below w.heap.size w w3 := hb2.trans (hb3.mono hb2.size)
        go_wp2
        go_roundw
        case rel => exact ⟨n + 1, by omega, by go_num, hb4⟩
        case measure => simp [intOf]; omega
      · obtain rfl : n = m := by omega
        have hE := HEND.out hltx
        obtain ⟨E, hEE⟩ : ∃ E, rowE xs[n] = E + 1 := ⟨rowE xs[n] - 1, by omega⟩
        have HEE : Hid (rowE xs[n] = E + 1) := hEE
        rw [hEE] at hck
        simp only [errV] at hck
        clear hEE hE hrp
        generalize xs[n].1 = xp at c1 hck
        generalize xs[n].2.1 = xk at c2 hck
        generalize xs[n].2.2 = xv at c3 hck
        have hal : Below wr.heap.size wr (wr.alloc (.cells #[.string xp, .int .i64 xk, .int .i64 xv] 54)) := (Below.refl _ _).alloc (Nat.le_refl _) _
        have hb2 : Below w.heap.size w (wr.alloc (.cells #[.string xp, .int .i64 xk, .int .i64 xv] 54)) := hb.trans (hal.mono hb.size)
        have hck2 := hck _ (h.env.below hb2)
        clear hck
        go_wp2_with fail
        refine hck2.mono ?_
        rintro e w3 ⟨rfl, hb3⟩
        clear hck2 c1 c2 c3
        have hb4 : Below w.heap.size w w3 := hb2.trans (hb3.mono hb2.size)
        have hb5 : Below w.heap.size w (w3.alloc (.cells #[.int .i64 n, .iface 327 (.pointer (some (a E)))] 94)) := hb4.alloc hb4.size _
        go_wp2
        go_ret2
        exact Or.inr ⟨hltx, w3.heap.size, rfl, by simp, by rw [HEE.out]; simp [errV], hb5⟩
    · have hnm : n = m := by omega
      have hmL : m = L := by omega
      subst hnm
      have hall : ∀ x ∈ xs, rowE x = 0 := fun x hxm => by
        obtain ⟨i, hi, e⟩ := List.mem_iff_getElem.1 hxm
        rw [← e]
        exact HGOOD.out i hi (by rw [hmL, ← HX.out]; exact hi)
      have hsr := sort_any (.slice q L cap) xs wr (hx.below hb) (by rw [HX.out]; omega)
      clear hlt
      go_wp2_with fail
      refine hsr.mono ?_
      rintro e w1 ⟨v1, rfl, hv1, hb1⟩
      clear hsr
      have hB1 : Below w.heap.size w w1 := hb.trans (hb1.mono hb.size)
      have hsok := sort_ok hall
      have hwl := writeRows_any ⟨#[100, 97, 116, 97]⟩ (by decide) v1 (sortR xs) w1 a (h.env.below hB1) hv1 (by rw [sortR_len, HX.out]; omega) hsok
      have HF : Hid (bytesOf (headL (⟨#[100, 97, 116, 97]⟩ : ByteArray).data.toList (sortR xs).length (endsZ (keysR (sortR xs))).1 (endsZ (keysR (sortR xs))).2 (sumL (linesL (sortR xs))) ++ 10 :: linesL (sortR xs)) = bytesOf (fileOf (sortR xs))) := rfl
      rw [HF.out] at hwl
      obtain ⟨q1, cap1, rfl⟩ := hv1.form
      clear hsok hv1 hall HF
      obtain ⟨fB, hfB⟩ : ∃ fB, bytesOf (fileOf (sortR xs)) = fB := ⟨_, rfl⟩
      have HFB : Hid (bytesOf (fileOf (sortR xs)) = fB) := hfB
      rw [hfB] at hwl
      clear hfB
      generalize (sortR xs).length = L1 at hwl ⊢
      go_wp2_with fail
      refine hwl.mono ?_
      rintro e w2 ⟨rfl, hb2⟩
      clear hwl
      go_wp2
      go_ret2
      exact Or.inl ⟨hmL.trans HX.out.symm, by rw [HFB.out]; rfl, hB1.trans (hb2.mono hB1.size)⟩
end Go.Proofs.YtoobgeekmaeccaaGreatDoor
namespace Go.Proofs.YtoobgeekmaeccaaGreatDoor
open Go.RowKit Go.Extern.Stop Go.Stop Go.Extern Go.Sort Go.Shelf Go.Lib

theorem fine_of (w : World) : Calls Tryz.prog 57 #[] w fun e w' => e = .returned (.agg #[.int .i64 0, .int .i64 (-1)]) ∧ Below w.heap.size w w' := by
  go_enter Tryz.func57, Tryz.ntmps57
  go_wp2
  refine bodyPost_ret (v := .agg #[.int .i64 0, .int .i64 (-1)]) (by simp [results, Tryz.results57, go_sem]) rfl ⟨rfl, ?_⟩
  exact (Below.refl _ _).alloc (Nat.le_refl _) _

theorem bare_of (n : Int) (w : World) : Calls Tryz.prog 74 #[.int .i64 n] w fun e w' => e = .returned (.agg #[.int .i64 n, .int .i64 (-1)]) ∧ Below w.heap.size w w' := by
  go_enter Tryz.func74, Tryz.ntmps74
  go_wp2
  refine bodyPost_ret (v := .agg #[.int .i64 n, .int .i64 (-1)]) (by simp [results, Tryz.results74, go_sem]) rfl ⟨rfl, ?_⟩
  exact (Below.refl _ _).alloc (Nat.le_refl _) _

def FC (W : World) (F : Nat) (x y : Int) : Prop := W.heap[F]? = some (.cells #[.int .i64 x, .int .i64 y] 46 (0, 0))
theorem FC.lt {W : World} {F : Nat} {x y : Int} (h : FC W F x y) : F < W.heap.size := lt_of_block h
theorem FC.below {W W' : World} {F : Nat} {x y : Int} (h : FC W F x y) (hb : Below W.heap.size W W') : FC W' F x y := (hb.block F h.lt).trans h
theorem FC.c0 {W : World} {F : Nat} {x y : Int} (h : FC W F x y) : W.cell? ⟨F, 0, none⟩ = some (.int .i64 x) := by rw [cell_of_row _ _ _ _ _ _ h]; rfl
theorem FC.c1 {W : World} {F : Nat} {x y : Int} (h : FC W F x y) : W.cell? ⟨F, 1, none⟩ = some (.int .i64 y) := by rw [cell_of_row _ _ _ _ _ _ h]; rfl
theorem FC.fz {W : World} {F : Nat} {x y : Int} (h : FC W F x y) (o : Nat) : W.frozen? ⟨F, o, none⟩ = false := frozen_of_row _ _ _ _ _ h
theorem FC.new (w : World) : FC (w.alloc (.cells #[.int .i64 0, .int .i64 0] 46)) w.heap.size 0 0 := heap_alloc_new _ _
theorem FC.set {W : World} {F : Nat} {x y : Int} (h : FC W F x y) (a b : Int) : FC ((W.setCell ⟨F, 0, none⟩ (.int .i64 a)).setCell ⟨F, 1, none⟩ (.int .i64 b)) F a b := by
  have h1 : (W.setCell ⟨F, 0, none⟩ (.int .i64 a)).heap[F]? = some (.cells #[.int .i64 a, .int .i64 y] 46 (0, 0)) := by
    rw [heap_setCell_same _ _ _ _ _ _ h]; rfl
  show _ = _
  rw [heap_setCell_same _ _ _ _ _ _ h1]; rfl

set_option maxRecDepth 100000 in
set_option maxHeartbeats 2000000 in
theorem dataOf_full (q : Option Addr) (n cap : Nat) (w : World) (hn : 40 < n) (hl : n ≤ maxLen) :
    Calls Tryz.prog 33 #[.slice q n cap] w fun e w' => e = .returned (.tuple #[.string ⟨#[]⟩, .agg #[.int .i64 8, .int .i64 (-1)]]) ∧ Below w.heap.size w w' := by
  unfold maxLen at hl
  have hi : (40 : Int) < (n : Int) := by omega
  have hf0 := FC.new w
  have hbr := fun W => bare_of 8 W
  have hal : Below w.heap.size w (w.alloc (.cells #[.int .i64 0, .int .i64 0] 46)) := (Below.refl _ _).alloc (Nat.le_refl _) _
  go_enter Tryz.func33, Tryz.ntmps33
  go_wp2_with fail
  refine (hbr _).mono ?_
  rintro e w1 ⟨rfl, hb1⟩
  clear hbr
  have hf1 := hf0.below hb1
  have hB1 : Below w.heap.size w w1 := hal.trans (hb1.mono hal.size)
  have j0 := hf1.c0
  have j1 := hf1.c1
  have jz := hf1.fz
  clear hf0 hal hb1
  go_wp2
  refine bodyPost_ret (v := .tuple #[.string ⟨#[]⟩, .agg #[.int .i64 8, .int .i64 (-1)]]) (by simp [results, Tryz.results33, go_sem, j0, j1]) rfl ⟨rfl, ?_⟩
  exact (hB1.setCell (by simp) _).setCell (by simp) _

theorem lines_take (xs : List Rw) (n : Nat) (h : n < xs.length) : linesL (xs.take (n + 1)) = linesL (xs.take n) ++ (textL xs[n] ++ [10]) := by
  rw [← List.take_append_getElem h, lines_snoc]

set_option maxRecDepth 100000 in
set_option maxHeartbeats 4000000 in
theorem dataOf_any (q : Option Addr) (cap : Nat) (xs : List Rw) (w : World) (hx : RowsAt w (.slice q xs.length cap) xs) (hl : xs.length ≤ 40) (hp : ∀ x ∈ xs, x.1.size ≤ 30)
    (m : Nat) (hm : m ≤ xs.length) (hgood : ∀ i (h : i < xs.length), i < m → rowE xs[i] = 0) (hend : ∀ (h : m < xs.length), rowE xs[m] ≠ 0) :
    Calls Tryz.prog 33 #[.slice q xs.length cap] w fun e w' => (m = xs.length ∧ e = .returned (.tuple #[.string (bytesOf (fileOf (sortR xs))), .agg #[.int .i64 0, .int .i64 (-1)]]) ∧ Below w.heap.size w w') ∨
      (∃ h : m < xs.length, e = .returned (.tuple #[.string ⟨#[]⟩, .agg #[.int .i64 (rowE xs[m]), .int .i64 m]]) ∧ Below w.heap.size w w') := by
  have HALL : Hid (m = xs.length → ∀ x ∈ xs, rowE x = 0) := fun e x hxm => by
    obtain ⟨i, hi, e'⟩ := List.mem_iff_getElem.1 hxm
    rw [← e']
    exact hgood i hi (by omega)
  obtain ⟨L, hL⟩ : ∃ L, xs.length = L := ⟨_, rfl⟩
  have HX : Hid (xs.length = L) := hL
  have HGOOD : Hid (∀ i (h : i < xs.length), i < m → rowE xs[i] = 0) := hgood
  have HEND : Hid (∀ (h : m < xs.length), rowE xs[m] ≠ 0) := hend
  have hsl : (sortR xs).length = L := by rw [(sortR_perm xs).length_eq, hL]
  have hkl : (keysR xs).length = L := by simp [keysG, hL]
  have HKS : Hid (endsZ (keysR (sortR xs)) = endsZ (keysR xs)) := keys_perm (sortR_perm xs)
  have HP : Hid (∀ x ∈ xs, x.1.size ≤ 30) := hp
  have hso := fun W (hr : RowsAt W (.slice q xs.length cap) xs) => sortRows_at (.slice q xs.length cap) xs W hr (by omega)
  have hko := fun W (hr : RowsAt W (.slice q xs.length cap) xs) => keysOf_any (.slice q xs.length cap) xs W hr (by omega)
  rw [hL] at hx hl hm
  simp only [hL] at hso hko
  have harg : (Value.slice q xs.length cap) = .slice q L cap := by rw [hL]
  rw [harg]
  have hi40 : ¬ (40 : Int) < (L : Int) := by omega
  have hf0 := FC.new w
  have hal : Below w.heap.size w (w.alloc (.cells #[.int .i64 0, .int .i64 0] 46)) := (Below.refl _ _).alloc (Nat.le_refl _) _
  clear hL hgood hend harg hp
  go_enter Tryz.func33, Tryz.ntmps33
  go_wp2
  generalize w.alloc (.cells #[.int .i64 0, .int .i64 0] 46) = w1 at hf0 hal ⊢
  have hx1 : ∀ W, Below w1.heap.size w1 W → RowsAt W (.slice q L cap) xs := fun W hW => hx.below (hal.trans (hW.mono hal.size))
  clear hx
  go_loopw [4] (fun k wr => ∃ n : Nat, n ≤ m ∧ k = .int .i64 n ∧ Below w1.heap.size w1 wr) (fun k _ => L - (intOf k).toNat)
  case atStart => exact ⟨0, by omega, rfl, Below.refl _ _⟩
  case round =>
    obtain ⟨n, hn, rfl, hb⟩ := hrel
    by_cases hlt : n < L
    · have hltx : n < xs.length := by rw [HX.out]; exact hlt
      have hrows := hx1 wr hb
      rcases hrows with ⟨_, _, e, e'⟩ | ⟨b, o, cap2, e, hcells⟩
      · exfalso; have := HX.out; rw [e'] at this; simp at this; omega
      injection e with e1 e2 e3
      subst e1
      clear e2 e3
      obtain ⟨c1, c2, c3⟩ := hcells n hltx
      clear hcells
      have hi : (n : Int) < (L : Int) := by omega
      have hi0 : (0 : Int) ≤ (n : Int) := by omega
      have hrp := HP.out xs[n] (List.getElem_mem _)
      have hre := rowError_any xs[n] wr (by unfold maxLen; omega)
      by_cases hltm : n < m
      · rw [HGOOD.out n hltx hltm] at hre
        generalize xs[n] = x at c1 c2 c3 hre
        obtain ⟨xp, xk, xv⟩ := x
        dsimp only at c1 c2 c3 hre
        clear hso hko hx1
        go_wp2_with fail
        refine hre.mono ?_
        rintro e w2 ⟨rfl, hb2⟩
        clear hre
        have hb3 : Below w1.heap.size w1 w2 := hb.trans (hb2.mono hb.size)
        go_wp2
        go_roundw
        case rel => exact ⟨n + 1, by omega, by go_num, hb3⟩
        case measure => simp [intOf]; omega
      · have hnm : n = m := by omega
        subst hnm
        have hE := HEND.out hltx
        obtain ⟨E, hEE⟩ : ∃ E, rowE xs[n] = E := ⟨_, rfl⟩
        have HEE : Hid (rowE xs[n] = E) := hEE
        rw [hEE] at hre hE
        have hEp : (0 : Int) < (E : Int) := by omega
        clear hEE hE hrp
        generalize xs[n].1 = xp at c1 hre
        generalize xs[n].2.1 = xk at c2 hre
        generalize xs[n].2.2 = xv at c3 hre
        clear hso hko hx1
        have hf2 := hf0.below hb
        go_wp2_with fail
        refine hre.mono ?_
        rintro e w2 ⟨rfl, hb2⟩
        clear hre
        have hb3 : Below w1.heap.size w1 w2 := hb.trans (hb2.mono hb.size)
        have hB : Below w.heap.size w w2 := hal.trans (hb3.mono hal.size)
        have hf3 := hf2.below hb2
        have j0 := hf3.c0
        have j1 := hf3.c1
        have jz := hf3.fz
        clear hf0 hf2 c1 c2 c3
        go_wp2
        refine bodyPost_ret (v := .tuple #[.string ⟨#[]⟩, .agg #[.int .i64 E, .int .i64 n]]) (by simp [results, Tryz.results33, go_sem, j0, j1]) rfl (Or.inr ⟨hltx, by rw [HEE.out], ?_⟩)
        exact (hB.setCell (by simp) _).setCell (by simp) _
    · have hn' : n = L := by omega
      subst hn'
      have hmL : m = n := by omega
      have hall := HALL.out (by rw [HX.out]; exact hmL)
      have hso1 := hso wr (hx1 wr hb)
      clear hso
      go_wp2_with fail
      refine hso1.mono ?_
      rintro e w2 ⟨v2, rfl, hv2, hb2⟩
      clear hso1
      have hB2 : Below w1.heap.size w1 w2 := hb.trans (hb2.mono hb.size)
      obtain ⟨p2, c2, hv2f⟩ := hv2.form
      rw [hsl] at hv2f
      subst hv2f
      have hok := sort_ok hall
      have HOK : Hid (∀ x ∈ sortR xs, rowE x = 0) := hok
      have HLL : Hid (∀ k, (linesL ((sortR xs).take k)).length ≤ 33 * k) := fun k => by
        have h1 := lines_len ((sortR xs).take k) (fun x hxx => hok x (List.mem_of_mem_take hxx))
        rw [List.length_take] at h1
        omega
      have HPS : Hid (∀ x ∈ sortR xs, x.1.size ≤ 30) := fun x hxx => HP.out x ((sortR_perm xs).mem_iff.1 hxx)
      have hinE := ends_in hall
      have HFL : Hid (bytesOf (headL (⟨#[100, 97, 116, 97]⟩ : ByteArray).data.toList (keysR xs).length (endsZ (keysR xs)).1 (endsZ (keysR xs)).2 (sumL (linesL (sortR xs))) ++ 10 :: linesL (sortR xs)) = bytesOf (fileOf (sortR xs))) := by
        show _ = _
        have e : fileOf (sortR xs) = headL kData (sortR xs).length (endsZ (keysR (sortR xs))).1 (endsZ (keysR (sortR xs))).2 (sumL (linesL (sortR xs))) ++ 10 :: linesL (sortR xs) := rfl
        rw [e, HKS.out, hkl, hsl]
        rfl
      clear hb2 hok hall
      generalize hSS : sortR xs = S at hv2 hsl HOK HLL HPS HFL
      have HSS : Hid (sortR xs = S) := hSS
      clear hSS
      go_wp2
      go_loopw [7, 8] (fun bd k w3 => ∃ i : Nat, i ≤ n ∧ k = .int .i64 i ∧ Below w2.heap.size w2 w3 ∧ bd = .string (bytesOf (linesL (S.take i)))) (fun _ k _ => n - (intOf k).toNat)
      case atStart => exact ⟨0, by omega, rfl, Below.refl _ _, rfl⟩
      case round =>
        obtain ⟨i, hin, rfl, hb3, rfl⟩ := hrel
        by_cases hilt : i < n
        · have hix : i < S.length := by rw [hsl]; exact hilt
          have hrows := hv2.below hb3
          rcases hrows with ⟨_, _, e, e'⟩ | ⟨b, o, cap2, e, hcells⟩
          · exfalso; rw [e'] at hsl; simp at hsl; omega
          injection e with e1 e2 e3
          subst e1
          clear e2 e3
          obtain ⟨d1, d2, d3⟩ := hcells i hix
          clear hcells
          have hi : (i : Int) < (n : Int) := by omega
          have hi0 : (0 : Int) ≤ (i : Int) := by omega
          have hrp := HPS.out S[i] (List.getElem_mem _)
          have hr0 := HOK.out S[i] (List.getElem_mem _)
          have hrt := rowText_any S[i] wr (by unfold maxLen; omega)
          have htl : (textB S[i]).size ≤ 32 := by
            rw [← size_list, textB_ok _ hr0]; exact text_len _ hr0
          have hbl : (bytesOf (linesL (S.take i))).size ≤ 33 * i := by rw [bytesOf_size]; exact HLL.out i
          have HT : Hid (bytesOf (linesL (S.take i)) ++ textB S[i] ++ ⟨#[10]⟩ = bytesOf (linesL (S.take (i + 1)))) := by
            show _ = _
            apply part_ext
            rw [lines_take S i hix]
            simp [bytesOf, ByteArray.data_append, textB_ok _ hr0]
          generalize bytesOf (linesL (S.take i)) = B0 at hbl HT ⊢
          generalize S[i] = x at d1 d2 d3 hrt htl HT
          generalize textB x = tx at hrt htl HT
          obtain ⟨xp, xk, xv⟩ := x
          dsimp only at d1 d2 d3 hrt
          clear hix hrp hr0 hko hx1
          go_wp2_with fail
          refine hrt.mono ?_
          rintro e w4 ⟨rfl, hb4⟩
          clear hrt
          have hb5 : Below w2.heap.size w2 w4 := hb3.trans (hb4.mono hb3.size)
          go_wp2
          go_roundw
          case rel => exact ⟨i + 1, by omega, by go_num, hb5, by rw [HT.out]⟩
          case measure => simp [intOf]; omega
        · have hin' : i = n := by omega
          subst hin'
          have hta : S.take i = S := List.take_of_length_le (by rw [hsl]; exact Nat.le_refl _)
          have hll := HLL.out i
          rw [hta] at hll ⊢
          have hB3 : Below w1.heap.size w1 wr := hB2.trans (hb3.mono hB2.size)
          have hk3 := hko wr (hx1 wr hB3)
          have hwt := fun W (v : Value) (hz : KeysAt W v (keysR xs)) => wholeText_any ⟨#[100, 97, 116, 97]⟩ (by decide) v (keysR xs) (bytesOf (linesL S)) W hz (by omega) (by rw [bytesOf_size]; omega) (by have := hinE.1; simp only [inNum, Bool.and_eq_true, decide_eq_true_eq] at this; omega) (by have := hinE.2; simp only [inNum, Bool.and_eq_true, decide_eq_true_eq] at this; omega)
          have eBd : (bytesOf (linesL S)).data.toList = linesL S := by simp [bytesOf]
          simp only [eBd, HFL.out] at hwt
          generalize hTT : bytesOf (fileOf S) = T at hwt
          have HTT : Hid (bytesOf (fileOf S) = T) := hTT
          clear hTT
          generalize bytesOf (linesL S) = BD at hwt ⊢
          clear hko hx1 hta hll hinE eBd hv2
          go_wp2_with fail
          refine hk3.mono ?_
          rintro e w5 ⟨v5, rfl, hv5, hb5⟩
          clear hk3
          have hw5 := hwt w5 v5 hv5
          clear hwt
          go_wp2_with fail
          refine hw5.mono ?_
          rintro e w6 ⟨rfl, hb6⟩
          clear hw5
          have hfin := fine_of w6
          go_wp2_with fail
          refine hfin.mono ?_
          rintro e w7 ⟨rfl, hb7⟩
          clear hfin
          have hB5 : Below w1.heap.size w1 w5 := hB3.trans (hb5.mono hB3.size)
          have hB6 : Below w1.heap.size w1 w6 := hB5.trans (hb6.mono hB5.size)
          have hB7 : Below w1.heap.size w1 w7 := hB6.trans (hb7.mono hB6.size)
          have hB : Below w.heap.size w w7 := hal.trans (hB7.mono hal.size)
          have hf7 := hf0.below hB7
          have j0 := hf7.c0
          have j1 := hf7.c1
          have jz := hf7.fz
          clear hf0
          go_wp2
          refine bodyPost_ret (v := .tuple #[.string T, .agg #[.int .i64 0, .int .i64 (-1)]]) (by simp [results, Tryz.results33, go_sem, j0, j1]) rfl (Or.inl ⟨by rw [HX.out]; exact hmL, by rw [HSS.out, HTT.out], ?_⟩)
          exact (hB.setCell (by simp) _).setCell (by simp) _
end Go.Proofs.YtoobgeekmaeccaaGreatDoor
namespace Go.Proofs.YtoobgeekmaeccaaGreatDoor
open Go.RowKit Go.Extern.Stop Go.Stop Go.Extern Go.Sort Go.Shelf Go.Lib

def CutInvD (d : UInt8) (l : List UInt8) (f n : Nat) (ts : List ByteArray) : Prop :=
  f ≤ n ∧ ts.length ≤ f ∧ (∀ c ∈ (l.drop f).take (n - f), c ≠ d) ∧ ts.map (·.data.toList) ++ pieces d (l.drop f) = pieces d l

theorem cutd_zero (d : UInt8) (l : List UInt8) : CutInvD d l 0 0 [] := ⟨Nat.le_refl _, Nat.le_refl _, by simp, by simp⟩

theorem cutd_skip {d : UInt8} {l : List UInt8} {f n : Nat} {ts : List ByteArray} {c : UInt8} (h : CutInvD d l f n ts) (hc : l[n]? = some c) (hne : c ≠ d) : CutInvD d l f (n + 1) ts := by
  obtain ⟨h1, h2, h3, h4⟩ := h
  refine ⟨by omega, h2, fun g hd => ?_, h4⟩
  obtain ⟨k, hk⟩ := List.mem_iff_getElem?.1 hd
  rw [List.getElem?_take] at hk
  split at hk
  · rename_i hlt
    rw [List.getElem?_drop] at hk
    rcases Nat.lt_or_ge k (n - f) with h' | h'
    · refine h3 g (List.mem_iff_getElem?.2 ⟨k, ?_⟩)
      rw [List.getElem?_take, if_pos h', List.getElem?_drop, hk]
    · rw [show f + k = n by omega, hc] at hk
      rw [← Option.some.inj hk]; exact hne
  · cases hk

theorem cutd_hit {d : UInt8} {s : ByteArray} {f n : Nat} {ts : List ByteArray} (h : CutInvD d s.data.toList f n ts) (hc : s.data.toList[n]? = some d) : CutInvD d s.data.toList (n + 1) (n + 1) (ts ++ [s.extract f n]) := by
  obtain ⟨h1, h2, h3, h4⟩ := h
  refine ⟨Nat.le_refl _, by simp; omega, by simp, ?_⟩
  have hn : n < s.data.toList.length := by
    rcases Nat.lt_or_ge n s.data.toList.length with h | h
    · exact h
    · rw [List.getElem?_eq_none h] at hc; cases hc
  have hsp : s.data.toList.drop f = (s.data.toList.drop f).take (n - f) ++ d :: s.data.toList.drop (n + 1) := by
    have e1 := List.take_append_drop (n - f) (s.data.toList.drop f)
    rw [List.drop_drop, show f + (n - f) = n by omega, List.drop_eq_getElem_cons hn] at e1
    rw [List.getElem?_eq_getElem hn] at hc
    rw [Option.some.inj hc] at e1
    exact e1.symm
  rw [hsp, pieces_append d _ _ h3] at h4
  rw [← h4, List.map_append, List.append_assoc]
  congr 1
  simp only [List.map_cons, List.map_nil, List.cons_append, List.nil_append]
  rw [extract_data]

theorem cutd_end {d : UInt8} {s : ByteArray} {f : Nat} {ts : List ByteArray} (h : CutInvD d s.data.toList f s.size ts) : (ts ++ [s.extract f s.size]).map (·.data.toList) = pieces d s.data.toList := by
  obtain ⟨h1, h2, h3, h4⟩ := h
  rw [List.take_of_length_le (by rw [List.length_drop, size_list]; omega)] at h3
  rw [pieces_none d _ h3] at h4
  rw [← h4, List.map_append]
  simp only [List.map_cons, List.map_nil, extract_to_end]

set_option maxRecDepth 100000 in
set_option maxHeartbeats 2000000 in
theorem cutBy_any (d : UInt8) (s : ByteArray) (w : World) (hs : s.size < 4294967281) :
    Calls Tryz.prog 147 #[.string s, .int .u8 d.toNat] w fun e w' => ∃ v ts, e = .returned v ∧ TextsAt w' v ts ∧ ts.map (·.data.toList) = pieces d s.data.toList ∧ Below w.heap.size w w' := by
  obtain ⟨i0, hi0, hz0, hs0, hby0⟩ := Tryz.strInfo
  go_enter Tryz.func147, Tryz.ntmps147
  go_wp2
  go_loopw [5, 6, 7] (fun out from' k wr => ∃ (n f : Nat) (ts : List ByteArray), n ≤ s.size ∧ k = .int .i64 n ∧ from' = .int .i64 f ∧ Below w.heap.size w wr ∧ CutInvD d s.data.toList f n ts ∧ wr.ownsRow w.heap.size 9 1 out ts.length (ts.map Value.string)) (fun _ _ k _ => s.size - (intOf k).toNat)
  case atStart => exact ⟨0, 0, [], by omega, rfl, rfl, Below.refl _ _, cutd_zero _ _, by simp; exact World.ownsRow_nil _ _ _ _⟩
  case round =>
    obtain ⟨n, f, ts, hn, rfl, rfl, hb, hci, hown⟩ := hrel
    have OW : Hid (wr.ownsRow w.heap.size 9 1 u5 ts.length (ts.map Value.string)) := hown
    have CI : Hid (CutInvD d s.data.toList f n ts) := hci
    have hfn : f ≤ n := hci.1
    have htl : ts.length ≤ f := hci.2.1
    have TL : Hid (ts.length ≤ f) := htl
    clear hown hci htl
    by_cases hlt : n < s.size
    · have hi : (n : Int) < (s.size : Int) := by omega
      have hby := byte_list s n hlt
      by_cases hc : s[n].toNat = d.toNat
      · have hc' : (s[n].toNat : Int) = d.toNat := by omega
        have HC : Hid (s.data.toList[n]? = some d) := by
          rw [hby]
          exact congrArg some (UInt8.toNat_inj.1 hc)
        clear hby hc
        have hal : Below wr.heap.size wr (wr.alloc (.cells #[.string (s.extract f n)] 9)) := (Below.refl _ _).alloc (Nat.le_refl _) _
        have hbA : Below w.heap.size w (wr.alloc (.cells #[.string (s.extract f n)] 9)) := hb.alloc hb.size _
        go_wp2_with (at_builtin; refine wpList_append_own _ rfl _ _ 157 rfl w.heap.size 9 i0 (.string ⟨#[]⟩) 1 16 Tryz.underlying157 hi0 hz0 hs0 hby0 rfl (by decide) u5 ts.length (ts.map Value.string) rfl ?qc0 ⟨wr.heap.size, 0, none⟩ 1 1 [.string (s.extract f n)] rfl ?qc1 ?qc2 ?qc3 ?qc4 ?qc5 ?qc6 ?_)
        case qc0 => exact own_below OW.out hal
        case qc1 => rfl
        case qc2 => exact cell_one _ _ _
        case qc3 => intro u hu; simp at hu; subst hu; rfl
        case qc4 => have := TL.out; unfold maxLen; omega
        case qc5 => have := TL.out; omega
        case qc6 => first | exact hbA.size | (have := hb.size; omega)
        intro v' w4 hown4 hgrow hnil
        have hbC : Below w.heap.size w w4 := hbA.grown hgrow hbA.size (fun k hk => by
          rcases OW.out.2 with ⟨e, _⟩ | ⟨g', cap', cur, e, hg', _⟩
          · rw [e] at hk; simp [Value.ownBlock] at hk
          · rw [e] at hk; simp [Value.ownBlock] at hk; omega)
        have OW4 : Hid (w4.ownsRow w.heap.size 9 1 v' (ts.length + 1) (ts.map Value.string ++ [.string (s.extract f n)])) := hown4
        clear hown4 hnil hgrow
        go_wp2
        go_roundw
        case rel => exact ⟨n + 1, n + 1, ts ++ [s.extract f n], by omega, by go_num, by go_num, hbC, cutd_hit CI.out HC.out, by rw [List.length_append, List.map_append]; exact OW4.out⟩
        case measure => simp [intOf]; omega
      · have hc' : ¬ (s[n].toNat : Int) = d.toNat := by omega
        have CI' : Hid (CutInvD d s.data.toList f (n + 1) ts) := cutd_skip CI.out hby (fun e => hc (by rw [e]))
        clear hby hc
        go_wp2
        go_roundw
        case rel => exact ⟨n + 1, f, ts, by omega, by go_num, by go_num, hb, CI'.out, OW.out⟩
        case measure => simp [intOf]; omega
    · have hn' : n = s.size := by omega
      subst hn'
      have hal : Below wr.heap.size wr (wr.alloc (.cells #[.string (s.extract f s.size)] 9)) := (Below.refl _ _).alloc (Nat.le_refl _) _
      have hbA : Below w.heap.size w (wr.alloc (.cells #[.string (s.extract f s.size)] 9)) := hb.alloc hb.size _
      go_wp2_with (at_builtin; refine wpList_append_own _ rfl _ _ 157 rfl w.heap.size 9 i0 (.string ⟨#[]⟩) 1 16 Tryz.underlying157 hi0 hz0 hs0 hby0 rfl (by decide) u5 ts.length (ts.map Value.string) rfl ?qc0 ⟨wr.heap.size, 0, none⟩ 1 1 [.string (s.extract f s.size)] rfl ?qc1 ?qc2 ?qc3 ?qc4 ?qc5 ?qc6 ?_)
      case qc0 => exact own_below OW.out hal
      case qc1 => rfl
      case qc2 => exact cell_one _ _ _
      case qc3 => intro u hu; simp at hu; subst hu; rfl
      case qc4 => have := TL.out; unfold maxLen; omega
      case qc5 => have := TL.out; omega
      case qc6 => first | exact hbA.size | (have := hb.size; omega)
      intro v' w4 hown4 hgrow hnil
      have hbC : Below w.heap.size w w4 := hbA.grown hgrow hbA.size (fun k hk => by
        rcases OW.out.2 with ⟨e, _⟩ | ⟨g', cap', cur, e, hg', _⟩
        · rw [e] at hk; simp [Value.ownBlock] at hk
        · rw [e] at hk; simp [Value.ownBlock] at hk; omega)
      have OW4 : Hid (w4.ownsRow w.heap.size 9 1 v' (ts.length + 1) (ts.map Value.string ++ [.string (s.extract f s.size)])) := hown4
      clear hown4 hnil hgrow
      go_wp2
      go_ret
      exact ⟨v', ts ++ [s.extract f s.size], rfl, textsAt_of_own (base := w.heap.size) (by simp) (by rw [List.length_append, List.map_append]; exact OW4.out), cutd_end CI.out, hbC⟩

def NumsPost (w : World) (e : Ending) (ts : List ByteArray) : Prop :=
  (∃ (zs : List Int) (v : Value), zs.length = ts.length ∧ (∀ (j : Nat) (t : ByteArray), ts[j]? = some t → numO t.data.toList = zs[j]?) ∧ e = .returned (.tuple #[v, .bool true]) ∧ KeysAt w v zs) ∨
  (∃ (j : Nat) (t : ByteArray), ts[j]? = some t ∧ numO t.data.toList = none ∧ e = .returned (.tuple #[.slice none 0 0, .bool false]))
def NumsPostN (B : Nat) (w : World) (e : Ending) (ts : List ByteArray) : Prop :=
  (∃ (zs : List Int) (v : Value), zs.length = ts.length ∧ (∀ (j : Nat) (t : ByteArray), ts[j]? = some t → numO t.data.toList = zs[j]?) ∧ e = .returned (.tuple #[v, .bool true]) ∧ KeysAt w v zs ∧ ∀ k, v.ownBlock = some k → B ≤ k) ∨
  (∃ (j : Nat) (t : ByteArray), ts[j]? = some t ∧ numO t.data.toList = none ∧ e = .returned (.tuple #[.slice none 0 0, .bool false]))
theorem NumsPostN.weak {B : Nat} {w : World} {e : Ending} {ts : List ByteArray} (h : NumsPostN B w e ts) : NumsPost w e ts := by
  rcases h with ⟨zs, g, h1, h2, h3, h4, _⟩ | h
  · exact Or.inl ⟨zs, g, h1, h2, h3, h4⟩
  · exact Or.inr h

set_option maxRecDepth 100000 in
set_option maxHeartbeats 2000000 in
theorem numbersOf_new (b o cap : Nat) (ts : List ByteArray) (w : World) (hc : ∀ j (h : j < ts.length), w.cell? ⟨b, o + j, none⟩ = some (.string ts[j])) (hs : ∀ t ∈ ts, t.size ≤ maxLen) (hl : ts.length ≤ 20000) :
    Calls Tryz.prog 148 #[.slice (some ⟨b, o, none⟩) ts.length cap] w fun e w' => NumsPostN w.heap.size w' e ts ∧ Below w.heap.size w w' := by
  obtain ⟨i0, hi0, hz0, hs0, hby0⟩ := Tryz.numInfo
  have HC : Hid (∀ j (h : j < ts.length), w.cell? ⟨b, o + j, none⟩ = some (.string ts[j])) := hc
  have HS : Hid (∀ t ∈ ts, t.size ≤ maxLen) := hs
  obtain ⟨L, hL⟩ : ∃ L, ts.length = L := ⟨_, rfl⟩
  have HX : Hid (ts.length = L) := hL
  rw [hL] at hl ⊢
  clear hL hc hs
  go_enter Tryz.func148, Tryz.ntmps148
  go_wp2
  go_loopw [4, 5] (fun out k wr => ∃ (n : Nat) (zs : List Int), n ≤ L ∧ k = .int .i64 n ∧ Below w.heap.size w wr ∧ zs.length = n ∧ (∀ j t, j < n → ts[j]? = some t → numO t.data.toList = zs[j]?) ∧ wr.ownsRow w.heap.size 3 1 out n (zs.map encZ)) (fun _ k _ => L - (intOf k).toNat)
  case atStart => exact ⟨0, [], by omega, rfl, Below.refl _ _, rfl, fun j t h => absurd h (Nat.not_lt_zero _), by simp; exact World.ownsRow_nil _ _ _ _⟩
  case round =>
    obtain ⟨n, zs, hn, rfl, hb, hzl, hzs, hown⟩ := hrel
    have OW : Hid (wr.ownsRow w.heap.size 3 1 u4 n (zs.map encZ)) := hown
    have HZL : Hid (zs.length = n) := hzl
    have HZS : Hid (∀ j t, j < n → ts[j]? = some t → numO t.data.toList = zs[j]?) := hzs
    clear hown hzl hzs
    by_cases hlt : n < L
    · have hltx : n < ts.length := by rw [HX.out]; exact hlt
      have c1 := below_keep hb (HC.out n hltx)
      have HG : Hid (ts[n]? = some ts[n]) := List.getElem?_eq_getElem hltx
      have hnum := fun W => numberOf_any ts[n] W (HS.out _ (List.getElem_mem _))
      generalize ts[n] = t at c1 HG hnum
      unfold numR at hnum
      have hi : (n : Int) < (L : Int) := by omega
      have hi0' : (0 : Int) ≤ (n : Int) := by omega
      clear hltx
      cases hk : numO t.data.toList with
      | none =>
        rw [hk] at hnum
        dsimp only at hnum
        have HK : Hid (numO t.data.toList = none) := hk
        clear hk
        go_wp2_with (go_at_call 107; refine (hnum _).mono ?_; rintro e w1 ⟨rfl, hw⟩; rw [hw]; clear hw)
        go_ret2
        exact ⟨Or.inr ⟨n, t, HG.out, HK.out, rfl⟩, hb⟩
      | some x =>
        rw [hk] at hnum
        dsimp only at hnum
        have HK : Hid (numO t.data.toList = some x) := hk
        clear hk
        have hal : Below wr.heap.size wr (wr.alloc (.cells #[.int .i64 x] 3)) := (Below.refl _ _).alloc (Nat.le_refl _) _
        have hbA : Below w.heap.size w (wr.alloc (.cells #[.int .i64 x] 3)) := hb.alloc hb.size _
        go_wp2_with (first
          | (go_at_call 107; refine (hnum _).mono ?_; rintro e w1 ⟨rfl, hw⟩; rw [hw]; clear hw)
          | (at_builtin; refine wpList_append_own _ rfl _ _ 50 rfl w.heap.size 3 i0 (.int .i64 0) 1 8 Tryz.underlying50 hi0 hz0 hs0 hby0 rfl (by decide) u4 n (zs.map encZ) rfl ?qc0 ⟨wr.heap.size, 0, none⟩ 1 1 [.int .i64 x] rfl ?qc1 ?qc2 ?qc3 ?qc4 ?qc5 ?qc6 ?_))
        case qc0 => exact own_below OW.out hal
        case qc1 => rfl
        case qc2 => exact cell_one _ _ _
        case qc3 => intro u hu; simp at hu; subst hu; rfl
        case qc4 => unfold maxLen; omega
        case qc5 => omega
        case qc6 => first | exact hbA.size | (have := hb.size; omega)
        intro v' w4 hown4 hgrow hnil
        have hbC : Below w.heap.size w w4 := hbA.grown hgrow hbA.size (fun k hk => by
          rcases OW.out.2 with ⟨e, _⟩ | ⟨g', cap', cur, e, hg', _⟩
          · rw [e] at hk; simp [Value.ownBlock] at hk
          · rw [e] at hk; simp [Value.ownBlock] at hk; omega)
        have OW4 : Hid (w4.ownsRow w.heap.size 3 1 v' (n + 1) (zs.map encZ ++ [.int .i64 x])) := hown4
        clear hown4 hnil hgrow
        go_wp2
        go_roundw
        case rel =>
          refine ⟨n + 1, zs ++ [x], by omega, by go_num, hbC, by rw [List.length_append, HZL.out]; rfl, fun j t' hj ht' => ?_, by rw [List.map_append]; exact OW4.out⟩
          rcases Nat.lt_or_ge j n with h' | h'
          · rw [HZS.out j t' h' ht', List.getElem?_append_left (by rw [HZL.out]; exact h')]
          · obtain rfl : j = n := by omega
            rw [HG.out] at ht'
            rw [← Option.some.inj ht', HK.out, List.getElem?_append_right (by rw [HZL.out]; exact Nat.le_refl _), HZL.out, Nat.sub_self]
            rfl
        case measure => simp [intOf]; omega
    · obtain rfl : n = L := by omega
      have HKA : Hid (KeysAt wr u4 zs) := keysAt_of_own (base := w.heap.size) (by rw [HZL.out]; exact OW.out)
      go_wp2
      go_ret2
      exact ⟨Or.inl ⟨zs, u4, by rw [HZL.out, HX.out], fun j t ht => HZS.out j t (by
        rw [← HX.out]
        rcases Nat.lt_or_ge j ts.length with h | h
        · exact h
        · rw [List.getElem?_eq_none h] at ht; cases ht) ht, rfl, HKA.out, fun k hk => (OW.out.lt k hk).1⟩, hb⟩

theorem numbersOf_list (b o cap : Nat) (ts : List ByteArray) (w : World) (hc : ∀ j (h : j < ts.length), w.cell? ⟨b, o + j, none⟩ = some (.string ts[j])) (hs : ∀ t ∈ ts, t.size ≤ maxLen) (hl : ts.length ≤ 20000) :
    Calls Tryz.prog 148 #[.slice (some ⟨b, o, none⟩) ts.length cap] w fun e w' => NumsPost w' e ts ∧ Below w.heap.size w w' :=
  (numbersOf_new b o cap ts w hc hs hl).mono fun _ _ ⟨h1, h2⟩ => ⟨h1.weak, h2⟩
end Go.Proofs.YtoobgeekmaeccaaGreatDoor
