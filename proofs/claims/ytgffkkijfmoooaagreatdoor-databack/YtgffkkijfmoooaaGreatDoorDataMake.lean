/-
  The contract of data.Make: too many rows; a row that is none; a file.
-/
import Derived.Test.YtgffkkijfmoooaaGreatDoorDataLines
import Derived.BigQuiet
namespace Go.Proofs.YtgffkkijfmoooaaGreatDoor
open Go.RowKit Go.Extern.Stop Go.Stop Go.Extern Go.Sort Go.Shelf Go.Lib

/-- What the package-level variables hold that files' functions read: a 2, a 7, a 8, a 9: the errors for shape, full, order and sum. -/
structure EnvD (w : World) (a : Nat → Addr) : Prop where
  env : Env w a
  shape : w.cell? ⟨5, 0, none⟩ = some (.iface 250 (.pointer (some (a 2))))
  full : w.cell? ⟨3, 0, none⟩ = some (.iface 250 (.pointer (some (a 7))))
  order : w.cell? ⟨4, 0, none⟩ = some (.iface 250 (.pointer (some (a 8))))
  sum : w.cell? ⟨9, 0, none⟩ = some (.iface 250 (.pointer (some (a 9))))

theorem EnvD.below {w w' : World} {a : Nat → Addr} (h : EnvD w a) (hb : Below w.heap.size w w') : EnvD w' a :=
  ⟨h.env.below hb, below_keep hb h.shape, below_keep hb h.full, below_keep hb h.order, below_keep hb h.sum⟩

/-- The same without the error for a name. -/
structure EnvD0 (w : World) (a : Nat → Addr) : Prop where
  env : Env0 w a
  shape : w.cell? ⟨5, 0, none⟩ = some (.iface 250 (.pointer (some (a 2))))
  full : w.cell? ⟨3, 0, none⟩ = some (.iface 250 (.pointer (some (a 7))))
  order : w.cell? ⟨4, 0, none⟩ = some (.iface 250 (.pointer (some (a 8))))
  sum : w.cell? ⟨9, 0, none⟩ = some (.iface 250 (.pointer (some (a 9))))

theorem EnvD0.below {w w' : World} {a : Nat → Addr} (h : EnvD0 w a) (hb : Below w.heap.size w w') : EnvD0 w' a :=
  ⟨h.env.below hb, below_keep hb h.shape, below_keep hb h.full, below_keep hb h.order, below_keep hb h.sum⟩

theorem EnvD.weak {w : World} {a : Nat → Addr} (h : EnvD w a) : EnvD0 w a := ⟨h.env.weak, h.shape, h.full, h.order, h.sum⟩

theorem keys_perm {xs ys : List Rw} (h : xs.Perm ys) : endsZ (keysR xs) = endsZ (keysR ys) := ends_perm (h.map _)

theorem sort_ok {xs : List Rw} (h : ∀ x ∈ xs, rowE x = 0) : ∀ x ∈ sortR xs, rowE x = 0 := fun x hx => h x ((sortR_perm xs).mem_iff.1 hx)

theorem sort_rise (xs : List Rw) : (sortR xs).Pairwise (fun x y => ltOf cfR y x = false) := (sortR_sorted xs).imp fun {a b} h => by simpa using h

set_option maxRecDepth 100000 in
set_option maxHeartbeats 4000000 in
theorem make_full (q : Option Addr) (n cap : Nat) (w : World) (a : Nat → Addr) (h : EnvD w a) (hn : 40 < n) (hl : n ≤ maxLen) :
    Calls Tryz.prog 39 #[.slice q n cap] w fun e w' => e = .returned (.tuple #[.string ⟨#[]⟩, errV a 8]) ∧ Below w.heap.size w w' := by
  unfold maxLen at hl
  have hf := h.full
  have hi : (40 : Int) < (n : Int) := by omega
  simp only [errV]
  go_enter Tryz.func39, Tryz.ntmps39
  go_wp2
  go_quiet (fail)
  go_wp2
  go_ret2
  exact ⟨rfl, below_drewN (Below.refl _ _) nq⟩

set_option maxRecDepth 100000 in
set_option maxHeartbeats 4000000 in
theorem make_any (q : Option Addr) (cap : Nat) (xs : List Rw) (w : World) (a : Nat → Addr) (h : EnvD w a) (hx : RowsAt w (.slice q xs.length cap) xs) (hl : xs.length ≤ 40) (hp : ∀ x ∈ xs, x.1.size ≤ 30)
    (m : Nat) (hm : m ≤ xs.length) (hgood : ∀ i (h : i < xs.length), i < m → rowE xs[i] = 0) (hend : ∀ (h : m < xs.length), rowE xs[m] ≠ 0) :
    Calls Tryz.prog 39 #[.slice q xs.length cap] w fun e w' => (m = xs.length ∧ e = .returned (.tuple #[.string (bytesOf (fileOf (sortR xs))), .nilIface]) ∧ Below w.heap.size w w') ∨
      (∃ h : m < xs.length, ∃ fb, e = .returned (.tuple #[.string ⟨#[]⟩, .iface 93 (.pointer (some ⟨fb, 0, none⟩))]) ∧ w'.cell? ⟨fb, 0, none⟩ = some (.int .i64 m) ∧ w'.cell? ⟨fb, 1, none⟩ = some (errV a (rowE xs[m])) ∧ Below w.heap.size w w') := by
  obtain ⟨L, hL⟩ : ∃ L, xs.length = L := ⟨_, rfl⟩
  have HX : Hid (xs.length = L) := hL
  have HGOOD : Hid (∀ i (h : i < xs.length), i < m → rowE xs[i] = 0) := hgood
  have HEND : Hid (∀ (h : m < xs.length), rowE xs[m] ≠ 0) := hend
  rw [hL] at hx hl hm
  have harg : (Value.slice q xs.length cap) = .slice q L cap := by rw [hL]
  rw [harg]
  clear hL hgood hend harg
  have hi40 : ¬ (40 : Int) < (L : Int) := by omega
  go_enter Tryz.func39, Tryz.ntmps39
  go_wp2
  go_loopw [13] (fun k wr => ∃ n : Nat, n ≤ m ∧ k = .int .i64 n ∧ Below w.heap.size w wr) (fun k _ => L - (intOf k).toNat)
  case atStart => exact ⟨0, by omega, rfl, Below.refl _ _⟩
  case round =>
    obtain ⟨n, hn, rfl, hb⟩ := hrel
    by_cases hlt : n < L
    · have hltx : n < xs.length := by rw [HX.out]; exact hlt
      have hrows := hx.below hb
      rcases hrows with ⟨_, _, e, e'⟩ | ⟨b, o, cap2, e, hcells⟩
      · exfalso; have := HX.out; rw [e'] at this; simp at this; omega
      injection e with e1 e2 e3
      subst e1
      clear e2 e3
      obtain ⟨c1, c2, c3⟩ := hcells n hltx
      clear hcells
      have hi : (n : Int) < (L : Int) := by omega
      have hrp := hp _ (List.getElem_mem hltx)
      have hck := fun W (hW : Env W a) => check_any xs[n] W a hW (by unfold maxLen; omega)
      by_cases hnm : n < m
      · have hrok := HGOOD.out n hltx hnm
        rw [hrok] at hck
        simp only [errV] at hck
        generalize xs[n] = x at c1 c2 c3 hck
        obtain ⟨xp, xk, xv⟩ := x
        dsimp only at c1 c2 c3 hck
        have hal : Below wr.heap.size wr (wr.alloc (.cells #[.string xp, .int .i64 xk, .int .i64 xv] 30)) := (Below.refl _ _).alloc (Nat.le_refl _) _
        have hb2 : Below w.heap.size w (wr.alloc (.cells #[.string xp, .int .i64 xk, .int .i64 xv] 30)) := hb.trans (hal.mono hb.size)
        have hck2 := hck _ (h.env.below hb2)
        clear hck
        go_wp2_with fail
        refine hck2.mono ?_
        rintro e w3 ⟨rfl, hb3⟩
        clear hck2 c1 c2 c3
        have hb4 : Below w.heap.size w w3 := hb2.trans (hb3.mono hb2.size)
        go_wp2
        go_roundw
        case rel => exact ⟨n + 1, by omega, by go_num, hb4⟩
        case measure => simp [intOf]; omega
      · obtain rfl : n = m := by omega
        have hE := HEND.out hltx
        obtain ⟨E, hEE⟩ : ∃ E, rowE xs[n] = E + 1 := ⟨rowE xs[n] - 1, by omega⟩
        have HEE : Hid (rowE xs[n] = E + 1) := hEE
        rw [hEE] at hck
        simp only [errV] at hck
        clear hEE hE hrp
        generalize xs[n].1 = xp at c1 hck
        generalize xs[n].2.1 = xk at c2 hck
        generalize xs[n].2.2 = xv at c3 hck
        have hal : Below wr.heap.size wr (wr.alloc (.cells #[.string xp, .int .i64 xk, .int .i64 xv] 30)) := (Below.refl _ _).alloc (Nat.le_refl _) _
        have hb2 : Below w.heap.size w (wr.alloc (.cells #[.string xp, .int .i64 xk, .int .i64 xv] 30)) := hb.trans (hal.mono hb.size)
        have hck2 := hck _ (h.env.below hb2)
        clear hck
        go_wp2_with fail
        refine hck2.mono ?_
        rintro e w3 ⟨rfl, hb3⟩
        clear hck2 c1 c2 c3
        have hb4 : Below w.heap.size w w3 := hb2.trans (hb3.mono hb2.size)
        have hb5 : Below w.heap.size w (w3.alloc (.cells #[.int .i64 n, .iface 250 (.pointer (some (a E)))] 95)) := hb4.alloc hb4.size _
        go_wp2
        go_ret2
        exact Or.inr ⟨hltx, w3.heap.size, rfl, by simp, by rw [HEE.out]; simp [errV], hb5⟩
    · have hnm : n = m := by omega
      have hmL : m = L := by omega
      subst hnm
      have hall : ∀ x ∈ xs, rowE x = 0 := fun x hxm => by
        obtain ⟨i, hi, e⟩ := List.mem_iff_getElem.1 hxm
        rw [← e]
        exact HGOOD.out i hi (by rw [hmL, ← HX.out]; exact hi)
      have hsr := sort_any (.slice q L cap) xs wr (hx.below hb) (by rw [HX.out]; omega)
      clear hlt
      go_wp2_with fail
      refine hsr.mono ?_
      rintro e w1 ⟨v1, rfl, hv1, hb1⟩
      clear hsr
      have hB1 : Below w.heap.size w w1 := hb.trans (hb1.mono hb.size)
      have hsok := sort_ok hall
      have hwl := writeRows_any ⟨#[100, 97, 116, 97]⟩ (by decide) v1 (sortR xs) w1 a (h.env.below hB1) hv1 (by rw [sortR_len, HX.out]; omega) hsok
      have HF : Hid (bytesOf (headL (⟨#[100, 97, 116, 97]⟩ : ByteArray).data.toList (sortR xs).length (endsZ (keysR (sortR xs))).1 (endsZ (keysR (sortR xs))).2 (sumL (linesL (sortR xs))) ++ 10 :: linesL (sortR xs)) = bytesOf (fileOf (sortR xs))) := rfl
      rw [HF.out] at hwl
      obtain ⟨q1, cap1, rfl⟩ := hv1.form
      clear hsok hv1 hall HF
      obtain ⟨fB, hfB⟩ : ∃ fB, bytesOf (fileOf (sortR xs)) = fB := ⟨_, rfl⟩
      have HFB : Hid (bytesOf (fileOf (sortR xs)) = fB) := hfB
      rw [hfB] at hwl
      clear hfB
      generalize (sortR xs).length = L1 at hwl ⊢
      go_wp2_with fail
      refine hwl.mono ?_
      rintro e w2 ⟨rfl, hb2⟩
      clear hwl
      go_wp2
      go_ret2
      exact Or.inl ⟨hmL.trans HX.out.symm, by rw [HFB.out]; rfl, hB1.trans (hb2.mono hB1.size)⟩
end Go.Proofs.YtgffkkijfmoooaaGreatDoor
