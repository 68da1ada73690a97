/-
  The contracts of pack.several, and of slices.SortStableFunc at one group or none.
-/
import Derived.Test.YtgckdomafbnmkaaGreatDoorPackTk
namespace Go.Proofs.YtgckdomafbnmkaaGreatDoor
open Go.RowKit Go.Extern.Stop Go.Stop Go.Extern Go.Sort Go.Shelf Go.Lib

abbrev Gx := Nat × Value × Gp
def ptG (x : Gx) : Value := .pointer (some ⟨x.1, 0, none⟩)

structure GrsIn (B : Nat) (W : World) (v : Value) (xs : List Gx) : Prop where
  row : W.ownsRow B 88 1 v xs.length (xs.map ptG)
  cell : ∀ x ∈ xs, GrC W x.1 x.2.2 x.2.1 ∧ B ≤ x.1 ∧ W.ownsRow B 9 1 x.2.1 x.2.2.2.2.length (x.2.2.2.2.map Value.string)
  ap : xs.Pairwise fun x y => x.1 ≠ y.1 ∧ ∀ k, x.2.1.ownBlock = some k → y.2.1.ownBlock ≠ some k

theorem blk_ne {W : World} {j k : Nat} {c1 c2 : Array Value} {t1 t2 : TypeId} (h1 : W.heap[j]? = some (.cells c1 t1 (0, 0))) (h2 : W.heap[k]? = some (.cells c2 t2 (0, 0))) (ht : t1 ≠ t2) : j ≠ k := fun e => by
  subst e
  have := h1.symm.trans h2
  simp only [Option.some.injEq, Obj.cells.injEq] at this
  exact ht this.2.1

theorem GrsIn.but {P : Nat → Prop} {B : Nat} {W W' : World} {v : Value} {xs : List Gx} (h : GrsIn B W v xs) (hb : But P W W') (h1 : ∀ k, v.ownBlock = some k → ¬ P k) (h2 : ∀ x ∈ xs, ¬ P x.1 ∧ ∀ k, x.2.1.ownBlock = some k → ¬ P k) : GrsIn B W' v xs :=
  ⟨own_but h.row hb h1, fun x hx => ⟨(h.cell x hx).1.but hb (h2 x hx).1, (h.cell x hx).2.1, own_but (h.cell x hx).2.2 hb (h2 x hx).2⟩, h.ap⟩
theorem GrsIn.below {B : Nat} {W W' : World} {v : Value} {xs : List Gx} (h : GrsIn B W v xs) (hb : Below W.heap.size W W') : GrsIn B W' v xs :=
  h.but (But.of_below (P := fun _ => False) hb) (fun _ _ h => h) (fun _ _ => ⟨fun h => h, fun _ _ h => h⟩)
theorem GrsIn.nil (B : Nat) (W : World) : GrsIn B W (.slice none 0 0) [] := ⟨World.ownsRow_nil _ _ _ _, fun _ h => absurd h (List.not_mem_nil), List.Pairwise.nil⟩

theorem GrsIn.at_ {B : Nat} {W : World} {q : Option Addr} {n c : Nat} {xs : List Gx} (h : GrsIn B W (.slice q n c) xs) (hne : xs ≠ []) : ∃ b, q = some ⟨b, 0, none⟩ ∧ ∀ j (hj : j < xs.length), W.cell? ⟨b, j, none⟩ = some (ptG xs[j]) := by
  rcases h.row.2 with ⟨_, hn⟩ | ⟨g, cap, cur, hv, _, hg, hc, _, _, ht⟩
  · exact absurd (List.length_eq_zero_iff.1 hn) hne
  · simp only [Value.slice.injEq] at hv
    refine ⟨g, hv.1, fun j hj => ?_⟩
    rw [cell_of_row _ _ _ _ _ _ hg]
    have e : (cur.toList.take (xs.length * 1))[j]? = (xs.map ptG)[j]? := by rw [ht]
    rw [List.getElem?_take, if_pos (by omega), Array.getElem?_toList] at e
    rw [e]
    simp [hj]

theorem GrsIn.took {B : Nat} {W W' : World} {v : Value} {xs : List Gx} (h : GrsIn B W v xs) {n : Nat} (hn : n < xs.length) {g : Gp} (hp : TakeP B W xs[n].1 xs[n].2.1 g W') : ∃ v', GrsIn B W' v (xs.set n (xs[n].1, v', g)) := by
  obtain ⟨v', h1, h2, h3, h4⟩ := hp
  have hx := h.cell xs[n] (List.getElem_mem _)
  have hpw := List.pairwise_iff_getElem.1 h.ap
  have hrow : ∀ k, v.ownBlock = some k → ¬ (k = xs[n].1 ∨ xs[n].2.1.ownBlock = some k) := fun k hk e => by
    obtain ⟨_, _, c1, e1⟩ := own_blk h.row hk
    rcases e with e | e
    · exact blk_ne e1 hx.1 (by decide) e
    · obtain ⟨_, _, c2, e2⟩ := own_blk hx.2.2 e
      exact blk_ne e1 e2 (by decide) rfl
  have hoth : ∀ j (hj : j < xs.length), j ≠ n → ¬ (xs[j].1 = xs[n].1 ∨ xs[n].2.1.ownBlock = some xs[j].1) ∧ ∀ k, xs[j].2.1.ownBlock = some k → ¬ (k = xs[n].1 ∨ xs[n].2.1.ownBlock = some k) := fun j hj hne => by
    have hy := h.cell xs[j] (List.getElem_mem _)
    have hpn : xs[j].1 ≠ xs[n].1 ∧ ∀ k, xs[j].2.1.ownBlock = some k → xs[n].2.1.ownBlock ≠ some k := by
      rcases Nat.lt_or_gt_of_ne hne with hl | hl
      · exact hpw j n hj hn hl
      · obtain ⟨a1, a2⟩ := hpw n j hn hj hl
        exact ⟨fun e => a1 e.symm, fun k e1 e2 => a2 k e2 e1⟩
    refine ⟨fun e => ?_, fun k hk e => ?_⟩
    · rcases e with e | e
      · exact hpn.1 e
      · obtain ⟨_, _, c2, e2⟩ := own_blk hx.2.2 e
        exact blk_ne hy.1 e2 (by decide) rfl
    · rcases e with e | e
      · obtain ⟨_, _, c2, e2⟩ := own_blk hy.2.2 hk
        exact blk_ne hx.1 e2 (by decide) e.symm
      · exact hpn.2 k hk e
  have hnew : ∀ j (hj : j < xs.length), j ≠ n → ∀ k, xs[j].2.1.ownBlock = some k → v'.ownBlock ≠ some k := fun j hj hne k hk e => by
    rcases h4 with hv | ⟨i, hv, hi, _⟩
    · exact (hoth j hj hne).2 k hk (Or.inr (hv.symm.trans e))
    · rw [hv] at e
      injection e with e
      have := (own_blk (h.cell xs[j] (List.getElem_mem _)).2.2 hk).2.1
      omega
  refine ⟨v', ?_, fun x hxm => ?_, ?_⟩
  · have e1 : (xs.set n (xs[n].1, v', g)).map ptG = xs.map ptG := by
      apply List.ext_getElem (by simp)
      intro j _ _
      simp only [List.getElem_map, List.getElem_set]
      split
      · rename_i e; subst e; rfl
      · rfl
    rw [e1, List.length_set]
    exact own_but h.row h3 hrow
  · obtain ⟨j, hj, rfl⟩ := List.mem_iff_getElem.1 hxm
    rw [List.length_set] at hj
    rw [List.getElem_set]
    split
    · rename_i e
      exact ⟨h1, hx.2.1, h2⟩
    · rename_i e
      have hy := h.cell xs[j] (List.getElem_mem _)
      have ho := hoth j hj (fun e' => e e'.symm)
      exact ⟨hy.1.but h3 ho.1, hy.2.1, own_but hy.2.2 h3 ho.2⟩
  · rw [List.pairwise_iff_getElem]
    intro i j hi hj hij
    rw [List.length_set] at hi hj
    rw [List.getElem_set, List.getElem_set]
    split
    · rename_i e
      subst e
      rw [if_neg (by omega)]
      obtain ⟨a1, a2⟩ := hpw n j hn hj hij
      exact ⟨a1, fun k hk e => hnew j hj (by omega) k e hk⟩
    · split
      · rename_i e1 e
        subst e
        obtain ⟨a1, a2⟩ := hpw i n hi hn hij
        exact ⟨a1, fun k hk e => hnew i hi (by omega) k hk e⟩
      · exact hpw i j hi hj hij

theorem Tryz.grpInfo3 : (Tryz.prog.info? 88).map (fun i => (i.zero, i.size, i.bytes)) = some (some (.pointer none), 1, 8) := by kernel_rfl
theorem Tryz.grpInfo : ∃ i0 : TypeInfo, Tryz.prog.info? 88 = some i0 ∧ i0.zero = some (.pointer none) ∧ i0.size = 1 ∧ i0.bytes = 8 := by
  have h := Tryz.grpInfo3
  cases hi : Tryz.prog.info? 88 with
  | none => rw [hi] at h; simp at h
  | some i =>
    rw [hi] at h
    simp only [Option.map_some, Option.some.injEq, Prod.mk.injEq] at h
    exact ⟨i, rfl, h.1, h.2.1, h.2.2⟩

theorem GrsIn.more {B : Nat} {W W8 W9 : World} {v : Value} {xs : List Gx} (h : GrsIn B W v xs) (hB : B ≤ W.heap.size) (g : ByteArray) (hW8 : W8 = W.alloc (.cells #[.string g, .int .i64 0, .slice none 0 0] 90)) (hW9 : W9 = W8.alloc (.cells #[.pointer (some ⟨W.heap.size, 0, none⟩)] 88)) (hl : xs.length ≤ 1000) :
    ∃ v' W2, (Builtin.append_ #[84, 84] 84 #[v, .slice (some ⟨W.heap.size + 1, 0, none⟩) 1 1]).run Tryz.prog W9 = .ok v' W2 ∧ GrsIn B W2 v' (xs ++ [(W.heap.size, .slice none 0 0, (g, 0, []))]) ∧ But (fun k => v.ownBlock = some k) W W2 := by
  obtain ⟨i0, hi, hz, hs, hby⟩ := Tryz.grpInfo
  have hal8 : Below W.heap.size W W8 := by rw [hW8]; exact (Below.refl _ _).alloc (Nat.le_refl _) _
  have hsz8 : W8.heap.size = W.heap.size + 1 := by rw [hW8]; simp
  have hal9 : Below W8.heap.size W8 W9 := by rw [hW9]; exact (Below.refl _ _).alloc (Nat.le_refl _) _
  have hg8 : GrC W8 W.heap.size (g, 0, []) (.slice none 0 0) := by rw [hW8]; exact heap_alloc_new _ _
  have hg9 := hg8.below hal9
  have hb9 := hal8.trans (hal9.mono hal8.size)
  have h9 := h.below hb9
  have hsrc : Src W9 (some ⟨W.heap.size + 1, 0, none⟩) 1 1 [.pointer (some ⟨W.heap.size, 0, none⟩)] := by
    rw [← hsz8, hW9]
    exact src_new W8 [.pointer (some ⟨W.heap.size, 0, none⟩)] 88 1 1
  obtain ⟨v', W2, hr, h1, hg, hv⟩ := run_append_src (P := Tryz.prog) W9 B 84 84 88 i0 (.pointer none) 1 8 Tryz.underlying84 hi hz hs hby rfl (by decide) v xs.length (xs.map ptG) h9.row (some ⟨W.heap.size + 1, 0, none⟩) 1 1 [.pointer (some ⟨W.heap.size, 0, none⟩)] rfl hsrc (by intro u hu; rw [List.mem_singleton] at hu; subst hu; rfl) (by unfold maxLen; omega) (by omega) (Nat.le_trans hB hb9.size)
  have hbut := But.grown hg
  have hty : ∀ k, v.ownBlock = some k → ∃ c, W9.heap[k]? = some (.cells c 88 (0, 0)) := fun k hk => (own_blk h9.row hk).2.2
  refine ⟨v', W2, hr, ⟨?_, fun x hx => ?_, ?_⟩, (But.of_below hb9).trans hbut (fun _ h _ => h)⟩
  · rw [List.length_append, List.map_append]
    exact h1
  · rw [List.mem_append, List.mem_singleton] at hx
    rcases hx with hx | rfl
    · have hc := h9.cell x hx
      refine ⟨hc.1.but hbut (fun e => ?_), hc.2.1, own_but hc.2.2 hbut (fun k hk e => ?_)⟩
      · obtain ⟨c, e2⟩ := hty _ e
        exact blk_ne hc.1 e2 (by decide) rfl
      · obtain ⟨c, e2⟩ := hty _ e
        obtain ⟨_, _, c1, e1⟩ := own_blk hc.2.2 hk
        exact blk_ne e1 e2 (by decide) rfl
    · refine ⟨hg9.but hbut (fun e => ?_), hB, World.ownsRow_nil _ _ _ _⟩
      obtain ⟨c, e2⟩ := hty _ e
      exact blk_ne hg9 e2 (by decide) rfl
  · rw [List.pairwise_append]
    refine ⟨h.ap, List.pairwise_singleton _ _, fun x hx y hy => ?_⟩
    rw [List.mem_singleton] at hy
    subst hy
    refine ⟨fun e => ?_, fun k _ e => by simp [Value.ownBlock] at e⟩
    have := (h.cell x hx).1.lt
    omega

def GrOk (xs : List Gx) : Prop := ∀ x ∈ xs, 0 ≤ x.2.2.2.1 ∧ x.2.2.2.1 ≤ 1000000

set_option maxRecDepth 100000 in
set_option maxHeartbeats 1000000 in
theorem ask_fit (f : Fl) (x : Gx) (fb : Nat) (w : World) (hf : FlAt w fb f) (hg : GrC w x.1 x.2.2 x.2.1) (h1 : 0 ≤ x.2.2.2.1 ∧ x.2.2.2.1 ≤ 1000000) (h2 : 0 ≤ f.2.2.1 ∧ f.2.2.1 ≤ 1000000) :
    Calls Tryz.prog 92 #[ptG x, .pointer (some ⟨fb, 0, none⟩)] w fun e w' => e = .returned (.bool (fitG f x.2.2)) ∧ Below w.heap.size w w' := by
  have hft := gfits_any f x.2.2 x.1 x.2.1 w hg h1 h2
  obtain ⟨c0, c1, c2, c3, c4, c5, -⟩ := hf.cells
  unfold ptG
  unfold flV at hft
  generalize fitG f x.2.2 = R at hft ⊢
  go_enter Tryz.func92, Tryz.ntmps92
  go_wp2_with fail
  refine hft.mono ?_
  rintro e w1 ⟨rfl, hb1⟩
  clear hft
  go_wp2
  go_ret
  exact ⟨rfl, hb1⟩

set_option maxRecDepth 100000 in
set_option maxHeartbeats 4000000 in
theorem indexP_any (B : Nat) (f : Fl) (fb : Nat) (v : Value) (xs : List Gx) (w : World) (hx : GrsIn B w v xs) (hf : FlAt w fb f) (hok : GrOk xs) (h2 : 0 ≤ f.2.2.1 ∧ f.2.2.1 ≤ 1000000) (hl : xs.length ≤ 20000) :
    Calls Tryz.prog 91 #[v, .func (.func 92) #[] #[.pointer (some ⟨fb, 0, none⟩)]] w fun e w' => ∃ i, e = .returned (.int .i64 i) ∧ IdxOf (fun x : Gx => fitG f x.2.2) xs i ∧ Below w.heap.size w w' := by
  have eg : ∀ args w, (callFunc 92 args).run Tryz.prog w = .ok (.enter 92 args) w := enters_of Tryz.func92 (by kernel_rfl) rfl
  have HASK : Hid (∀ x ∈ xs, ∀ W, Below w.heap.size w W → Calls Tryz.prog 92 #[ptG x, .pointer (some ⟨fb, 0, none⟩)] W fun e w' => e = .returned (.bool (fitG f x.2.2)) ∧ Below W.heap.size W w') := fun x hxm W hb => ask_fit f x fb W (hf.below hb) ((hx.cell x hxm).1.below hb) (hok x hxm) h2
  obtain ⟨q, cap, rfl⟩ := own_form hx.row
  have HFX : Hid (∀ W, Below w.heap.size w W → GrsIn B W (.slice q xs.length cap) xs) := fun W hb => hx.below hb
  obtain ⟨L, hL⟩ : ∃ L, xs.length = L := ⟨_, rfl⟩
  have HX : Hid (xs.length = L) := hL
  rw [hL] at hl HFX ⊢
  clear hL hx hf hok h2
  go_enter Tryz.func91, Tryz.ntmps91
  go_wp2
  go_loopw [8] (fun k wr => ∃ n : Nat, n ≤ L ∧ k = .int .i64 n ∧ (∀ j (h : j < xs.length), j < n → fitG f xs[j].2.2 = false) ∧ Below w.heap.size w wr) (fun k _ => L - (intOf k).toNat)
  case atStart => exact ⟨0, by omega, rfl, fun j h h' => absurd h' (Nat.not_lt_zero _), Below.refl _ _⟩
  case round =>
    obtain ⟨n, hn, rfl, hno, hb⟩ := hrel
    have HNO : Hid (∀ j (h : j < xs.length), j < n → fitG f xs[j].2.2 = false) := hno
    clear hno
    by_cases hlt : n < L
    · have hltx : n < xs.length := by rw [HX.out]; exact hlt
      obtain ⟨b, hq, hc⟩ := (HFX.out wr hb).at_ (fun e => by rw [e] at hltx; simp at hltx)
      subst hq
      have c0 := hc n hltx
      have hi : (n : Int) < (L : Int) := by omega
      have hi0' : (0 : Int) ≤ (n : Int) := by omega
      have hask := HASK.out xs[n] (List.getElem_mem _) wr hb
      have HY : Hid (fitG f xs[n].2.2 = true → IdxOf (fun x : Gx => fitG f x.2.2) xs n) := fun e => idx_yes (p := fun x : Gx => fitG f x.2.2) HNO.out hltx e
      have HN : Hid (fitG f xs[n].2.2 = false → ∀ j (h : j < xs.length), j < n + 1 → fitG f xs[j].2.2 = false) := fun e => no_succ (p := fun x : Gx => fitG f x.2.2) HNO.out hltx e
      generalize fitG f xs[n].2.2 = R at hask HY HN
      generalize xs[n] = x at c0 hask
      unfold ptG at c0 hask
      clear hc hltx
      go_wp2_with fail
      refine hask.mono ?_
      rintro e w1 ⟨rfl, hb1⟩
      have hB1 : Below w.heap.size w w1 := hb.trans (hb1.mono hb.size)
      clear hask
      cases R
      · have HN1 := HN.out rfl
        have HN2 : Hid (∀ j (h : j < xs.length), j < n + 1 → fitG f xs[j].2.2 = false) := HN1
        clear HN HN1 HY
        go_wp2
        go_roundw
        case rel => exact ⟨n + 1, by omega, by go_num, HN2.out, hB1⟩
        case measure => simp [intOf]; omega
      · have HI : Hid (IdxOf (fun x : Gx => fitG f x.2.2) xs n) := HY.out rfl
        clear HN HY
        go_wp2
        go_ret
        exact ⟨_, rfl, HI.out, hB1⟩
    · obtain rfl : n = L := by omega
      have HI : Hid (IdxOf (fun x : Gx => fitG f x.2.2) xs (-1)) := idx_no (p := fun x : Gx => fitG f x.2.2) (fun j hj _ => HNO.out j hj (by rw [← HX.out]; exact hj))
      go_wp2
      go_ret
      exact ⟨_, rfl, HI.out, hb⟩
end Go.Proofs.YtgckdomafbnmkaaGreatDoor
namespace Go.Proofs.YtgckdomafbnmkaaGreatDoor
open Go.RowKit Go.Extern.Stop Go.Stop Go.Extern Go.Sort Go.Shelf Go.Lib

set_option maxRecDepth 100000 in
set_option maxHeartbeats 4000000 in
theorem put_any (B : Nat) (f : Fl) (v : Value) (xs : List Gx) (w : World) (hx : GrsIn B w v xs) (hB : B ≤ w.heap.size) (hok : GrOk xs) (h2 : 0 ≤ f.2.2.1 ∧ f.2.2.1 ≤ 1000000) (hl : xs.length ≤ 900) (hlen : ∀ x ∈ xs, x.2.2.2.2.length ≤ 900) :
    Calls Tryz.prog 40 #[v, flV f] w fun e w' => ∃ v' xs', e = .returned v' ∧ GrsIn B w' v' xs' ∧ xs'.map (·.2.2) = putG f (xs.map (·.2.2)) ∧ Below B w w' := by
  have hal : Below w.heap.size w (w.alloc (.cells #[.string f.1, .string f.2.1, .int .i64 f.2.2.1, .int .i64 f.2.2.2.1, .int .i64 f.2.2.2.2.1, .int .i64 f.2.2.2.2.2] 43)) := (Below.refl _ _).alloc (Nat.le_refl _) _
  have hfn := FlAt.new w f
  have hxA := hx.below hal
  have hix := indexP_any B f w.heap.size v xs _ hxA hfn hok h2 (by omega)
  obtain ⟨q, cap, hv⟩ := own_form hx.row
  have HOK0 : Hid (GrOk xs) := hok
  have HLN0 : Hid (∀ x ∈ xs, x.2.2.2.2.length ≤ 900) := hlen
  obtain ⟨L, hL⟩ : ∃ L, xs.length = L := ⟨_, rfl⟩
  have HL : Hid (xs.length = L) := hL
  rw [hL] at hv
  subst hv
  clear hx hok hlen
  unfold flV
  go_enter Tryz.func40, Tryz.ntmps40
  go_upto_region 1 with fail
  generalize w.alloc (.cells #[.string f.1, .string f.2.1, .int .i64 f.2.2.1, .int .i64 f.2.2.2.1, .int .i64 f.2.2.2.2.1, .int .i64 f.2.2.2.2.2] 43) = WA at hal hfn hxA hix ⊢
  generalize w.heap.size = fb at hfn hix ⊢
  go_wp2_with fail
  refine hix.mono ?_
  rintro e w1 ⟨i, rfl, hi, hb1⟩
  clear hix
  have hx1 := hxA.below hb1
  have hfl := hfn.below hb1
  have hBA : B ≤ WA.heap.size := Nat.le_trans hB hal.size
  have hB1 : B ≤ w1.heap.size := Nat.le_trans hBA hb1.size
  have hBW : Below B w w1 := (hal.mono hB).trans (hb1.mono hBA)
  clear hal hfn hxA hb1 hBA
  rcases hi with ⟨rfl, hno⟩ | ⟨n, hn, rfl, hyes, hbef, -⟩
  · have HPG0 : Hid (putG f (xs.map (·.2.2)) = xs.map (·.2.2) ++ [takeG f (f.2.1, 0, [])]) := putG_none f (by rw [List.any_map]; exact hno)
    clear hno
    have z1 := hfl.cells.2.1
    obtain ⟨v2, W2, hr, hG2, hbu2⟩ := hx1.more hB1 f.2.1 rfl rfl (by omega)
    have hfl2 : FlAt W2 fb f := (hbu2.block fb (lt_of_block hfl) (fun e => by
      obtain ⟨_, _, c, e2⟩ := own_blk hx1.row e
      exact blk_ne hfl e2 (by decide) rfl)).trans hfl
    have hB2 : B ≤ W2.heap.size := Nat.le_trans hB1 hbu2.size
    have hBW2 : Below B w W2 := hBW.trans (hbu2.below hB1 (fun k hk => (own_blk hx1.row hk).1))
    have hr2 : (Builtin.append_ #[84, 84] 84 #[.slice q L cap, .slice (some ⟨w1.heap.size + 1, 0, none⟩) 1 1]).run Tryz.prog ((w1.alloc (.cells #[.string f.2.1, .int .i64 0, .slice none 0 0] 90)).alloc (.cells #[.pointer (some ⟨w1.heap.size, 0, none⟩)] 88)) = .ok v2 W2 := hr
    have HYS : Hid (∀ y ∈ xs ++ [(w1.heap.size, Value.slice none 0 0, ((f.2.1, 0, []) : Gp))], (0 ≤ y.2.2.2.1 ∧ y.2.2.2.1 ≤ 1000000) ∧ y.2.2.2.2.length ≤ 1000) := fun y hy => by
      rw [List.mem_append, List.mem_singleton] at hy
      rcases hy with hy | rfl
      · exact ⟨HOK0.out y hy, by have := HLN0.out y hy; omega⟩
      · exact ⟨⟨by simp, by simp⟩, by simp⟩
    have HPG1 : Hid (((xs ++ [(w1.heap.size, Value.slice none 0 0, ((f.2.1, 0, []) : Gp))]).map (·.2.2)).set L (takeG f (f.2.1, 0, [])) = putG f (xs.map (·.2.2))) := by
      show _ = _
      rw [HPG0.out, List.map_append]
      have e : L = (xs.map (·.2.2)).length := by rw [List.length_map, HL.out]
      rw [e, List.set_append_right _ _ (Nat.le_refl _)]
      simp
    have hnx : L < (xs ++ [(w1.heap.size, Value.slice none 0 0, ((f.2.1, 0, []) : Gp))]).length := by rw [List.length_append, HL.out]; simp
    have hy : (xs ++ [(w1.heap.size, Value.slice none 0 0, ((f.2.1, 0, []) : Gp))])[L]'hnx = (w1.heap.size, Value.slice none 0 0, (f.2.1, 0, [])) := by
      have e : L = xs.length := HL.out.symm
      subst e
      simp
    have hlen2 : (xs ++ [(w1.heap.size, Value.slice none 0 0, ((f.2.1, 0, []) : Gp))]).length = L + 1 := by rw [List.length_append, HL.out]; rfl
    generalize hysd : xs ++ [(w1.heap.size, Value.slice none 0 0, ((f.2.1, 0, []) : Gp))] = ys at *
    have HPG : Hid ((ys.map (·.2.2)).set L (takeG f ys[L].2.2) = putG f (xs.map (·.2.2))) := by
      show _ = _
      rw [hy]
      exact HPG1.out
    have HOK : Hid (∀ x ∈ ys, 0 ≤ x.2.2.2.1 ∧ x.2.2.2.1 ≤ 1000000) := fun x hx => (HYS.out x hx).1
    have HLN : Hid (∀ x ∈ ys, x.2.2.2.2.length ≤ 1000) := fun x hx => (HYS.out x hx).2
    obtain ⟨q2, c2, hv2⟩ := own_form hG2.row
    rw [hlen2] at hv2
    obtain ⟨L2, hL2⟩ : ∃ k, L + 1 = k := ⟨_, rfl⟩
    rw [hL2] at hv2
    have hi1 : (L : Int) < (L2 : Int) := by omega
    have hi0 : (0 : Int) ≤ (L : Int) := by omega
    subst hv2
    clear hr hysd hbu2 HPG0 HPG1 HOK0 HLN0 HYS hy hlen2 hL2 hx1 hBW hfl hB1
    go_upto_region 5 with (at_builtin; refine wpList_append_run (by rfl) _ _ _ (by rfl) _ _ _ (by rfl) (by rfl) hr2 ?_)
    clear hr2
    have hdr : Below W2.heap.size W2 W2.drew := (Below.refl _ _).drew
    have hGd := hG2.below hdr
    obtain ⟨b, hq, hc⟩ := hGd.at_ (fun e => by rw [e] at hnx; simp at hnx)
    obtain ⟨b', hq', hc'⟩ := hG2.at_ (fun e => by rw [e] at hnx; simp at hnx)
    obtain rfl : b' = b := by
      rw [hq] at hq'
      injection hq' with e
      injection e with e1 e2 e3
      exact e1.symm
    subst hq
    have c0 := hc _ hnx
    have c0' := hc' _ hnx
    have hxn := hGd.cell _ (List.getElem_mem hnx)
    have htk := gtake_any B f ys[L].2.2 ys[L].1 ys[L].2.1 W2.drew hxn.1 hxn.2.2 (Nat.le_trans hB2 hdr.size) (HOK.out _ (List.getElem_mem _)) h2 (HLN.out _ (List.getElem_mem _))
    have HEND : Hid (∀ w', TakeP B W2.drew ys[L].1 ys[L].2.1 (takeG f ys[L].2.2) w' → ∃ xs', GrsIn B w' (.slice (some ⟨b', 0, none⟩) L2 c2) xs' ∧ xs'.map (·.2.2) = putG f (xs.map (·.2.2)) ∧ Below B w w') := fun w' hp => by
      obtain ⟨v2, hG2⟩ := hGd.took hnx hp
      refine ⟨_, hG2, ?_, ?_⟩
      · rw [List.map_set]
        exact HPG.out
      · obtain ⟨_, _, _, hbu, _⟩ := hp
        exact (hBW2.trans (hdr.mono hB2)).trans (hbu.below (Nat.le_trans hB2 hdr.size) (fun k hk => by
          rcases hk with hk | hk
          · rw [hk]; exact hxn.2.1
          · exact (own_blk hxn.2.2 hk).1))
    generalize takeG f ys[L].2.2 = TG at htk HEND
    generalize ys[L] = x at c0 c0' htk HEND
    unfold ptG at c0 c0'
    unfold flV at htk
    obtain ⟨d0, d1, d2, d3, d4, d5, -⟩ := hfl2.cells
    have s0 := below_keep hdr d0
    have s1 := below_keep hdr d1
    have s2 := below_keep hdr d2
    have s3 := below_keep hdr d3
    have s4 := below_keep hdr d4
    have s5 := below_keep hdr d5
    clear hGd hc hc' hxn hnx hdr HPG HOK HLN
    first
      | (go_region_with (first | (go_at_call 94; refine htk.mono ?_; rintro e w9 ⟨rfl, hp9⟩)))
      | fail
    all_goals obtain ⟨xs', hG9, hm9, hb9⟩ := HEND.out w9 hp9
    all_goals clear htk HEND hp9
    all_goals go_wp2
    all_goals go_ret
    all_goals exact ⟨_, xs', rfl, hG9, hm9, hb9⟩
  · have hnx : n < xs.length := hn
    have HPG : Hid ((xs.map (·.2.2)).set n (takeG f xs[n].2.2) = putG f (xs.map (·.2.2))) := by
      show _ = _
      rw [putG_at f (gs := xs.map (·.2.2)) (n := n) (by simpa using hn) (by simpa using hyes) (fun j hj hjn => by have := hbef j (by simpa using hj) hjn; simpa using this)]
      simp
    have HOK : Hid (∀ x ∈ xs, 0 ≤ x.2.2.2.1 ∧ x.2.2.2.1 ≤ 1000000) := HOK0.out
    have HLN : Hid (∀ x ∈ xs, x.2.2.2.2.length ≤ 1000) := fun x hx => by have := HLN0.out x hx; omega
    have hi1 : (n : Int) < (L : Int) := by rw [HL.out] at hn; omega
    have hi0 : (0 : Int) ≤ (n : Int) := by omega
    clear hyes hbef HOK0 HLN0
    go_upto_region 5 with fail
    have hdr : Below w1.heap.size w1 w1.drew := (Below.refl _ _).drew
    have hGd := hx1.below hdr
    obtain ⟨b, hq, hc⟩ := hGd.at_ (fun e => by rw [e] at hnx; simp at hnx)
    obtain ⟨b', hq', hc'⟩ := hx1.at_ (fun e => by rw [e] at hnx; simp at hnx)
    obtain rfl : b' = b := by
      rw [hq] at hq'
      injection hq' with e
      injection e with e1 e2 e3
      exact e1.symm
    subst hq
    have c0 := hc _ hnx
    have c0' := hc' _ hnx
    have hxn := hGd.cell _ (List.getElem_mem hnx)
    have htk := gtake_any B f xs[n].2.2 xs[n].1 xs[n].2.1 w1.drew hxn.1 hxn.2.2 (Nat.le_trans hB1 hdr.size) (HOK.out _ (List.getElem_mem _)) h2 (HLN.out _ (List.getElem_mem _))
    have HEND : Hid (∀ w', TakeP B w1.drew xs[n].1 xs[n].2.1 (takeG f xs[n].2.2) w' → ∃ xs', GrsIn B w' (.slice (some ⟨b', 0, none⟩) L cap) xs' ∧ xs'.map (·.2.2) = putG f (xs.map (·.2.2)) ∧ Below B w w') := fun w' hp => by
      obtain ⟨v2, hG2⟩ := hGd.took hnx hp
      refine ⟨_, hG2, ?_, ?_⟩
      · rw [List.map_set]
        exact HPG.out
      · obtain ⟨_, _, _, hbu, _⟩ := hp
        exact (hBW.trans (hdr.mono hB1)).trans (hbu.below (Nat.le_trans hB1 hdr.size) (fun k hk => by
          rcases hk with hk | hk
          · rw [hk]; exact hxn.2.1
          · exact (own_blk hxn.2.2 hk).1))
    generalize takeG f xs[n].2.2 = TG at htk HEND
    generalize xs[n] = x at c0 c0' htk HEND
    unfold ptG at c0 c0'
    unfold flV at htk
    obtain ⟨d0, d1, d2, d3, d4, d5, -⟩ := hfl.cells
    have s0 := below_keep hdr d0
    have s1 := below_keep hdr d1
    have s2 := below_keep hdr d2
    have s3 := below_keep hdr d3
    have s4 := below_keep hdr d4
    have s5 := below_keep hdr d5
    clear hGd hc hc' hxn hnx hdr HPG HOK HLN
    first
      | (go_region_with (first | (go_at_call 94; refine htk.mono ?_; rintro e w9 ⟨rfl, hp9⟩)))
      | fail
    all_goals obtain ⟨xs', hG9, hm9, hb9⟩ := HEND.out w9 hp9
    all_goals clear htk HEND hp9
    all_goals go_wp2
    all_goals go_ret
    all_goals exact ⟨_, xs', rfl, hG9, hm9, hb9⟩
end Go.Proofs.YtgckdomafbnmkaaGreatDoor
namespace Go.Proofs.YtgckdomafbnmkaaGreatDoor
open Go.RowKit Go.Extern.Stop Go.Stop Go.Extern Go.Sort Go.Shelf Go.Lib

def sevG (gs : List Gp) : List (List ByteArray) := (gs.filter fun g => decide (1 < g.2.2.length)).map (·.2.2)

def TssAt (W : World) (v : Value) (ls : List (List ByteArray)) : Prop :=
  ∃ vs : List Value, vs.length = ls.length ∧ ((v = .slice none 0 0 ∧ ls = []) ∨ ∃ b cap, v = .slice (some ⟨b, 0, none⟩) ls.length cap ∧ ∀ j (h : j < vs.length), W.cell? ⟨b, j, none⟩ = some vs[j]) ∧ ∀ j (h : j < vs.length) (h' : j < ls.length), TsAt W vs[j] ls[j]

def sevN (xs : List Gx) (n : Nat) : List Value := ((xs.take n).filter fun x => decide (1 < x.2.2.2.2.length)).map (·.2.1)
theorem sevN_yes {xs : List Gx} {n : Nat} (h : n < xs.length) (e : 1 < xs[n].2.2.2.2.length) : sevN xs (n + 1) = sevN xs n ++ [xs[n].2.1] := by
  unfold sevN
  rw [List.take_succ_eq_append_getElem h, List.filter_append, List.map_append]
  simp [e]
theorem sevN_no {xs : List Gx} {n : Nat} (h : n < xs.length) (e : ¬ 1 < xs[n].2.2.2.2.length) : sevN xs (n + 1) = sevN xs n := by
  unfold sevN
  rw [List.take_succ_eq_append_getElem h, List.filter_append, List.map_append]
  simp [e]
theorem sevN_len (xs : List Gx) (n : Nat) : (sevN xs n).length ≤ xs.length := by
  unfold sevN
  rw [List.length_map]
  have h1 := List.length_filter_le (fun x : Gx => decide (1 < x.2.2.2.2.length)) (xs.take n)
  have h3 := List.length_take_le' n xs
  omega
theorem sev_map (xs : List Gx) : sevG (xs.map (·.2.2)) = ((xs.filter fun x => decide (1 < x.2.2.2.2.length))).map (fun x => x.2.2.2.2) := by
  unfold sevG
  rw [List.filter_map, List.map_map]
  rfl

theorem Tryz.txsInfo3 : (Tryz.prog.info? 39).map (fun i => (i.zero, i.size, i.bytes)) = some (some (.slice none 0 0), 1, 24) := by kernel_rfl
theorem Tryz.txsInfo : ∃ i0 : TypeInfo, Tryz.prog.info? 39 = some i0 ∧ i0.zero = some (.slice none 0 0) ∧ i0.size = 1 ∧ i0.bytes = 24 := by
  have h := Tryz.txsInfo3
  cases hi : Tryz.prog.info? 39 with
  | none => rw [hi] at h; simp at h
  | some i =>
    rw [hi] at h
    simp only [Option.map_some, Option.some.injEq, Prod.mk.injEq] at h
    exact ⟨i, rfl, h.1, h.2.1, h.2.2⟩
theorem txs_run {B : Nat} {W W9 : World} {v : Value} {us : List Value} (ho : W.ownsRow B 39 1 v us.length us) (hB : B ≤ W.heap.size) (u : Value) (h1 : u.oneCell' = true) (hW9 : W9 = W.alloc (.cells #[u] 39)) (hlen : us.length ≤ 1000) :
    ∃ v' W2, (Builtin.append_ #[33, 33] 33 #[v, .slice (some ⟨W.heap.size, 0, none⟩) 1 1]).run Tryz.prog W9 = .ok v' W2 ∧ W2.ownsRow B 39 1 v' (us ++ [u]).length (us ++ [u]) ∧ But (fun k => v.ownBlock = some k) W W2 := by
  obtain ⟨i0, hi, hz, hs, hby⟩ := Tryz.txsInfo
  have hal : Below W.heap.size W W9 := by rw [hW9]; exact (Below.refl _ _).alloc (Nat.le_refl _) _
  have hsrc : Src W9 (some ⟨W.heap.size, 0, none⟩) 1 1 [u] := by
    rw [hW9]
    exact src_new W [u] 39 1 1
  obtain ⟨v', W2, hr, h2, hg, hv⟩ := run_append_src (P := Tryz.prog) W9 B 33 33 39 i0 (.slice none 0 0) 1 24 Tryz.underlying33 hi hz hs hby rfl (by decide) v us.length us (own_but (P := fun _ => False) ho (But.of_below hal) (fun _ _ h => h)) (some ⟨W.heap.size, 0, none⟩) 1 1 [u] rfl hsrc (by intro u' hu; rw [List.mem_singleton] at hu; subst hu; exact h1) (by unfold maxLen; omega) (by omega) (Nat.le_trans hB hal.size)
  refine ⟨v', W2, hr, ?_, (But.of_below hal).trans (But.grown hg) (fun _ h _ => h)⟩
  rw [List.length_append]
  exact h2

theorem tss_own {B : Nat} {W : World} {v : Value} {xs : List Gx} {B0 : Nat} {v0 : Value} (ho : W.ownsRow B 39 1 v (sevN xs xs.length).length (sevN xs xs.length)) (hG : GrsIn B0 W v0 xs) : TssAt W v (sevG (xs.map (·.2.2))) := by
  have e0 : sevN xs xs.length = (xs.filter fun x => decide (1 < x.2.2.2.2.length)).map (·.2.1) := by unfold sevN; rw [List.take_length]
  rw [e0] at ho
  rw [sev_map]
  refine ⟨(xs.filter fun x => decide (1 < x.2.2.2.2.length)).map (·.2.1), by simp, ?_, fun j h h' => ?_⟩
  · rcases ho.2 with ⟨hv, hn⟩ | ⟨g, cap, cur, hv, _, hg, hc, _, _, ht⟩
    · refine Or.inl ⟨hv, ?_⟩
      rw [List.length_map] at hn
      rw [List.length_eq_zero_iff.1 hn]
      rfl
    · rw [List.length_map] at hv
      refine Or.inr ⟨g, cap, by rw [hv, List.length_map], fun j hj => ?_⟩
      rw [cell_of_row _ _ _ _ _ _ hg]
      have e : (cur.toList.take (((xs.filter fun x => decide (1 < x.2.2.2.2.length)).map (·.2.1)).length * 1))[j]? = ((xs.filter fun x => decide (1 < x.2.2.2.2.length)).map (·.2.1))[j]? := by rw [ht]
      rw [List.getElem?_take, if_pos (by omega), Array.getElem?_toList] at e
      rw [e, List.getElem?_eq_getElem hj]
  · simp only [List.getElem_map]
    have hm : (xs.filter fun x => decide (1 < x.2.2.2.2.length))[j]'(by simpa using h) ∈ xs := (List.mem_filter.1 (List.getElem_mem _)).1
    exact tsAt_own (hG.cell _ hm).2.2

set_option maxRecDepth 100000 in
set_option maxHeartbeats 4000000 in
theorem several_any (B : Nat) (v : Value) (xs : List Gx) (w : World) (hx : GrsIn B w v xs) (hl : xs.length ≤ 900) :
    Calls Tryz.prog 44 #[v] w fun e w' => ∃ v', e = .returned v' ∧ TssAt w' v' (sevG (xs.map (·.2.2))) ∧ Below w.heap.size w w' := by
  obtain ⟨q, cap, rfl⟩ := own_form hx.row
  have HFX : Hid (∀ W, Below w.heap.size w W → GrsIn B W (.slice q xs.length cap) xs) := fun W hb => hx.below hb
  have HFM : Hid (∀ x ∈ xs, ∃ q c, x.2.1 = .slice q x.2.2.2.2.length c) := fun x hxm => own_form (hx.cell x hxm).2.2
  have HSL : Hid (∀ n, (sevN xs n).length ≤ 900) := fun n => Nat.le_trans (sevN_len xs n) hl
  obtain ⟨L, hL⟩ : ∃ L, xs.length = L := ⟨_, rfl⟩
  have HX : Hid (xs.length = L) := hL
  rw [hL] at hl HFX ⊢
  clear hL hx
  go_enter Tryz.func44, Tryz.ntmps44
  go_wp2
  go_loopw [3, 8] (fun u k wr => ∃ n : Nat, n ≤ L ∧ k = .int .i64 n ∧ wr.ownsRow w.heap.size 39 1 u (sevN xs n).length (sevN xs n) ∧ Below w.heap.size w wr) (fun _ k _ => L - (intOf k).toNat)
  case atStart => exact ⟨0, by omega, rfl, World.ownsRow_nil _ _ _ _, Below.refl _ _⟩
  case round =>
    obtain ⟨n, hn, rfl, ho, hb⟩ := hrel
    have HO : Hid (wr.ownsRow w.heap.size 39 1 u3 (sevN xs n).length (sevN xs n)) := ho
    clear ho
    by_cases hlt : n < L
    · have hltx : n < xs.length := by rw [HX.out]; exact hlt
      obtain ⟨b, hq, hc⟩ := (HFX.out wr hb).at_ (fun e => by rw [e] at hltx; simp at hltx)
      subst hq
      have c0 := hc n hltx
      have hcl := (HFX.out wr hb).cell xs[n] (List.getElem_mem _)
      have c2 := hcl.1.cells.2.2.1
      have hi : (n : Int) < (L : Int) := by omega
      have hi0' : (0 : Int) ≤ (n : Int) := by omega
      obtain ⟨pq, pc, hpv⟩ := HFM.out xs[n] (List.getElem_mem _)
      have HY : Hid (1 < xs[n].2.2.2.2.length → sevN xs (n + 1) = sevN xs n ++ [xs[n].2.1]) := fun e => sevN_yes hltx e
      have HN : Hid (¬ 1 < xs[n].2.2.2.2.length → sevN xs (n + 1) = sevN xs n) := fun e => sevN_no hltx e
      generalize xs[n] = x at c0 c2 hpv HY HN
      unfold ptG at c0
      clear hc hltx hcl
      obtain ⟨xb, xv, xg⟩ := x
      dsimp only at *
      subst hpv
      generalize xg.2.2.length = PL at *
      by_cases h1 : 1 < PL
      · have hd : (1 : Int) < (PL : Int) := by omega
        obtain ⟨v', W6, hr, ho6, hbut⟩ := txs_run HO.out hb.size (.slice pq PL pc) rfl rfl (by have := HSL.out n; omega)
        have hB6 : Below w.heap.size w W6 := hb.trans (hbut.below hb.size (fun k hk => (own_blk HO.out hk).1))
        have HR : Hid (W6.ownsRow w.heap.size 39 1 v' (sevN xs (n + 1)).length (sevN xs (n + 1))) := by
          show World.ownsRow _ _ _ _ _ _ _
          rw [HY.out h1]
          exact ho6
        clear HY HN ho6 hbut HO h1
        go_wp2_with (at_builtin; refine wpList_append_run (by rfl) _ _ _ (by rfl) _ _ _ (by rfl) (by rfl) hr ?_)
        go_roundw
        case rel => exact ⟨n + 1, by omega, by go_num, HR.out, hB6⟩
        case measure => simp [intOf]; omega
      · have hd : ¬ (1 : Int) < (PL : Int) := by omega
        have HS : Hid (sevN xs (n + 1) = sevN xs n) := HN.out h1
        clear HY HN h1
        go_wp2
        go_roundw
        case rel => exact ⟨n + 1, by omega, by go_num, by rw [HS.out]; exact HO.out, hb⟩
        case measure => simp [intOf]; omega
    · obtain rfl : n = L := by omega
      have HT : Hid (TssAt wr u3 (sevG (xs.map (·.2.2)))) := tss_own (by rw [HX.out]; exact HO.out) (HFX.out wr hb)
      have hii : ¬ (n : Int) < (n : Int) := by omega
      clear HO
      go_wp2
      go_ret
      exact ⟨_, rfl, HT.out, hb⟩

set_option maxRecDepth 100000 in
set_option maxHeartbeats 1000000 in
theorem insert_tiny (q : Option Addr) (n c : Nat) (cv : Value) (h : n ≤ 1) (w : World) :
    Calls Tryz.prog 136 #[.slice q n c, .int .i64 0, .int .i64 n, cv] w fun e w' => e = .returned (.tuple #[]) ∧ w' = w := by
  have h1 : ¬ (1 : Int) < (n : Int) := by omega
  go_enter Tryz.func136, Tryz.ntmps136
  go_wp2
  refine wp_loop_rounds 1 ?_
  rw [rounds_succ]
  go_wp2
  go_end0
  exact ⟨rfl, rfl⟩

set_option maxRecDepth 100000 in
set_option maxHeartbeats 1000000 in
theorem stable_tiny (q : Option Addr) (n c : Nat) (cv : Value) (h : n ≤ 1) (w : World) :
    Calls Tryz.prog 95 #[.slice q n c, .int .i64 n, cv] w fun e w' => e = .returned (.tuple #[]) ∧ w' = w := by
  have h1 : ¬ (20 : Int) ≤ (n : Int) := by omega
  have h2 : ¬ (20 : Int) < (n : Int) := by omega
  have hin := insert_tiny q n c cv h w
  clear h
  go_enter Tryz.func95, Tryz.ntmps95
  go_wp2
  refine wp_loop_rounds 1 ?_
  rw [rounds_succ]
  go_wp2_with fail
  refine hin.mono ?_
  rintro e w1 ⟨rfl, rfl⟩
  go_wp2
  refine wp_loop_rounds 1 ?_
  rw [rounds_succ]
  go_wp2
  go_end0
  exact ⟨rfl, rfl⟩

set_option maxRecDepth 100000 in
theorem sortS_tiny (q : Option Addr) (n c : Nat) (cv : Value) (h : n ≤ 1) (w : World) :
    Calls Tryz.prog 41 #[.slice q n c, cv] w fun e w' => e = .returned (.tuple #[]) ∧ w' = w := by
  have hst := stable_tiny q n c cv h w
  go_enter Tryz.func41, Tryz.ntmps41
  go_wp2_with fail
  refine hst.mono ?_
  rintro e w1 ⟨rfl, rfl⟩
  go_wp2
  go_end0
  exact ⟨rfl, rfl⟩
end Go.Proofs.YtgckdomafbnmkaaGreatDoor
