/-
  The contracts of the program's Swap and Put.
-/
import Derived.RangeFuncFrom
import Derived.RangeFuncWrites
import Derived.RangeFuncBox
import Derived.Test.YtbdhdlloihkibaaGreatDoorStoName
namespace Go.Proofs.YtbdhdlloihkibaaGreatDoor
open Go.RowKit Go.Maps Go.Sort Go.Shelf
attribute [local go_sem] Oper.semAt_some

theorem bytesS_perm {l m : List Ob} (h : l.Perm m) : bytesS l = bytesS m := (h.map _).sum_nat
theorem bytesS_le {l : List Ob} (h : ∀ o ∈ l, o.2.1.size ≤ 20000) : bytesS l ≤ 20000 * l.length := by
  induction l with
  | nil => simp [bytesS]
  | cons o l ih =>
    have := ih fun p hp => h p (List.mem_cons_of_mem _ hp)
    have := h o (by simp)
    simp only [bytesS, List.map_cons, List.sum_cons, List.length_cons] at *
    omega
theorem bytesS_snoc {l : List Ob} (ps : List (OneOf l)) (o : OneOf l) : bytesS ((ps ++ [o]).map (·.1)) = bytesS (ps.map (·.1)) + o.1.2.1.size := by
  simp [bytesS]

set_option maxRecDepth 100000 in
set_option maxHeartbeats 2000000 in
theorem ssize_any {w : World} {b : Nat} {mo : Option Nat} {q : ByteArray → Nat} {s : St} (h : SIn w b mo q s) (hk : Keeps s) :
    Calls Tryz.prog 95 #[.pointer (some ⟨b, 0, none⟩)] w fun e w' => e = .returned (.int .i64 (bytesS s.obs)) ∧ Below w.heap.size w w' := by
  have c0 := h.block.cells.1
  refine (callsIn_wide (n := 5)).1 ?_
  refine callsIn_of_wp_marks Tryz.func95 rfl trivial ?_ rfl
  simp only [Tryz.ntmps95, List.size_toArray, List.length_cons, List.length_nil, Nat.reduceAdd, Nat.reduceSub, Array.replicate_succ, Array.replicate_zero, List.push_toArray, List.append_toArray, List.nil_append, List.cons_append]
  have c0' : (w.alloc (.cells #[.int .i64 0] 3)).cell? ⟨b, 0, none⟩ = some (.map mo) := below_keep ((Below.refl w.heap.size w).alloc (Nat.le_refl _) _) c0
  gi_wp2_with (refine ⟨trivial, ?_⟩; gi_at_call 116; refine (values_any _ _ _).mono ?_; rintro e w' ⟨rfl, rfl⟩)
  have hB0 : Below w.heap.size w ((w.alloc (.cells #[.int .i64 0] 3)).alloc (.cells #[.map mo] 64)) := ((Below.refl w.heap.size w).alloc (Nat.le_refl _) _).alloc (by simp) _
  have h2 := h.below hB0
  have hbx := Boxed.new (w.alloc (.cells #[.int .i64 0] 3)) 64 (.map mo)
  have hb0 := (Boxed.new w 3 (.int .i64 0)).alloc (.cells #[.map mo] 64)
  simp only [World.size_alloc] at hbx
  refine wpIn_rangeFunc_ownG (F := Fence.wide) rfl (by decide) (gf := 126) (lb := #[.pointer (some ⟨w.heap.size + 1, 0, none⟩)]) rfl trivial (enters_of Tryz.func126 (by kernel_rfl) rfl)
    (values_seq _ (by decide) (w.heap.size + 1) mo q s.obs h.rise _ hbx.cell h2.map) walksK_t walksK_b (Below.refl _ _) (fun _ => rfl)
    (fun pre W => Boxed W w.heap.size 3 (.int .i64 (bytesS (pre.map (·.1)))) ∧ Below w.heap.size w W)
    (fun _ _ _ => False)
    (OwnFrom.and (Own.from (boxed_own w.heap.size 3 (fun pre : List (OneOf s.obs) => Value.int .i64 (bytesS (pre.map (·.1))))) _) (ownFrom_below (Nat.le_refl _) (by simp; omega)))
    (fun _ _ _ _ _ hs _ _ => hs.elim) ?start ?a1 ?assign ?body ?done ?stop
  case assign =>
    intro l x W K hK
    gi_wp2
    exact hK
  case start => exact ⟨hb0, hB0⟩
  case stop =>
    rintro D' c pre W _ _ hf _
    exact hf.elim
  case body =>
    rintro l pre x W ⟨hv, hB⟩ hlen
    have hc := hv.cell
    have hf := hv.frozen
    have k0 := below_keep hB (h.objs.cells x.2).1
    have hsum : bytesS (pre.map (·.1)) ≤ 20000 * pre.length := by
      have := bytesS_le (l := pre.map (·.1)) fun o ho => by
        obtain ⟨p, _, rfl⟩ := List.mem_map.1 ho
        exact hk.texts _ p.2
      simpa using this
    have hmany := hk.many
    have hx := hk.texts _ x.2
    have HSN : Hid (((bytesS ((pre ++ [x]).map (·.1)) : Nat) : Int) = (bytesS (pre.map (·.1)) : Int) + (x.1.2.1.size : Int)) := by rw [bytesS_snoc]; rfl
    obtain ⟨A, hA⟩ : ∃ A, bytesS (pre.map (·.1)) = A := ⟨_, rfl⟩
    rw [hA] at hc hv hsum HSN
    have HV : Hid (Boxed W w.heap.size 3 (.int .i64 A)) := hv
    have HB : Hid (Below w.heap.size w W) := hB
    have hA2 : A ≤ 4000000 := by omega
    generalize x.1.2.1 = tx at k0 hx HSN
    generalize q x.1.1 = kx at k0 ⊢
    clear hv hB hA hsum hlen hmany hb0 h2 hB0 h hk c0 c0' hbx
    have hwr : IntKind.i64.wrap ((A : Int) + (tx.size : Int)) = (A : Int) + (tx.size : Int) := IntWalk.i64_in _ (by omega)
    gi_wp2
    gi_region
    all_goals gi_wp2
    all_goals (try rw [hwr])
    all_goals exact ⟨((KeepsOthers.setCell _ _ _).trans (KeepsOthers.drew _)).from _, ((KeepsOthers.setCell _ _ _).trans (KeepsOthers.drew _)).walks, by rw [HSN.out]; exact HV.out.set _, ((HB.out.setCell (p := ⟨w.heap.size, 0, none⟩) (Nat.le_refl _) _).drew)⟩
  case done =>
    rintro D' xs W hD hS ⟨hv, hB⟩ hK
    have hc := hv.cell
    rw [bytesS_perm hS] at hc
    have hB2 : Below w.heap.size w (W.putObj D' (.deferred none)) := hB.trans (belowK_b (w := w) (Nat.le_refl _) W D' _ _ (by simp at hD; omega) hK rfl rfl)
    gi_wp2
    refine ⟨by simp, .inl ⟨_, _, rfl, run_takeDeferred hK, ?_⟩⟩
    exact ⟨_, results_tmp rfl _ _ _, rfl, hB2⟩
end Go.Proofs.YtbdhdlloihkibaaGreatDoor
namespace Go.Proofs.YtbdhdlloihkibaaGreatDoor
open Go.RowKit Go.Extern.Stop Go.Stop Go.Extern Go.Sort Go.Shelf Go.Lib

section
variable {w : World} {b : Nat} {mo : Option Nat} {q : ByteArray → Nat} {s : St}
set_option maxRecDepth 100000 in
set_option maxHeartbeats 2000000 in
theorem mayPut_any (h : SIn w b mo q s) (hk : Keeps s) {a : Nat → Addr} (he : EnvO w a) (n t : ByteArray) (hn : n.size ≤ 1000) (ht : t.size ≤ 100000) :
    Calls Tryz.prog 67 #[.pointer (some ⟨b, 0, none⟩), .string n, .string t] w fun e w' => e = .returned (errV a (putE s n t)) ∧ Below w.heap.size w w' := by
  have hnm : n.size ≤ maxLen := by unfold maxLen; omega
  have hcn := oName_any n w hnm
  have HS : Hid (SIn w b mo q s) := h
  have HK : Hid (Keeps s) := hk
  have HE : Hid (EnvO w a) := he
  have hbs := bytesS_le hk.texts
  have hmany := hk.many
  unfold putE
  clear h hk he
  cases ho : objB n.data.toList with
  | false =>
    rw [ho] at hcn
    simp only [if_true]
    clear ho
    go_enter Tryz.func67, Tryz.ntmps67
    go_wp2_with (go_at_call 94; refine hcn.mono ?_; rintro e w1 ⟨rfl, hb⟩; have e1 := (HE.out.below hb).name)
    go_ret
    exact ⟨rfl, hb⟩
  | true =>
    rw [ho] at hcn
    rw [if_neg (by decide)]
    clear ho
    by_cases h1 : 20000 < t.size
    · rw [if_pos h1]
      have d1 : decide ((20000 : Int) < (t.size : Int)) = true := decide_eq_true (by omega)
      go_enter Tryz.func67, Tryz.ntmps67
      go_wp2_with (go_at_call 94; refine hcn.mono ?_; rintro e w1 ⟨rfl, hb⟩; have e1 := (HE.out.below hb).bound)
      go_ret
      exact ⟨rfl, hb⟩
    · rw [if_neg h1]
      have d1 : decide ((20000 : Int) < (t.size : Int)) = false := decide_eq_false (by omega)
      rcases Bool.eq_false_or_eq_true s.off with hoff | hoff
      · rw [if_pos hoff]
        go_enter Tryz.func67, Tryz.ntmps67
        go_wp2_with (go_at_call 94; refine hcn.mono ?_; rintro e w1 ⟨rfl, hb⟩; have e1 := (HE.out.below hb).off; have c3 := (HS.out.below hb).block.cells.2.2.2.1; rw [hoff] at c3)
        go_ret
        exact ⟨rfl, hb⟩
      · rw [if_neg (by rw [hoff]; decide)]
        cases hg : getO s.obs n with
        | some o =>
          have hl : ∀ w1, Below w.heap.size w w1 → (Instr.lookup 64 (.map mo) (.string n) false).run Tryz.prog w1 = .ok (ptrV (q n)) w1 := fun w1 hb => by
            have := (HS.out.below hb).map.look hnm
            rw [lookP_some (by rw [hg]; rfl)] at this
            exact this
          have HL : Hid _ := hl
          rw [if_pos (by rfl)]
          clear hl
          go_enter Tryz.func67, Tryz.ntmps67
          go_wp2_with (go_at_call 94; refine hcn.mono ?_; rintro e w1 ⟨rfl, hb⟩; have e1 := (HE.out.below hb).exist; obtain ⟨c0, _, _, c3, _⟩ := (HS.out.below hb).block.cells; rw [hoff] at c3; have hl := HL.out w1 hb)
          go_ret
          exact ⟨rfl, hb⟩
        | none =>
          have hl : ∀ w1, Below w.heap.size w w1 → (Instr.lookup 64 (.map mo) (.string n) false).run Tryz.prog w1 = .ok (.pointer none) w1 := fun w1 hb => by
            have := (HS.out.below hb).map.look hnm
            rw [lookP_none hg] at this
            exact this
          have HL : Hid _ := hl
          rw [if_neg (by decide)]
          clear hl hg
          by_cases h2 : 200 ≤ s.obs.length
          · rw [if_pos (Or.inl h2)]
            have d2 : decide ((200 : Int) ≤ (s.obs.length : Int)) = true := decide_eq_true (by omega)
            have HN : Hid (∀ w1, Below w.heap.size w w1 → ∀ ty, (Builtin.len_ #[64] ty #[.map mo]).run Tryz.prog w1 = .ok (.int .i64 s.obs.length) w1) := fun w1 hb ty => (HS.out.below hb).map.len ty
            generalize s.obs.length = L at d2 HN hmany hbs h2
            go_enter Tryz.func67, Tryz.ntmps67
            go_wp2_with (go_at_call 94; refine hcn.mono ?_; rintro e w1 ⟨rfl, hb⟩; have e1 := (HE.out.below hb).full; obtain ⟨c0, _, _, c3, _⟩ := (HS.out.below hb).block.cells; rw [hoff] at c3; have hl := HL.out w1 hb; have hln := HN.out w1 hb)
            go_ret
            exact ⟨rfl, hb⟩
          · have d2 : decide ((200 : Int) ≤ (s.obs.length : Int)) = false := decide_eq_false (by omega)
            have HN : Hid (∀ w1, Below w.heap.size w w1 → ∀ ty, (Builtin.len_ #[64] ty #[.map mo]).run Tryz.prog w1 = .ok (.int .i64 s.obs.length) w1) := fun w1 hb ty => (HS.out.below hb).map.len ty
            have HZ : Hid (∀ w1, Below w.heap.size w w1 → Calls Tryz.prog 95 #[.pointer (some ⟨b, 0, none⟩)] w1 fun e w' => e = .returned (.int .i64 (bytesS s.obs)) ∧ Below w1.heap.size w1 w') := fun w1 hb => ssize_any (HS.out.below hb) HK.out
            generalize hL : s.obs.length = L at d2 HN hmany hbs h2 ⊢
            generalize bytesS s.obs = Z at HZ hbs ⊢
            have hZ2 : (Z : Int) + (t.size : Int) ≤ 9223372036854775807 := by omega
            by_cases h3 : 262144 < Z + t.size
            · rw [if_pos (Or.inr h3)]
              have d3 : decide ((262144 : Int) < (Z : Int) + (t.size : Int)) = true := decide_eq_true (by omega)
              clear h3 h2 hbs hmany h1 hL
              go_enter Tryz.func67, Tryz.ntmps67
              go_wp2_with (first | (go_at_call 94; refine hcn.mono ?_; rintro e w1 ⟨rfl, hb⟩; obtain ⟨c0, _, _, c3, _⟩ := (HS.out.below hb).block.cells; rw [hoff] at c3; have hl := HL.out w1 hb; have hln := HN.out w1 hb; have hz := HZ.out w1 hb) | (go_at_call 95; refine hz.mono ?_; rintro e w2 ⟨rfl, hb2⟩; have hb3 : Below w.heap.size w w2 := hb.trans (hb2.mono hb.size); have e1 := (HE.out.below hb3).full))
              go_ret
              exact ⟨rfl, hb3⟩
            · rw [if_neg (by omega)]
              have d3 : decide ((262144 : Int) < (Z : Int) + (t.size : Int)) = false := decide_eq_false (by omega)
              clear h3 h2 hbs hmany h1 hL
              go_enter Tryz.func67, Tryz.ntmps67
              go_wp2_with (first | (go_at_call 94; refine hcn.mono ?_; rintro e w1 ⟨rfl, hb⟩; obtain ⟨c0, _, _, c3, _⟩ := (HS.out.below hb).block.cells; rw [hoff] at c3; have hl := HL.out w1 hb; have hln := HN.out w1 hb; have hz := HZ.out w1 hb) | (go_at_call 95; refine hz.mono ?_; rintro e w2 ⟨rfl, hb2⟩; have hb3 : Below w.heap.size w w2 := hb.trans (hb2.mono hb.size)))
              go_ret
              exact ⟨rfl, hb3⟩
end
end Go.Proofs.YtbdhdlloihkibaaGreatDoor
namespace Go.Proofs.YtbdhdlloihkibaaGreatDoor
open Go.RowKit Go.Extern.Stop Go.Stop Go.Extern Go.Sort Go.Shelf Go.Lib

theorem wrtS_cut1 {s : St} {n : Nat} (h : s.cut ≤ 9223372036854775807) : (wrtS s n).2.cut ≤ 9223372036854775807 := by
  unfold wrtS
  split
  · exact h
  · split
    · exact h
    · dsimp only; omega

section
variable {w : World} {b : Nat} {mo : Option Nat} {q : ByteArray → Nat} {s : St}
set_option maxRecDepth 100000 in
set_option maxHeartbeats 2000000 in
theorem sswap_any (h : SIn w b mo q s) {a : Nat → Addr} (he : EnvO w a) (old t : ByteArray) (ht : t.size ≤ 100000) :
    Calls Tryz.prog 41 #[.pointer (some ⟨b, 0, none⟩), .string old, .string t] w fun e w' => e = .returned (errV a (swapC s old t)) ∧ SPost SAtP w (.pointer (some ⟨b, 0, none⟩)) (fpS b mo q s.obs) (swapS s old t) w' := by
  obtain ⟨_, c1, _, c3, _⟩ := h.block.cells
  have e1 := he.bound
  have e2 := he.off
  have e3 := he.stale
  have HS : Hid (SPost SAtP w (.pointer (some ⟨b, 0, none⟩)) (fpS b mo q s.obs) s w) := spost_of h (But.refl _ _) fun k hk => Or.inl hk
  by_cases h1 : 20000 < t.size
  · have hE : swapE s old t = 2 := by unfold swapE; rw [if_pos h1]
    have hC : swapC s old t = 2 := by unfold swapC; rw [hE]; rfl
    have hT : swapS s old t = s := by unfold swapS; rw [hE]; rfl
    rw [hC, hT]
    have d1 : decide ((20000 : Int) < (t.size : Int)) = true := decide_eq_true (by omega)
    clear h he hE hC hT h1
    go_enter Tryz.func41, Tryz.ntmps41
    go_wp2
    go_ret
    exact ⟨rfl, HS.out⟩
  · have d1 : decide ((20000 : Int) < (t.size : Int)) = false := decide_eq_false (by omega)
    rcases Bool.eq_false_or_eq_true s.off with hoff | hoff
    · have hE : swapE s old t = 12 := by unfold swapE; rw [if_neg h1, if_pos hoff]
      have hC : swapC s old t = 12 := by unfold swapC; rw [hE]; rfl
      have hT : swapS s old t = s := by unfold swapS; rw [hE]; rfl
      rw [hC, hT]
      rw [hoff] at c3
      clear h he hE hC hT h1
      go_enter Tryz.func41, Tryz.ntmps41
      go_wp2
      go_ret
      exact ⟨rfl, HS.out⟩
    · rw [hoff] at c3
      by_cases h2 : s.head = old
      · have hE : swapE s old t = 0 := by unfold swapE; rw [if_neg h1, if_neg (by rw [hoff]; decide), if_neg (by simp [h2])]
        have d2 := nm_eq h2
        have hw := swrite_any h.block he t (by unfold maxLen; omega) hoff h.cut
        have hwh := wrtS_whole (s := s) (n := t.size) hoff
        have hle := wrtS_le s t.size
        obtain ⟨g1, g2, g3⟩ := wrtS_obs s t.size
        have HSW : Hid (∀ w', WrtP a w b mo s t (.returned (.tuple #[.string (t.extract 0 (wrtS s t.size).1), errV a (if (wrtS s t.size).2.off = true then 12 else 0)])) w' → (wrtS s t.size).2.off = true → SPost SAtP w (.pointer (some ⟨b, 0, none⟩)) (fpS b mo q s.obs) (swapS s old t) w') := fun w' hp ho => by
          have hT : swapS s old t = (wrtS s t.size).2 := by
            unfold swapS
            rw [hE, if_neg (by decide), if_pos (by
              have hne : ¬ (wrtS s t.size).1 = t.size := fun e => by have := hwh.2 e; rw [ho] at this; cases this
              omega)]
          rw [hT]
          exact spost_turned h hp.2.2 (by rw [g2, g3]; exact hp.2.1) g1 (wrtS_cut1 h.cut)
        have HSO : Hid (∀ w', WrtP a w b mo s t (.returned (.tuple #[.string (t.extract 0 (wrtS s t.size).1), errV a (if (wrtS s t.size).2.off = true then 12 else 0)])) w' → (wrtS s t.size).2.off = false → SPost SAtP w (.pointer (some ⟨b, 0, none⟩)) (fpS b mo q s.obs) (swapS s old t) (w'.setCell ⟨b, 1, none⟩ (.string t))) := fun w' hp ho => by
          have hT : swapS s old t = { (wrtS s t.size).2 with head := t } := by
            unfold swapS
            rw [hE, if_neg (by decide), if_neg (by have := hwh.1 ho; omega)]
          rw [hT]
          exact spost_turned h (hp.2.2.setCell (Or.inl rfl) _) (by dsimp only; rw [g3]; exact hp.2.1.head t) g1 (wrtS_cut1 h.cut)
        have HC1 : Hid ((wrtS s t.size).2.off = true → swapC s old t = 12) := fun ho => by
          unfold swapC
          rw [hE, if_neg (by decide), if_pos (by
            have hne : ¬ (wrtS s t.size).1 = t.size := fun e => by have := hwh.2 e; rw [ho] at this; cases this
            omega)]
        have HC0 : Hid ((wrtS s t.size).2.off = false → swapC s old t = 0) := fun ho => by
          unfold swapC
          rw [hE, if_neg (by decide), if_neg (by have := hwh.1 ho; omega)]
        have hx : (wrtS s t.size).2.off = false → t.extract 0 (wrtS s t.size).1 = t := fun ho => by rw [hwh.1 ho, extract_all]
        rcases Bool.eq_false_or_eq_true (wrtS s t.size).2.off with ho | ho
        · rw [HC1.out ho]
          have hw2 : Calls Tryz.prog 68 #[.pointer (some ⟨b, 3, none⟩), .string t] w fun e w' => e = .returned (.tuple #[.string (t.extract 0 (wrtS s t.size).1), .iface 201 (.pointer (some (a 11)))]) ∧ SPost SAtP w (.pointer (some ⟨b, 0, none⟩)) (fpS b mo q s.obs) (swapS s old t) w' := hw.mono fun e w' hp => by
            have hp' := hp
            obtain ⟨rfl, hp2⟩ := hp'
            refine ⟨by rw [ho]; rfl, HSW.out _ hp ho⟩
          generalize t.extract 0 (wrtS s t.size).1 = tx at hw2
          clear h he hE h1 h2 hw hwh hle g1 g2 g3 hx ho
          go_enter Tryz.func41, Tryz.ntmps41
          go_wp2_with (go_at_call 68; refine hw2.mono ?_; rintro e w1 ⟨rfl, hp⟩)
          go_ret
          exact ⟨rfl, hp⟩
        · rw [HC0.out ho]
          have hw2 : Calls Tryz.prog 68 #[.pointer (some ⟨b, 3, none⟩), .string t] w fun e w' => e = .returned (.tuple #[.string t, .nilIface]) ∧ (∃ x, w'.cell? ⟨b, 1, none⟩ = some x) ∧ w'.cell? ⟨b, 1, none⟩ = some (.string s.head) ∧ w'.frozen? ⟨b, 1, none⟩ = false ∧ SPost SAtP w (.pointer (some ⟨b, 0, none⟩)) (fpS b mo q s.obs) (swapS s old t) (w'.setCell ⟨b, 1, none⟩ (.string t)) := hw.mono fun e w' hp => by
            have hp' := hp
            obtain ⟨rfl, hp2, hp3⟩ := hp'
            refine ⟨by rw [ho, hx ho]; rfl, ⟨_, hp2.cells.2.1⟩, hp2.cells.2.1, hp2.cells.2.2.2.2.2.2 1, HSO.out _ hp ho⟩
          clear h he hE h1 h2 hw hwh hle g1 g2 g3 hx ho
          go_enter Tryz.func41, Tryz.ntmps41
          go_wp2_with (go_at_call 68; refine hw2.mono ?_; rintro e w1 ⟨rfl, -, k1, f1, hp⟩)
          go_ret
          exact ⟨rfl, hp⟩
      · have hE : swapE s old t = 11 := by unfold swapE; rw [if_neg h1, if_neg (by rw [hoff]; decide), if_pos h2]
        have hC : swapC s old t = 11 := by unfold swapC; rw [hE]; rfl
        have hT : swapS s old t = s := by unfold swapS; rw [hE]; rfl
        rw [hC, hT]
        have d2 := nm_ne h2
        clear h he hE hC hT h1 h2
        go_enter Tryz.func41, Tryz.ntmps41
        go_wp2
        go_ret
        exact ⟨rfl, HS.out⟩

theorem SIn.added {w' : World} {mb k : Nat} {n t : ByteArray} {d : Int} {s1 : St} (h : SIn w b mo q s) (hn : ∀ p ∈ s.obs, p.1 ≠ n) (hb : SC w' b (some mb) s1.head s1.day s1.off (waitsB s1) (leftI s1)) (hc : s1.cut ≤ 9223372036854775807)
    (hm : PtrMap w' mb (setQ q n k) (insO s.obs (n, t, d))) (hx : w'.heap[k]? = some (.cells #[.string t, .int .i64 d] 101 (0, 0))) (ho : ∀ o ∈ s.obs, w'.heap[q o.1]? = w.heap[q o.1]?) : SIn w' b (some mb) (setQ q n k) { s1 with obs := insO s.obs (n, t, d) } := by
  refine ⟨hb, Or.inr ⟨mb, rfl, hm⟩, fun o hm' => ?_, insO_rise (o := (n, t, d)) h.rise hn, hc⟩
  rcases insO_mem.1 hm' with rfl | hmo
  · rw [setQ_same]; exact hx
  · rw [setQ_other _ _ (hn o hmo)]
    exact (ho o hmo).trans (h.objs o hmo)
end
end Go.Proofs.YtbdhdlloihkibaaGreatDoor
