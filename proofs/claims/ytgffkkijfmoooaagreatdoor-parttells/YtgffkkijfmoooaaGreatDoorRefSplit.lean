/-
  The contracts of the document's own Fine, Bare and SplitOf.
-/
import Derived.Test.YtgffkkijfmoooaaGreatDoorSplitMem
import Derived.Test.YtgffkkijfmoooaaGreatDoorRefGroup
import Derived.Test.YtgffkkijfmoooaaGreatDoorRefSort
import Derived.Test.YtgffkkijfmoooaaGreatDoorRefCut
import Derived.Test.YtgffkkijfmoooaaGreatDoorPartPure
import Derived.Deep.RegionHeld3
import Derived.Deep.AppendLies
namespace Go.Proofs.YtgffkkijfmoooaaGreatDoor
open Go.RowKit Go.Extern.Stop Go.Stop Go.Extern Go.Sort Go.Shelf Go.Lib

theorem fine_any (w : World) : Calls Tryz.prog 66 #[] w fun e w' => e = .returned (.agg #[.int .i64 0, .int .i64 (-1)]) ∧ Below w.heap.size w w' := by
  go_enter Tryz.func66, Tryz.ntmps66
  go_wp2
  refine bodyPost_ret (v := .agg #[.int .i64 0, .int .i64 (-1)]) (by simp [results, Tryz.results66, go_sem]) rfl ⟨rfl, ?_⟩
  exact (Below.refl _ _).alloc (Nat.le_refl _) _

theorem bare_any (n : Int) (w : World) : Calls Tryz.prog 65 #[.int .i64 n] w fun e w' => e = .returned (.agg #[.int .i64 n, .int .i64 (-1)]) ∧ Below w.heap.size w w' := by
  go_enter Tryz.func65, Tryz.ntmps65
  go_wp2
  refine bodyPost_ret (v := .agg #[.int .i64 n, .int .i64 (-1)]) (by simp [results, Tryz.results65, go_sem]) rfl ⟨rfl, ?_⟩
  exact (Below.refl _ _).alloc (Nat.le_refl _) _

theorem Tryz.refGroupInfo3 : (Tryz.prog.info? 65).map (fun i => (i.zero, i.size, i.bytes)) = some (some (.agg #[.string ⟨#[]⟩, .slice none 0 0]), 2, 40) := by kernel_rfl
theorem Tryz.refGroupInfo : ∃ i0 : TypeInfo, Tryz.prog.info? 65 = some i0 ∧ i0.zero = some (.agg #[.string ⟨#[]⟩, .slice none 0 0]) ∧ i0.size = 2 ∧ i0.bytes = 40 := by
  obtain ⟨i, hi, h⟩ := Option.map_eq_some_iff.1 Tryz.refGroupInfo3
  simp only [Prod.mk.injEq] at h
  exact ⟨i, hi, h.1, h.2.1, h.2.2⟩

theorem flat_ge (f : List UInt8 → List Rw) : ∀ ts : List (List UInt8), (∀ t ∈ ts, f t ≠ []) → ts.length ≤ (ts.flatMap f).length
  | [], _ => by simp
  | t :: ts, h => by
    have h1 := flat_ge f ts (fun u hu => h u (List.mem_cons_of_mem _ hu))
    have h2 := List.length_pos_iff.2 (h t List.mem_cons_self)
    rw [List.flatMap_cons, List.length_append, List.length_cons]
    omega

theorem get_mid (l r : List (List UInt8)) (x : List UInt8) (k : Nat) (hk : l.length = k) (h : k < (l ++ x :: r).length) : (l ++ x :: r)[k] = x := by subst hk; simp

theorem less_yes {x y : List UInt8} (h : x < y) (a b : ByteArray) (ha : a.data.toList = x) (hb : b.data.toList = y) : Op.bytesLess a.toList b.toList = true := by
  rw [ByteArray.toList_eq, ByteArray.toList_eq, ha, hb, bytesLess_eq]; simpa using h
theorem less_no {x y : List UInt8} (h : ¬ x < y) (a b : ByteArray) (ha : a.data.toList = x) (hb : b.data.toList = y) : Op.bytesLess a.toList b.toList = false := by
  rw [ByteArray.toList_eq, ByteArray.toList_eq, ha, hb, bytesLess_eq]; simpa using h
theorem same_yes {x y : List UInt8} (h : x = y) (a b : ByteArray) (ha : a.data.toList = x) (hb : b.data.toList = y) : (a.toList == b.toList) = true := by
  rw [ByteArray.toList_eq, ByteArray.toList_eq, ha, hb]; simpa using h
theorem same_no {x y : List UInt8} (h : ¬ x = y) (a b : ByteArray) (ha : a.data.toList = x) (hb : b.data.toList = y) : (a.toList == b.toList) = false := by
  rw [ByteArray.toList_eq, ByteArray.toList_eq, ha, hb]; simpa using h

theorem grp_one (hv : List UInt8 → Value) (ts : List (List UInt8)) (h : ∀ nm, (hv nm).oneCell' = true) : ∀ u ∈ grpCells hv ts, u.oneCell' = true := by
  intro u hu
  simp only [grpCells, List.mem_flatMap] at hu
  obtain ⟨nm, _, hu⟩ := hu
  simp only [List.mem_cons, List.not_mem_nil, or_false] at hu
  rcases hu with rfl | rfl
  · rfl
  · exact h nm

theorem own_one {w : World} {base : Nat} {e : TypeId} {size : Nat} {v : Value} {n : Nat} {xs : List Value} (h : w.ownsRow base e size v n xs) : v.oneCell' = true := by
  rcases h.2 with ⟨rfl, _⟩ | ⟨g, cap, cur, rfl, _⟩ <;> rfl

/-- What SplitOf hands back, where the first m rows are right and the next one, if there is one, is not. -/
def SplitPost (w : World) (p : Rw → ByteArray) (xs : List Rw) (m : Nat) (e : Ending) (w' : World) : Prop :=
  (m = xs.length ∧ ∃ v ts hv, e = .returned (.tuple #[v, .agg #[.int .i64 0, .int .i64 (-1)]]) ∧ GrpM w' w.heap.size v p xs ts hv ∧ Rise p xs ts ∧ Below w.heap.size w w') ∨
  (∃ h : m < xs.length, e = .returned (.tuple #[.slice none 0 0, .agg #[.int .i64 (rowE xs[m]), .int .i64 m]]) ∧ Below w.heap.size w w')

set_option maxRecDepth 100000 in
set_option maxHeartbeats 16000000 in
theorem splitOf_any (s : ByteArray) (q : Option Addr) (cap : Nat) (xs : List Rw) (w : World) (hs : s.size ≤ 1000) (hx : RowsAt w (.slice q xs.length cap) xs) (hl : xs.length ≤ 1000) (hp : ∀ x ∈ xs, x.1.size ≤ 30) (hok : (specO s.data.toList).1 = 0)
    (m : Nat) (hm : m ≤ xs.length) (hgood : ∀ i (h : i < xs.length), i < m → rowE xs[i] = 0) (hend : ∀ (h : m < xs.length), rowE xs[m] ≠ 0) :
    Calls Tryz.prog 36 #[.string s, .slice q xs.length cap] w fun e w' => SplitPost w (grpB (specO s.data.toList).2.1 (specO s.data.toList).2.2) xs m e w' := by
  obtain ⟨i0, hi0, hz0, hs0, hby0⟩ := Tryz.rowInfo
  obtain ⟨i1, hi1, hz1, hs1, hby1⟩ := Tryz.refGroupInfo
  have hsp := fun W => specOf_any s W hs
  have hgo := fun (W : World) (x : Rw) (hxe : rowE x = 0) => groupOf_any s x W hs hok hxe
  rw [hok] at hsp
  generalize grpB (specO s.data.toList).2.1 (specO s.data.toList).2.2 = p at hgo ⊢
  generalize specW s.data.toList = sw at hsp
  generalize (specO s.data.toList).2.2 = nn at hsp
  obtain ⟨L, hL⟩ : ∃ L, xs.length = L := ⟨_, rfl⟩
  have HX : Hid (xs.length = L) := hL
  have HGOOD : Hid (∀ i (h : i < xs.length), i < m → rowE xs[i] = 0) := hgood
  have HEND : Hid (∀ (h : m < xs.length), rowE xs[m] ≠ 0) := hend
  rw [hL] at hx hl hm
  have harg : (Value.slice q xs.length cap) = .slice q L cap := by rw [hL]
  rw [harg]
  clear hL hok hgood hend harg
  have hal : Below w.heap.size w (w.alloc (.cells #[.int .i64 0, .int .i64 0] 61)) := (Below.refl _ _).alloc (Nat.le_refl _) _
  go_enter Tryz.func36, Tryz.ntmps36
  go_wp2_with fail
  refine (hsp _).mono ?_
  rintro e w1 ⟨rfl, hb1⟩
  clear hsp
  have hB1 : Below w.heap.size w w1 := hal.trans (hb1.mono hal.size)
  have f0 : w1.cell? ⟨w.heap.size, 0, none⟩ = some (.int .i64 0) := below_keep hb1 (by simp)
  have f1 : w1.cell? ⟨w.heap.size, 1, none⟩ = some (.int .i64 0) := below_keep hb1 (by simp)
  have fz : ∀ o, w1.frozen? ⟨w.heap.size, o, none⟩ = false := fun o => by rw [hb1.frozen (p := ⟨w.heap.size, o, none⟩) (by simp)]; exact frozen_of_row _ _ _ _ _ (heap_alloc_new _ _)
  have hx1 : ∀ W, Below w1.heap.size w1 W → RowsAt W (.slice q L cap) xs := fun W hW => hx.below (hB1.trans (hW.mono hB1.size))
  have hF : w.heap.size < w1.heap.size := cell_lt f0
  clear hx hal hb1
  go_wp2
  go_loopw [9, 10] (fun out k wr => ∃ (n : Nat) (ts : List (List UInt8)) (hv : List UInt8 → Value), n ≤ m ∧ k = .int .i64 n ∧ Below w1.heap.size w1 wr ∧ GrpM wr w1.heap.size out p (xs.take n) ts hv ∧ Rise p (xs.take n) ts ∧ (∀ nm, nm ∉ ts → hv nm = .slice none 0 0)) (fun _ k _ => L - (intOf k).toNat)
  case atStart => exact ⟨0, [], fun _ => .slice none 0 0, by omega, rfl, Below.refl _ _, by simpa using GrpM.nil _ _ p, by simpa using Rise.nil p, fun _ _ => rfl⟩
  case round =>
    obtain ⟨n, ts, hv, hn, rfl, hb, hG, hR, hNil⟩ := hrel
    by_cases hltm : n < m
    · have hlt : n < L := by omega
      have hltx : n < xs.length := by rw [HX.out]; exact hlt
      have hrows := hx1 wr hb
      rcases hrows with ⟨_, _, e, e'⟩ | ⟨b, o, cap2, e, hcells⟩
      · exfalso; have := HX.out; rw [e'] at this; simp at this; omega
      injection e with e1 e2 e3
      subst e1
      clear e2 e3
      obtain ⟨c1, c2, c3⟩ := hcells n hltx
      clear hcells
      have HBL : Hid (b < w1.heap.size) := by
        rcases hx1 w1 (Below.refl _ _) with ⟨_, _, e, e'⟩ | ⟨b', o', c', e, hc⟩
        · exfalso; have := HX.out; rw [e'] at this; simp at this; omega
        · injection e with e1
          injection e1 with e1
          injection e1 with e1
          subst e1
          exact cell_lt (hc n hltx).1
      have hi : (n : Int) < (L : Int) := by omega
      have hi0' : (0 : Int) ≤ (n : Int) := by omega
      have hmem : xs[n] ∈ xs := List.getElem_mem _
      have hrok := HGOOD.out n hltx hltm
      have hrp := hp _ hmem
      have htk : xs.take (n + 1) = xs.take n ++ [xs[n]] := by rw [List.take_append_getElem hltx]
      have hre := fun W => rowError_any xs[n] W (by unfold maxLen; omega)
      have hgn := fun W => hgo W xs[n] hrok
      rw [hrok] at hre
      generalize xs[n] = x at c1 c2 c3 hre hgn htk
      have HT : Hid (xs.take (n + 1) = xs.take n ++ [x]) := htk
      have htl : (xs.take n).length = n := by rw [List.length_take]; omega
      have HTL : Hid ((xs.take n).length = n) := htl
      clear htk hmem hrp htl hrok hltx
      generalize xs.take n = ys at hG hR HT HTL
      obtain ⟨xp, xk, xv⟩ := x
      obtain ⟨nb, hnb⟩ : ∃ nb, p (xp, xk, xv) = nb := ⟨_, rfl⟩
      have HNB : Hid (p (xp, xk, xv) = nb) := hnb
      rw [hnb] at hgn
      clear hnb
      dsimp only at c1 c2 c3 hre hgn
      go_wp2_with fail
      refine (hre wr).mono ?_
      rintro e w2 ⟨rfl, hb2⟩
      clear hre
      have d1 := below_keep hb2 c1
      have d2 := below_keep hb2 c2
      have d3 := below_keep hb2 c3
      clear c1 c2 c3
      go_wp2_with fail
      refine (hgn w2).mono ?_
      rintro e w3 ⟨rfl, hb3⟩
      clear hgn
      have e1 := below_keep hb3 d1
      have e2 := below_keep hb3 d2
      have e3 := below_keep hb3 d3
      clear d1 d2 d3
      have hb23 : Below wr.heap.size wr w3 := hb2.trans (hb3.mono hb2.size)
      have hB3 : Below w1.heap.size w1 w3 := hb.trans (hb23.mono hb.size)
      have hG3 := hG.below hb23
      clear hG hb23 hb2 hb3 hb
      have hTL : ts.length ≤ n := by
        have h1 := flat_ge (grp p ys) ts (fun t ht => (hR.has t).1 ht)
        rw [(groups_perm p ys ts hR.nodup hR.has).length_eq, HTL.out] at h1
        exact h1
      have hone : ∀ nm, (hv nm).oneCell' = true := fun nm => own_one (hG3.own nm)
      have hglen : ∀ nm, (grp p ys nm).length ≤ n := fun nm => by rw [← HTL.out]; exact List.length_filter_le _ _
      obtain ⟨T, hT⟩ : ∃ T, ts.length = T := ⟨_, rfl⟩
      have HTT : Hid (ts.length = T) := hT
      have hR' : Hid (Rise p ys ts) := hR
      have hN' : Hid (∀ nm, nm ∉ ts → hv nm = .slice none 0 0) := hNil
      have hON : Hid (∀ nm, (hv nm).oneCell' = true) := hone
      have hGL : Hid (∀ nm, (grp p ys nm).length ≤ n) := hglen
      rw [hT] at hTL
      clear hR hNil hone hglen hT
      have hout := hG3.out
      have hGG : Hid (GrpM w3 w1.heap.size u9 p ys ts hv) := hG3
      clear hG3
      rcases hout.2 with ⟨rfl, h0⟩ | ⟨g, cp, cur, rfl, hgb, _, hcp, _⟩
      · have hts : ts = [] := List.length_eq_zero_iff.1 h0
        have hT0 : T = 0 := by rw [← HTT.out]; exact h0
        subst hT0
        have HNOT : Hid (nb.data.toList ∉ ts) := by rw [hts]; simp [Hid]
        have HLOW : Hid (∀ j (hj : j < ts.length), j < 0 → ts[j] < nb.data.toList) := fun j _ h => absurd h (Nat.not_lt_zero _)
        have HHIGH : Hid (∀ (hj : 0 < ts.length), ¬ ts[0] < nb.data.toList ∧ ts[0] ≠ nb.data.toList) := fun hj => absurd hj (by rw [h0]; exact Nat.lt_irrefl _)
        clear hts h0 hout
        go_wp2
        refine wp_loop_rounds 1 ?_
        rw [rounds_succ]
        go_wp2_with (at_builtin; refine wpList_append_src rfl _ _ 59 rfl w3.heap.size 65 i1 (.agg #[.string ⟨#[]⟩, .slice none 0 0]) 2 40 Tryz.underlying59 hi1 hz1 hs1 hby1 rfl (by decide) (.slice none 0 0) 0 [] rfl (World.ownsRow_nil _ _ _ _) _ _ _ (grpCells hv (ts.take 0)) rfl ?qa1 ?qa2 ?qa3 ?qa4 ?qa5 ?qa6 ?_)
        case qa1 => rw [grpCells_len, List.length_take, HTT.out]; omega
        case qa2 => exact Or.inl ⟨rfl, fun _ => rfl⟩
        case qa3 => exact grp_one hv _ hON.out
        case qa4 => unfold maxLen; omega
        case qa5 => omega
        try (case qa6 => exact Nat.le_refl _)
        intro v1 w4 hown1 hgrow1 hat1
        have hB4 : Below w3.heap.size w3 w4 := (Below.refl _ _).grown hgrow1 (Nat.le_refl _) (fun k hk => by simp [Value.ownBlock] at hk)
        have OW1 : Hid (w4.ownsRow w3.heap.size 65 2 v1 (0 + 0) ([] ++ grpCells hv (ts.take 0))) := own_cast hown1 (by omega) (by simp)
        clear hown1 hgrow1 hat1
        have hal4 : Below w4.heap.size w4 (w4.alloc (.cells #[.string nb, .slice none 0 0] 65)) := (Below.refl _ _).alloc (Nat.le_refl _) _
        have hB5 : Below w3.heap.size w3 (w4.alloc (.cells #[.string nb, .slice none 0 0] 65)) := hB4.alloc hB4.size _
        go_wp2_with (at_builtin; refine wpList_append_src rfl _ _ 59 rfl w3.heap.size 65 i1 (.agg #[.string ⟨#[]⟩, .slice none 0 0]) 2 40 Tryz.underlying59 hi1 hz1 hs1 hby1 rfl (by decide) v1 (0 + 0) ([] ++ grpCells hv (ts.take 0)) rfl ?qb0 _ _ _ [.string nb, .slice none 0 0] rfl ?qb1 ?qb2 ?qb3 ?qb4 ?qb5 ?qb6 ?_)
        case qb0 => exact own_below OW1.out hal4
        case qb1 => rfl
        case qb2 => exact src_new w4 [.string nb, .slice none 0 0] _ _ _
        case qb3 => intro u hu; simp only [List.mem_cons, List.not_mem_nil, or_false] at hu; rcases hu with rfl | rfl <;> rfl
        case qb4 => unfold maxLen; omega
        case qb5 => omega
        case qb6 => exact hB5.size
        intro v2 w5 hown2 hgrow2 hat2
        have hB6 : Below w3.heap.size w3 w5 := hB5.grown hgrow2 hB5.size (fun k hk => own_block OW1.out hk)
        have OW2 : Hid (w5.ownsRow w3.heap.size 65 2 v2 (0 + 0 + 1) ([] ++ grpCells hv (ts.take 0) ++ [.string nb, .slice none 0 0])) := own_cast hown2 (by omega) (by simp)
        clear hown2 hgrow2 hat2 OW1 hB4 hal4 hB5
        go_wp2_with (at_builtin; refine wpList_append_src rfl _ _ 59 rfl w3.heap.size 65 i1 (.agg #[.string ⟨#[]⟩, .slice none 0 0]) 2 40 Tryz.underlying59 hi1 hz1 hs1 hby1 rfl (by decide) v2 (0 + 0 + 1) ([] ++ grpCells hv (ts.take 0) ++ [.string nb, .slice none 0 0]) rfl ?qc0 _ _ _ (grpCells hv (ts.drop 0)) rfl ?qc1 ?qc2 ?qc3 ?qc4 ?qc5 ?qc6 ?_)
        case qc0 => exact OW2.out
        case qc1 => have e1 := grpCells_len hv (ts.drop 0); rw [List.length_drop, HTT.out] at e1; omega
        case qc2 => exact Or.inl ⟨rfl, fun _ => rfl⟩
        case qc3 => exact grp_one hv _ hON.out
        case qc4 => unfold maxLen; omega
        case qc5 => omega
        case qc6 => exact hB6.size
        intro v3 w6 hown3 hgrow3 hat3
        have hB7 : Below w3.heap.size w3 w6 := hB6.grown hgrow3 hB6.size (fun k hk => own_block OW2.out hk)
        have hkl : 0 ≤ ts.length := by rw [HTT.out]; omega
        have hnb2 : hv nb.data.toList = .slice none 0 0 := hN'.out _ HNOT.out
        have hown4 : w6.ownsRow w3.heap.size 65 2 v3 (ts.take 0 ++ nb.data.toList :: ts.drop 0).length (grpCells hv (ts.take 0 ++ nb.data.toList :: ts.drop 0)) := by
          rw [grpCells_append, grpCells_cons, hnb2, List.length_append, List.length_cons, List.length_take, List.length_drop]
          refine own_cast hown3 (by have := HTT.out; omega) ?_
          have e : encStr nb.data.toList = .string nb := by simp [encStr]
          rw [e]
          simp
        have hM := hGG.out.moved hB7 hB3.size (Nat.le_refl _) hown4
        have hRP := hR'.out.put (xp, xk, xv) 0 hkl (by rw [HNB.out]; exact HLOW.out) (by rw [HNB.out]; exact HHIGH.out)
        rw [HNB.out] at hRP
        have hkk : 0 < (ts.take 0 ++ nb.data.toList :: ts.drop 0).length := by rw [List.length_append, List.length_cons, List.length_take]; omega
        have hkn : (ts.take 0 ++ nb.data.toList :: ts.drop 0)[0] = nb.data.toList := get_mid _ _ _ 0 (by rw [List.length_take]; omega) hkk
        have hlen4 : (ts.take 0 ++ nb.data.toList :: ts.drop 0).length ≤ n + 1 := by
          rw [List.length_append, List.length_cons, List.length_take, List.length_drop]
          have := HTT.out
          omega
        have hN4 : ∀ nm, nm ∉ (ts.take 0 ++ nb.data.toList :: ts.drop 0) → hv nm = .slice none 0 0 := fun nm hnm => hN'.out nm fun hm => hnm (by
          rw [← List.take_append_drop 0 ts, List.mem_append] at hm
          rw [List.mem_append, List.mem_cons]
          rcases hm with hm | hm
          · exact Or.inl hm
          · exact Or.inr (Or.inr hm))
        clear hown3 hgrow3 hat3 hown4 hnb2 OW2 hB6
        generalize ts.take 0 ++ nb.data.toList :: ts.drop 0 = ts4 at hM hRP hkk hkn hlen4 hN4
        obtain ⟨T4, hlT4⟩ : ∃ T4, ts4.length = T4 := ⟨_, rfl⟩
        have HLEN4 : Hid (ts4.length = T4) := hlT4
        obtain ⟨g4, cp4, rfl⟩ : ∃ g4 cp4, v3 = .slice (some ⟨g4, 0, none⟩) T4 cp4 := by
          rcases hM.out.2 with ⟨_, h0⟩ | ⟨g4, cp4, cur, e, _⟩
          · omega
          · exact ⟨g4, cp4, by rw [e, hlT4]⟩
        clear hlT4
        have hkT : 0 < T4 := by rw [← HLEN4.out]; exact hkk
        have HRP : Hid (Rise p (ys ++ [(xp, xk, xv)]) ts4) := hRP
        have HN4 : Hid (∀ nm, nm ∉ ts4 → hv nm = .slice none 0 0) := hN4
        have HKN : Hid (ts4[0] = nb.data.toList) := hkn
        have hrd := hM.own ts4[0]
        have hcl := grpCells_get hv ts4 0 hkk
        have hM' : GrpM w6 w1.heap.size (.slice (some ⟨g4, 0, none⟩) ts4.length cp4) p ys ts4 hv := by rw [HLEN4.out]; exact hM
        have q1 := hM'.out.cellAt (0 * 2 + 1) (by omega)
        rw [hcl.2] at q1
        have hfz4 := hM'.out.frozenAt (0 * 2 + 1)
        have HMM : Hid (GrpM w6 w1.heap.size (.slice (some ⟨g4, 0, none⟩) ts4.length cp4) p ys ts4 hv) := hM'
        obtain ⟨vq, vc, hvf⟩ := own_form hrd
        have hgl := hGL.out ts4[0]
        obtain ⟨G, hGr⟩ : ∃ G, grp p ys ts4[0] = G := ⟨_, rfl⟩
        obtain ⟨vn, hvn⟩ : ∃ vn, hv ts4[0] = vn := ⟨_, rfl⟩
        have HGR : Hid (grp p ys ts4[0] = G) := hGr
        have HVN : Hid (hv ts4[0] = vn) := hvn
        rw [hGr] at hrd hgl hvf
        rw [hvn] at hrd hvf q1
        have HRD : Hid (w6.ownsRow w1.heap.size 30 3 vn G.length (flatR G)) := hrd
        clear hrd hcl hM hM' hRP hN4 hkn hGr hvn
        obtain ⟨M, hMl⟩ : ∃ M, G.length = M := ⟨_, rfl⟩
        have HML : Hid (G.length = M) := hMl
        rw [hMl] at hgl hvf
        subst hvf
        clear hMl
        have k1 := below_keep hB7 e1
        have k2 := below_keep hB7 e2
        have k3 := below_keep hB7 e3
        have hW6 : Below w1.heap.size w1 w6 := hB3.trans (hB7.mono hB3.size)
        have hki : ((0 : Nat) : Int) < (T4 : Int) := by omega
        have hk0 : (0 : Int) ≤ ((0 : Nat) : Int) := by omega
        have ag : (Value.slice vq M vc).ownBlock ≠ some g4 := by
          have h1 := HMM.out.off ts4[0]
          rw [HVN.out] at h1
          rcases h1 with h1 | h1
          · rw [h1]; simp
          · exact h1
        have ar : (Value.slice vq M vc).ownBlock ≠ some b := fun e => by
          have h1 := (own_lt HRD.out e).1
          have h2 := HBL.out
          omega
        have lg : g4 < w6.heap.size := cell_lt q1
        have lb : b < w6.heap.size := cell_lt k1
        have hws := hW6.size
        have hq63 : G.length + 1 ≤ maxLen := by have := HML.out; unfold maxLen; omega
        have hqby : (G.length + 1) * 32 ≤ 140737488355328 := by have := HML.out; omega
        have hbA : Below w6.heap.size w6 (w6.alloc (.cells #[.string xp, .int .i64 xk, .int .i64 xv] 30)).drew := ((Below.refl _ _).alloc (Nat.le_refl _) _).drew
        rw [show 0 * 2 + 1 = 1 from rfl] at q1
        clear e1 e2 e3
        go_wp2_with fail
        go_region_held3 (fun w' => w'.cell? ⟨g4, 1, none⟩ = some (.slice vq M vc) ∧ w'.cell? ⟨b, o + n * 3, none⟩ = some (.string xp) ∧ w'.cell? ⟨b, o + n * 3 + 1, none⟩ = some (.int .i64 xk) ∧ w'.cell? ⟨b, o + n * 3 + 2, none⟩ = some (.int .i64 xv))
          (first
            | go_keep
            | (go_split_ands
               refine ⟨?_, ?_, ?_, ?_⟩
               · (rw [hgrow7.cell_far _ (by simp; omega) (Ne.symm ag)]; assumption)
               · (rw [hgrow7.cell_far _ (by simp; omega) (Ne.symm ar)]; assumption)
               · (rw [hgrow7.cell_far _ (by simp; omega) (Ne.symm ar)]; assumption)
               · (rw [hgrow7.cell_far _ (by simp; omega) (Ne.symm ar)]; assumption)))
          ((refine step_append_lies _ (by rfl) _ _ _ (by rfl) w1.heap.size 30 i0 _ 3 32 Tryz.underlying22 hi0 hz0 hs0 hby0 rfl (by omega) (.slice vq M vc) G.length (flatR G) (by rfl) ((HRD.out.alloc _).drew) ⟨w6.heap.size, 0, none⟩ 1 1 (encR (xp, xk, xv)) (by rfl) (by rfl) (World.news_of_block (cs := #[.string xp, .int .i64 xk, .int .i64 xv]) (t := 30) (fr := (0, 0)) (heap_alloc_new w6 _)) (encR_one _) (by omega) hq63 hqby (by simp; omega) (w6.heap.size + 1) (by simp) ?_; intro g7 cap7 w7 hown7 hgrow7 hat7 hlt7))
        have hMA := HMM.out.below hbA
        have hst := hMA.step (W3 := w7) (by exact HRP.out.nodup) hkk (xp, xk, xv) (by rw [HNB.out, HKN.out]) (.slice (some ⟨g7, 0, none⟩) (G.length + 1) cap7) (by rw [HGR.out]; exact hown7) (by rw [HVN.out]; exact hgrow7) (by rw [HVN.out]; exact hat7.elim (fun h' => Or.inl h'.symm) (fun h' => Or.inr (by rw [h']; simp [Value.ownBlock])))
        have q7 : w7.cell? ⟨g4, 0 * 2 + 1, none⟩ = some (.slice vq M vc) := by
          have h1 := (hMA.out.kept hgrow7 (Or.inr fun e => by
            rcases hMA.off ts4[0] with h' | h'
            · rw [HVN.out] at h'; rw [h'] at e; simp [Value.ownBlock] at e
            · rw [HVN.out] at h'; exact h' e.symm)).cellAt (0 * 2 + 1) (by omega)
          rw [(grpCells_get hv ts4 0 hkk).2, HVN.out] at h1
          exact h1
        have z7 : w7.frozen? ⟨g4, 0 * 2 + 1, none⟩ = false := (hMA.out.kept hgrow7 (Or.inr fun e => by
            rcases hMA.off ts4[0] with h' | h'
            · rw [HVN.out] at h'; rw [h'] at e; simp [Value.ownBlock] at e
            · rw [HVN.out] at h'; exact h' e.symm)).frozenAt (0 * 2 + 1)
        have hW7 : Below w1.heap.size w1 w7 := by
          have h1 : Below w1.heap.size w1 (w6.alloc (.cells #[.string xp, .int .i64 xk, .int .i64 xv] 30)).drew := hW6.trans (hbA.mono hW6.size)
          exact h1.grown hgrow7 h1.size (fun k hk => own_block HRD.out hk)
        have hg4 : w1.heap.size ≤ g4 := (own_lt hMA.out rfl).1
        have hW8 : Below w1.heap.size w1 (w7.setCell ⟨g4, 0 * 2 + 1, none⟩ (.slice (some ⟨g7, 0, none⟩) (G.length + 1) cap7)) := hW7.setCell hg4 _
        have HST : Hid (GrpM (w7.setCell ⟨g4, 0 * 2 + 1, none⟩ (.slice (some ⟨g7, 0, none⟩) (G.length + 1) cap7)) w1.heap.size (.slice (some ⟨g4, 0, none⟩) T4 cp4) p (ys ++ [(xp, xk, xv)]) ts4 (fun m => if m = ts4[0] then (.slice (some ⟨g7, 0, none⟩) (G.length + 1) cap7) else hv m)) := by
          show GrpM _ _ _ _ _ _ _
          rw [← HLEN4.out]; exact hst
        clear hst hown7 hgrow7 hat7 hMA q1 hfz4 k1 k2 k3
        go_wp2
        go_roundw
        case rel => exact ⟨n + 1, ts4, _, by omega, by go_num, hW8, by rw [HT.out]; exact HST.out, by rw [HT.out]; exact HRP.out, fun nm hnm => by rw [if_neg (fun e => hnm (by rw [e]; exact List.getElem_mem _))]; exact HN4.out nm hnm⟩
        case measure => simp [intOf]; omega
      · have hcp' : T ≤ cp := by rw [← HTT.out]; exact hcp
        have hcell : ∀ j (hj : j < ts.length), w3.cell? ⟨g, j * 2, none⟩ = some (.string ⟨ts[j].toArray⟩) := fun j hj => by
          have h1 := hout.cellAt (j * 2) (by omega)
          rw [(grpCells_get hv ts j hj).1] at h1
          exact h1
        have hall2 : ∀ j u, (grpCells hv ts)[j]? = some u → w3.cell? ⟨g, j, none⟩ = some u := fun j u hu => by
          have h1 : j < ts.length * 2 := by
            rcases Nat.lt_or_ge j (ts.length * 2) with h' | h'
            · exact h'
            · rw [List.getElem?_eq_none (by rw [grpCells_len]; exact h')] at hu; cases hu
          rw [hout.cellAt j h1]; exact hu
        have HCELL : Hid (∀ j (hj : j < ts.length), w3.cell? ⟨g, j * 2, none⟩ = some (.string ⟨ts[j].toArray⟩)) := hcell
        have HALL : Hid (∀ j u, (grpCells hv ts)[j]? = some u → w3.cell? ⟨g, j, none⟩ = some u) := hall2
        have hGG2 : Hid (GrpM w3 w1.heap.size (.slice (some ⟨g, 0, none⟩) T cp) p ys ts hv) := by
          show GrpM _ _ _ _ _ _ _
          rw [← HTT.out]; exact hGG.out
        rw [HTT.out]
        clear hcell hall2 hout hcp hGG
        have hGG := hGG2
        clear hGG2
        go_wp2
        go_loop [13] (fun at_ => ∃ k : Nat, k ≤ T ∧ at_ = .int .i64 k ∧ ∀ j (hj : j < ts.length), j < k → ts[j] < nb.data.toList) (fun at_ => T - (intOf at_).toNat)
        case atStart => exact ⟨0, Nat.zero_le _, rfl, fun _ _ h => absurd h (Nat.not_lt_zero _)⟩
        case round =>
          obtain ⟨k, hk, rfl, hlow⟩ := hrel
          have HLOW : Hid (∀ j (hj : j < ts.length), j < k → ts[j] < nb.data.toList) := hlow
          clear hlow
          by_cases hkT0 : k < T
          · have hkts : k < ts.length := by rw [HTT.out]; exact hkT0
            have hc0 := HCELL.out k hkts
            have hki0 : (k : Int) < (T : Int) := by omega
            have hk00 : (0 : Int) ≤ (k : Int) := by omega
            by_cases hless : ts[k] < nb.data.toList
            · have hyes := less_yes hless ⟨ts[k].toArray⟩ nb (by simp) rfl
              have HLESS : Hid (ts[k] < nb.data.toList) := hless
              generalize (⟨ts[k].toArray⟩ : ByteArray) = tB at hc0 hyes
              clear hless
              go_wp2
              go_round
              case rel => exact ⟨k + 1, by omega, by go_num, fun j hj hjk => by
                rcases Nat.lt_or_ge j k with h' | h'
                · exact HLOW.out j hj h'
                · obtain rfl : j = k := by omega
                  exact HLESS.out⟩
              case measure => simp [intOf]; omega
            · have hno := less_no hless ⟨ts[k].toArray⟩ nb (by simp) rfl
              by_cases heq : ts[k] = nb.data.toList
              · have hsame := same_yes heq ⟨ts[k].toArray⟩ nb (by simp) rfl
                have hM := hGG.out
                have hRP := hR'.out.there (xp, xk, xv) k hkts (by rw [HNB.out]; exact heq)
                have hkk := hkts
                have hkn := heq
                have hN4 := hN'.out
                have hlen4 : ts.length ≤ n + 1 := by rw [HTT.out]; omega
                generalize (⟨ts[k].toArray⟩ : ByteArray) = tB at hc0 hsame hno
                clear heq hless
                have HLEN4 := HTT
                have hB7 : Below w3.heap.size w3 w3 := Below.refl _ _
                have hkT : k < T := by rw [← HLEN4.out]; exact hkk
                have HRP : Hid (Rise p (ys ++ [(xp, xk, xv)]) ts) := hRP
                have HN4 : Hid (∀ nm, nm ∉ ts → hv nm = .slice none 0 0) := hN4
                have HKN : Hid (ts[k] = nb.data.toList) := hkn
                have hrd := hM.own ts[k]
                have hcl := grpCells_get hv ts k hkk
                have hM' : GrpM w3 w1.heap.size (.slice (some ⟨g, 0, none⟩) ts.length cp) p ys ts hv := by rw [HLEN4.out]; exact hM
                have q1 := hM'.out.cellAt (k * 2 + 1) (by omega)
                rw [hcl.2] at q1
                have hfz4 := hM'.out.frozenAt (k * 2 + 1)
                have HMM : Hid (GrpM w3 w1.heap.size (.slice (some ⟨g, 0, none⟩) ts.length cp) p ys ts hv) := hM'
                obtain ⟨vq, vc, hvf⟩ := own_form hrd
                have hgl := hGL.out ts[k]
                obtain ⟨G, hGr⟩ : ∃ G, grp p ys ts[k] = G := ⟨_, rfl⟩
                obtain ⟨vn, hvn⟩ : ∃ vn, hv ts[k] = vn := ⟨_, rfl⟩
                have HGR : Hid (grp p ys ts[k] = G) := hGr
                have HVN : Hid (hv ts[k] = vn) := hvn
                rw [hGr] at hrd hgl hvf
                rw [hvn] at hrd hvf q1
                have HRD : Hid (w3.ownsRow w1.heap.size 30 3 vn G.length (flatR G)) := hrd
                clear hrd hcl hM hM' hRP hN4 hkn hGr hvn
                obtain ⟨M, hMl⟩ : ∃ M, G.length = M := ⟨_, rfl⟩
                have HML : Hid (G.length = M) := hMl
                rw [hMl] at hgl hvf
                subst hvf
                clear hMl
                have k1 := below_keep hB7 e1
                have k2 := below_keep hB7 e2
                have k3 := below_keep hB7 e3
                have hW6 : Below w1.heap.size w1 w3 := hB3.trans (hB7.mono hB3.size)
                have hki : (k : Int) < (T : Int) := by omega
                have hk0 : (0 : Int) ≤ (k : Int) := by omega
                have ag : (Value.slice vq M vc).ownBlock ≠ some g := by
                  have h1 := HMM.out.off ts[k]
                  rw [HVN.out] at h1
                  rcases h1 with h1 | h1
                  · rw [h1]; simp
                  · exact h1
                have ar : (Value.slice vq M vc).ownBlock ≠ some b := fun e => by
                  have h1 := (own_lt HRD.out e).1
                  have h2 := HBL.out
                  omega
                have lg : g < w3.heap.size := cell_lt q1
                have lb : b < w3.heap.size := cell_lt k1
                have hws := hW6.size
                have hq63 : G.length + 1 ≤ maxLen := by have := HML.out; unfold maxLen; omega
                have hqby : (G.length + 1) * 32 ≤ 140737488355328 := by have := HML.out; omega
                have hbA : Below w3.heap.size w3 (w3.alloc (.cells #[.string xp, .int .i64 xk, .int .i64 xv] 30)).drew := ((Below.refl _ _).alloc (Nat.le_refl _) _).drew
                clear e1 e2 e3
                go_wp2_with fail
                go_region_held3 (fun w' => w'.cell? ⟨g, k * 2 + 1, none⟩ = some (.slice vq M vc) ∧ w'.cell? ⟨b, o + n * 3, none⟩ = some (.string xp) ∧ w'.cell? ⟨b, o + n * 3 + 1, none⟩ = some (.int .i64 xk) ∧ w'.cell? ⟨b, o + n * 3 + 2, none⟩ = some (.int .i64 xv))
                  (first
                    | go_keep
                    | (go_split_ands
                       refine ⟨?_, ?_, ?_, ?_⟩
                       · (rw [hgrow7.cell_far _ (by simp; omega) (Ne.symm ag)]; assumption)
                       · (rw [hgrow7.cell_far _ (by simp; omega) (Ne.symm ar)]; assumption)
                       · (rw [hgrow7.cell_far _ (by simp; omega) (Ne.symm ar)]; assumption)
                       · (rw [hgrow7.cell_far _ (by simp; omega) (Ne.symm ar)]; assumption)))
                  ((refine step_append_lies _ (by rfl) _ _ _ (by rfl) w1.heap.size 30 i0 _ 3 32 Tryz.underlying22 hi0 hz0 hs0 hby0 rfl (by omega) (.slice vq M vc) G.length (flatR G) (by rfl) ((HRD.out.alloc _).drew) ⟨w3.heap.size, 0, none⟩ 1 1 (encR (xp, xk, xv)) (by rfl) (by rfl) (World.news_of_block (cs := #[.string xp, .int .i64 xk, .int .i64 xv]) (t := 30) (fr := (0, 0)) (heap_alloc_new w3 _)) (encR_one _) (by omega) hq63 hqby (by simp; omega) (w3.heap.size + 1) (by simp) ?_; intro g7 cap7 w7 hown7 hgrow7 hat7 hlt7))
                have hMA := HMM.out.below hbA
                have hst := hMA.step (W3 := w7) (by exact HRP.out.nodup) hkk (xp, xk, xv) (by rw [HNB.out, HKN.out]) (.slice (some ⟨g7, 0, none⟩) (G.length + 1) cap7) (by rw [HGR.out]; exact hown7) (by rw [HVN.out]; exact hgrow7) (by rw [HVN.out]; exact hat7.elim (fun h' => Or.inl h'.symm) (fun h' => Or.inr (by rw [h']; simp [Value.ownBlock])))
                have q7 : w7.cell? ⟨g, k * 2 + 1, none⟩ = some (.slice vq M vc) := by
                  have h1 := (hMA.out.kept hgrow7 (Or.inr fun e => by
                    rcases hMA.off ts[k] with h' | h'
                    · rw [HVN.out] at h'; rw [h'] at e; simp [Value.ownBlock] at e
                    · rw [HVN.out] at h'; exact h' e.symm)).cellAt (k * 2 + 1) (by omega)
                  rw [(grpCells_get hv ts k hkk).2, HVN.out] at h1
                  exact h1
                have z7 : w7.frozen? ⟨g, k * 2 + 1, none⟩ = false := (hMA.out.kept hgrow7 (Or.inr fun e => by
                    rcases hMA.off ts[k] with h' | h'
                    · rw [HVN.out] at h'; rw [h'] at e; simp [Value.ownBlock] at e
                    · rw [HVN.out] at h'; exact h' e.symm)).frozenAt (k * 2 + 1)
                have hW7 : Below w1.heap.size w1 w7 := by
                  have h1 : Below w1.heap.size w1 (w3.alloc (.cells #[.string xp, .int .i64 xk, .int .i64 xv] 30)).drew := hW6.trans (hbA.mono hW6.size)
                  exact h1.grown hgrow7 h1.size (fun k hk => own_block HRD.out hk)
                have hg : w1.heap.size ≤ g := (own_lt hMA.out rfl).1
                have hW8 : Below w1.heap.size w1 (w7.setCell ⟨g, k * 2 + 1, none⟩ (.slice (some ⟨g7, 0, none⟩) (G.length + 1) cap7)) := hW7.setCell hg _
                have HST : Hid (GrpM (w7.setCell ⟨g, k * 2 + 1, none⟩ (.slice (some ⟨g7, 0, none⟩) (G.length + 1) cap7)) w1.heap.size (.slice (some ⟨g, 0, none⟩) T cp) p (ys ++ [(xp, xk, xv)]) ts (fun m => if m = ts[k] then (.slice (some ⟨g7, 0, none⟩) (G.length + 1) cap7) else hv m)) := by
                  show GrpM _ _ _ _ _ _ _
                  rw [← HLEN4.out]; exact hst
                clear hst hown7 hgrow7 hat7 hMA q1 hfz4 k1 k2 k3
                go_wp2
                go_roundw
                case rel => exact ⟨n + 1, ts, _, by omega, by go_num, hW8, by rw [HT.out]; exact HST.out, by rw [HT.out]; exact HRP.out, fun nm hnm => by rw [if_neg (fun e => hnm (by rw [e]; exact List.getElem_mem _))]; exact HN4.out nm hnm⟩
                case measure => simp [intOf]; omega
              · have hdiff := same_no heq ⟨ts[k].toArray⟩ nb (by simp) rfl
                have HHIGH : Hid (∀ (hj : k < ts.length), ¬ ts[k] < nb.data.toList ∧ ts[k] ≠ nb.data.toList) := fun _ => ⟨hless, heq⟩
                have HNOT : Hid (nb.data.toList ∉ ts) := by
                  intro hm2
                  obtain ⟨j, hj, e⟩ := List.mem_iff_getElem.1 hm2
                  rcases Nat.lt_trichotomy j k with h' | h' | h'
                  · have := HLOW.out j hj h'
                    rw [e] at this
                    exact Std.lt_irrefl this
                  · subst h'; exact heq e
                  · have h4 := List.pairwise_iff_getElem.1 hR'.out.rise k j hkts hj h'
                    rw [e] at h4
                    exact hless (Std.not_le.1 h4)
                generalize (⟨ts[k].toArray⟩ : ByteArray) = tB at hc0 hdiff hno
                clear heq hless
                have z1 : (k : Int) ≤ (T : Int) := by omega
                have z2 : (k : Int) ≤ (cp : Int) := by omega
                have hne : ¬ cp = k := by omega
                go_wp2_with (at_builtin; refine wpList_append_src rfl _ _ 59 rfl w3.heap.size 65 i1 (.agg #[.string ⟨#[]⟩, .slice none 0 0]) 2 40 Tryz.underlying59 hi1 hz1 hs1 hby1 rfl (by decide) (.slice none 0 0) 0 [] rfl (World.ownsRow_nil _ _ _ _) _ _ _ (grpCells hv (ts.take k)) rfl ?qa1 ?qa2 ?qa3 ?qa4 ?qa5 ?qa6 ?_)
                case qa1 => rw [grpCells_len, List.length_take, HTT.out]; omega
                case qa2 => exact Or.inr ⟨_, _, rfl, fun j u hj => by have := HALL.out _ u (grpCells_take hj); simpa using this⟩
                case qa3 => exact grp_one hv _ hON.out
                case qa4 => unfold maxLen; omega
                case qa5 => omega
                try (case qa6 => exact Nat.le_refl _)
                intro v1 w4 hown1 hgrow1 hat1
                have hB4 : Below w3.heap.size w3 w4 := (Below.refl _ _).grown hgrow1 (Nat.le_refl _) (fun k hk => by simp [Value.ownBlock] at hk)
                have OW1 : Hid (w4.ownsRow w3.heap.size 65 2 v1 (0 + k) ([] ++ grpCells hv (ts.take k))) := own_cast hown1 (by omega) (by simp)
                clear hown1 hgrow1 hat1
                have hal4 : Below w4.heap.size w4 (w4.alloc (.cells #[.string nb, .slice none 0 0] 65)) := (Below.refl _ _).alloc (Nat.le_refl _) _
                have hB5 : Below w3.heap.size w3 (w4.alloc (.cells #[.string nb, .slice none 0 0] 65)) := hB4.alloc hB4.size _
                go_wp2_with (at_builtin; refine wpList_append_src rfl _ _ 59 rfl w3.heap.size 65 i1 (.agg #[.string ⟨#[]⟩, .slice none 0 0]) 2 40 Tryz.underlying59 hi1 hz1 hs1 hby1 rfl (by decide) v1 (0 + k) ([] ++ grpCells hv (ts.take k)) rfl ?qb0 _ _ _ [.string nb, .slice none 0 0] rfl ?qb1 ?qb2 ?qb3 ?qb4 ?qb5 ?qb6 ?_)
                case qb0 => exact own_below OW1.out hal4
                case qb1 => rfl
                case qb2 => exact src_new w4 [.string nb, .slice none 0 0] _ _ _
                case qb3 => intro u hu; simp only [List.mem_cons, List.not_mem_nil, or_false] at hu; rcases hu with rfl | rfl <;> rfl
                case qb4 => unfold maxLen; omega
                case qb5 => omega
                case qb6 => exact hB5.size
                intro v2 w5 hown2 hgrow2 hat2
                have hB6 : Below w3.heap.size w3 w5 := hB5.grown hgrow2 hB5.size (fun k hk => own_block OW1.out hk)
                have OW2 : Hid (w5.ownsRow w3.heap.size 65 2 v2 (0 + k + 1) ([] ++ grpCells hv (ts.take k) ++ [.string nb, .slice none 0 0])) := own_cast hown2 (by omega) (by simp)
                clear hown2 hgrow2 hat2 OW1 hB4 hal4 hB5
                go_wp2_with (at_builtin; refine wpList_append_src rfl _ _ 59 rfl w3.heap.size 65 i1 (.agg #[.string ⟨#[]⟩, .slice none 0 0]) 2 40 Tryz.underlying59 hi1 hz1 hs1 hby1 rfl (by decide) v2 (0 + k + 1) ([] ++ grpCells hv (ts.take k) ++ [.string nb, .slice none 0 0]) rfl ?qc0 _ _ _ (grpCells hv (ts.drop k)) rfl ?qc1 ?qc2 ?qc3 ?qc4 ?qc5 ?qc6 ?_)
                case qc0 => exact OW2.out
                case qc1 => have e1 := grpCells_len hv (ts.drop k); rw [List.length_drop, HTT.out] at e1; omega
                case qc2 => exact Or.inr ⟨_, _, rfl, fun j u hj => by have := below_keep hB6 (HALL.out _ u (grpCells_drop hj)); simpa using this⟩
                case qc3 => exact grp_one hv _ hON.out
                case qc4 => unfold maxLen; omega
                case qc5 => omega
                case qc6 => exact hB6.size
                intro v3 w6 hown3 hgrow3 hat3
                have hB7 : Below w3.heap.size w3 w6 := hB6.grown hgrow3 hB6.size (fun k hk => own_block OW2.out hk)
                have hkl : k ≤ ts.length := by rw [HTT.out]; omega
                have hnb2 : hv nb.data.toList = .slice none 0 0 := hN'.out _ HNOT.out
                have hown4 : w6.ownsRow w3.heap.size 65 2 v3 (ts.take k ++ nb.data.toList :: ts.drop k).length (grpCells hv (ts.take k ++ nb.data.toList :: ts.drop k)) := by
                  rw [grpCells_append, grpCells_cons, hnb2, List.length_append, List.length_cons, List.length_take, List.length_drop]
                  refine own_cast hown3 (by have := HTT.out; omega) ?_
                  have e : encStr nb.data.toList = .string nb := by simp [encStr]
                  rw [e]
                  simp
                have hM := hGG.out.moved hB7 hB3.size (Nat.le_refl _) hown4
                have hRP := hR'.out.put (xp, xk, xv) k hkl (by rw [HNB.out]; exact HLOW.out) (by rw [HNB.out]; exact HHIGH.out)
                rw [HNB.out] at hRP
                have hkk : k < (ts.take k ++ nb.data.toList :: ts.drop k).length := by rw [List.length_append, List.length_cons, List.length_take]; omega
                have hkn : (ts.take k ++ nb.data.toList :: ts.drop k)[k] = nb.data.toList := get_mid _ _ _ k (by rw [List.length_take]; omega) hkk
                have hlen4 : (ts.take k ++ nb.data.toList :: ts.drop k).length ≤ n + 1 := by
                  rw [List.length_append, List.length_cons, List.length_take, List.length_drop]
                  have := HTT.out
                  omega
                have hN4 : ∀ nm, nm ∉ (ts.take k ++ nb.data.toList :: ts.drop k) → hv nm = .slice none 0 0 := fun nm hnm => hN'.out nm fun hm => hnm (by
                  rw [← List.take_append_drop k ts, List.mem_append] at hm
                  rw [List.mem_append, List.mem_cons]
                  rcases hm with hm | hm
                  · exact Or.inl hm
                  · exact Or.inr (Or.inr hm))
                clear hown3 hgrow3 hat3 hown4 hnb2 OW2 hB6
                generalize ts.take k ++ nb.data.toList :: ts.drop k = ts4 at hM hRP hkk hkn hlen4 hN4
                obtain ⟨T4, hlT4⟩ : ∃ T4, ts4.length = T4 := ⟨_, rfl⟩
                have HLEN4 : Hid (ts4.length = T4) := hlT4
                obtain ⟨g4, cp4, rfl⟩ : ∃ g4 cp4, v3 = .slice (some ⟨g4, 0, none⟩) T4 cp4 := by
                  rcases hM.out.2 with ⟨_, h0⟩ | ⟨g4, cp4, cur, e, _⟩
                  · omega
                  · exact ⟨g4, cp4, by rw [e, hlT4]⟩
                clear hlT4
                have hkT : k < T4 := by rw [← HLEN4.out]; exact hkk
                have HRP : Hid (Rise p (ys ++ [(xp, xk, xv)]) ts4) := hRP
                have HN4 : Hid (∀ nm, nm ∉ ts4 → hv nm = .slice none 0 0) := hN4
                have HKN : Hid (ts4[k] = nb.data.toList) := hkn
                have hrd := hM.own ts4[k]
                have hcl := grpCells_get hv ts4 k hkk
                have hM' : GrpM w6 w1.heap.size (.slice (some ⟨g4, 0, none⟩) ts4.length cp4) p ys ts4 hv := by rw [HLEN4.out]; exact hM
                have q1 := hM'.out.cellAt (k * 2 + 1) (by omega)
                rw [hcl.2] at q1
                have hfz4 := hM'.out.frozenAt (k * 2 + 1)
                have HMM : Hid (GrpM w6 w1.heap.size (.slice (some ⟨g4, 0, none⟩) ts4.length cp4) p ys ts4 hv) := hM'
                obtain ⟨vq, vc, hvf⟩ := own_form hrd
                have hgl := hGL.out ts4[k]
                obtain ⟨G, hGr⟩ : ∃ G, grp p ys ts4[k] = G := ⟨_, rfl⟩
                obtain ⟨vn, hvn⟩ : ∃ vn, hv ts4[k] = vn := ⟨_, rfl⟩
                have HGR : Hid (grp p ys ts4[k] = G) := hGr
                have HVN : Hid (hv ts4[k] = vn) := hvn
                rw [hGr] at hrd hgl hvf
                rw [hvn] at hrd hvf q1
                have HRD : Hid (w6.ownsRow w1.heap.size 30 3 vn G.length (flatR G)) := hrd
                clear hrd hcl hM hM' hRP hN4 hkn hGr hvn
                obtain ⟨M, hMl⟩ : ∃ M, G.length = M := ⟨_, rfl⟩
                have HML : Hid (G.length = M) := hMl
                rw [hMl] at hgl hvf
                subst hvf
                clear hMl
                have k1 := below_keep hB7 e1
                have k2 := below_keep hB7 e2
                have k3 := below_keep hB7 e3
                have hW6 : Below w1.heap.size w1 w6 := hB3.trans (hB7.mono hB3.size)
                have hki : (k : Int) < (T4 : Int) := by omega
                have hk0 : (0 : Int) ≤ (k : Int) := by omega
                have ag : (Value.slice vq M vc).ownBlock ≠ some g4 := by
                  have h1 := HMM.out.off ts4[k]
                  rw [HVN.out] at h1
                  rcases h1 with h1 | h1
                  · rw [h1]; simp
                  · exact h1
                have ar : (Value.slice vq M vc).ownBlock ≠ some b := fun e => by
                  have h1 := (own_lt HRD.out e).1
                  have h2 := HBL.out
                  omega
                have lg : g4 < w6.heap.size := cell_lt q1
                have lb : b < w6.heap.size := cell_lt k1
                have hws := hW6.size
                have hq63 : G.length + 1 ≤ maxLen := by have := HML.out; unfold maxLen; omega
                have hqby : (G.length + 1) * 32 ≤ 140737488355328 := by have := HML.out; omega
                have hbA : Below w6.heap.size w6 (w6.alloc (.cells #[.string xp, .int .i64 xk, .int .i64 xv] 30)).drew := ((Below.refl _ _).alloc (Nat.le_refl _) _).drew
                clear e1 e2 e3
                go_wp2_with fail
                go_region_held3 (fun w' => w'.cell? ⟨g4, k * 2 + 1, none⟩ = some (.slice vq M vc) ∧ w'.cell? ⟨b, o + n * 3, none⟩ = some (.string xp) ∧ w'.cell? ⟨b, o + n * 3 + 1, none⟩ = some (.int .i64 xk) ∧ w'.cell? ⟨b, o + n * 3 + 2, none⟩ = some (.int .i64 xv))
                  (first
                    | go_keep
                    | (go_split_ands
                       refine ⟨?_, ?_, ?_, ?_⟩
                       · (rw [hgrow7.cell_far _ (by simp; omega) (Ne.symm ag)]; assumption)
                       · (rw [hgrow7.cell_far _ (by simp; omega) (Ne.symm ar)]; assumption)
                       · (rw [hgrow7.cell_far _ (by simp; omega) (Ne.symm ar)]; assumption)
                       · (rw [hgrow7.cell_far _ (by simp; omega) (Ne.symm ar)]; assumption)))
                  ((refine step_append_lies _ (by rfl) _ _ _ (by rfl) w1.heap.size 30 i0 _ 3 32 Tryz.underlying22 hi0 hz0 hs0 hby0 rfl (by omega) (.slice vq M vc) G.length (flatR G) (by rfl) ((HRD.out.alloc _).drew) ⟨w6.heap.size, 0, none⟩ 1 1 (encR (xp, xk, xv)) (by rfl) (by rfl) (World.news_of_block (cs := #[.string xp, .int .i64 xk, .int .i64 xv]) (t := 30) (fr := (0, 0)) (heap_alloc_new w6 _)) (encR_one _) (by omega) hq63 hqby (by simp; omega) (w6.heap.size + 1) (by simp) ?_; intro g7 cap7 w7 hown7 hgrow7 hat7 hlt7))
                have hMA := HMM.out.below hbA
                have hst := hMA.step (W3 := w7) (by exact HRP.out.nodup) hkk (xp, xk, xv) (by rw [HNB.out, HKN.out]) (.slice (some ⟨g7, 0, none⟩) (G.length + 1) cap7) (by rw [HGR.out]; exact hown7) (by rw [HVN.out]; exact hgrow7) (by rw [HVN.out]; exact hat7.elim (fun h' => Or.inl h'.symm) (fun h' => Or.inr (by rw [h']; simp [Value.ownBlock])))
                have q7 : w7.cell? ⟨g4, k * 2 + 1, none⟩ = some (.slice vq M vc) := by
                  have h1 := (hMA.out.kept hgrow7 (Or.inr fun e => by
                    rcases hMA.off ts4[k] with h' | h'
                    · rw [HVN.out] at h'; rw [h'] at e; simp [Value.ownBlock] at e
                    · rw [HVN.out] at h'; exact h' e.symm)).cellAt (k * 2 + 1) (by omega)
                  rw [(grpCells_get hv ts4 k hkk).2, HVN.out] at h1
                  exact h1
                have z7 : w7.frozen? ⟨g4, k * 2 + 1, none⟩ = false := (hMA.out.kept hgrow7 (Or.inr fun e => by
                    rcases hMA.off ts4[k] with h' | h'
                    · rw [HVN.out] at h'; rw [h'] at e; simp [Value.ownBlock] at e
                    · rw [HVN.out] at h'; exact h' e.symm)).frozenAt (k * 2 + 1)
                have hW7 : Below w1.heap.size w1 w7 := by
                  have h1 : Below w1.heap.size w1 (w6.alloc (.cells #[.string xp, .int .i64 xk, .int .i64 xv] 30)).drew := hW6.trans (hbA.mono hW6.size)
                  exact h1.grown hgrow7 h1.size (fun k hk => own_block HRD.out hk)
                have hg4 : w1.heap.size ≤ g4 := (own_lt hMA.out rfl).1
                have hW8 : Below w1.heap.size w1 (w7.setCell ⟨g4, k * 2 + 1, none⟩ (.slice (some ⟨g7, 0, none⟩) (G.length + 1) cap7)) := hW7.setCell hg4 _
                have HST : Hid (GrpM (w7.setCell ⟨g4, k * 2 + 1, none⟩ (.slice (some ⟨g7, 0, none⟩) (G.length + 1) cap7)) w1.heap.size (.slice (some ⟨g4, 0, none⟩) T4 cp4) p (ys ++ [(xp, xk, xv)]) ts4 (fun m => if m = ts4[k] then (.slice (some ⟨g7, 0, none⟩) (G.length + 1) cap7) else hv m)) := by
                  show GrpM _ _ _ _ _ _ _
                  rw [← HLEN4.out]; exact hst
                clear hst hown7 hgrow7 hat7 hMA q1 hfz4 k1 k2 k3
                go_wp2
                go_roundw
                case rel => exact ⟨n + 1, ts4, _, by omega, by go_num, hW8, by rw [HT.out]; exact HST.out, by rw [HT.out]; exact HRP.out, fun nm hnm => by rw [if_neg (fun e => hnm (by rw [e]; exact List.getElem_mem _))]; exact HN4.out nm hnm⟩
                case measure => simp [intOf]; omega
          · obtain rfl : k = T := by omega
            have HHIGH : Hid (∀ (hj : k < ts.length), ¬ ts[k] < nb.data.toList ∧ ts[k] ≠ nb.data.toList) := fun hj => absurd hj (by rw [HTT.out]; exact Nat.lt_irrefl _)
            have HNOT : Hid (nb.data.toList ∉ ts) := by
              intro hm2
              obtain ⟨j, hj, e⟩ := List.mem_iff_getElem.1 hm2
              have := HLOW.out j hj (by rw [← HTT.out]; exact hj)
              rw [e] at this
              exact Std.lt_irrefl this
            have z2 : (k : Int) ≤ (cp : Int) := by omega
            rcases Nat.lt_or_ge k cp with hcm | hcm
            · have hne : ¬ cp = k := by omega
              go_wp2_with (at_builtin; refine wpList_append_src rfl _ _ 59 rfl w3.heap.size 65 i1 (.agg #[.string ⟨#[]⟩, .slice none 0 0]) 2 40 Tryz.underlying59 hi1 hz1 hs1 hby1 rfl (by decide) (.slice none 0 0) 0 [] rfl (World.ownsRow_nil _ _ _ _) _ _ _ (grpCells hv (ts.take k)) rfl ?qa1 ?qa2 ?qa3 ?qa4 ?qa5 ?qa6 ?_)
              case qa1 => rw [grpCells_len, List.length_take, HTT.out]; omega
              case qa2 => exact Or.inr ⟨_, _, rfl, fun j u hj => by have := HALL.out _ u (grpCells_take hj); simpa using this⟩
              case qa3 => exact grp_one hv _ hON.out
              case qa4 => unfold maxLen; omega
              case qa5 => omega
              try (case qa6 => exact Nat.le_refl _)
              intro v1 w4 hown1 hgrow1 hat1
              have hB4 : Below w3.heap.size w3 w4 := (Below.refl _ _).grown hgrow1 (Nat.le_refl _) (fun k hk => by simp [Value.ownBlock] at hk)
              have OW1 : Hid (w4.ownsRow w3.heap.size 65 2 v1 (0 + k) ([] ++ grpCells hv (ts.take k))) := own_cast hown1 (by omega) (by simp)
              clear hown1 hgrow1 hat1
              have hal4 : Below w4.heap.size w4 (w4.alloc (.cells #[.string nb, .slice none 0 0] 65)) := (Below.refl _ _).alloc (Nat.le_refl _) _
              have hB5 : Below w3.heap.size w3 (w4.alloc (.cells #[.string nb, .slice none 0 0] 65)) := hB4.alloc hB4.size _
              go_wp2_with (at_builtin; refine wpList_append_src rfl _ _ 59 rfl w3.heap.size 65 i1 (.agg #[.string ⟨#[]⟩, .slice none 0 0]) 2 40 Tryz.underlying59 hi1 hz1 hs1 hby1 rfl (by decide) v1 (0 + k) ([] ++ grpCells hv (ts.take k)) rfl ?qb0 _ _ _ [.string nb, .slice none 0 0] rfl ?qb1 ?qb2 ?qb3 ?qb4 ?qb5 ?qb6 ?_)
              case qb0 => exact own_below OW1.out hal4
              case qb1 => rfl
              case qb2 => exact src_new w4 [.string nb, .slice none 0 0] _ _ _
              case qb3 => intro u hu; simp only [List.mem_cons, List.not_mem_nil, or_false] at hu; rcases hu with rfl | rfl <;> rfl
              case qb4 => unfold maxLen; omega
              case qb5 => omega
              case qb6 => exact hB5.size
              intro v2 w5 hown2 hgrow2 hat2
              have hB6 : Below w3.heap.size w3 w5 := hB5.grown hgrow2 hB5.size (fun k hk => own_block OW1.out hk)
              have OW2 : Hid (w5.ownsRow w3.heap.size 65 2 v2 (0 + k + 1) ([] ++ grpCells hv (ts.take k) ++ [.string nb, .slice none 0 0])) := own_cast hown2 (by omega) (by simp)
              clear hown2 hgrow2 hat2 OW1 hB4 hal4 hB5
              go_wp2_with (at_builtin; refine wpList_append_src rfl _ _ 59 rfl w3.heap.size 65 i1 (.agg #[.string ⟨#[]⟩, .slice none 0 0]) 2 40 Tryz.underlying59 hi1 hz1 hs1 hby1 rfl (by decide) v2 (0 + k + 1) ([] ++ grpCells hv (ts.take k) ++ [.string nb, .slice none 0 0]) rfl ?qc0 _ _ _ (grpCells hv (ts.drop k)) rfl ?qc1 ?qc2 ?qc3 ?qc4 ?qc5 ?qc6 ?_)
              case qc0 => exact OW2.out
              case qc1 => have e1 := grpCells_len hv (ts.drop k); rw [List.length_drop, HTT.out] at e1; omega
              case qc2 => exact Or.inr ⟨_, _, rfl, fun j u hj => by have := below_keep hB6 (HALL.out _ u (grpCells_drop hj)); simpa using this⟩
              case qc3 => exact grp_one hv _ hON.out
              case qc4 => unfold maxLen; omega
              case qc5 => omega
              case qc6 => exact hB6.size
              intro v3 w6 hown3 hgrow3 hat3
              have hB7 : Below w3.heap.size w3 w6 := hB6.grown hgrow3 hB6.size (fun k hk => own_block OW2.out hk)
              have hkl : k ≤ ts.length := by rw [HTT.out]; omega
              have hnb2 : hv nb.data.toList = .slice none 0 0 := hN'.out _ HNOT.out
              have hown4 : w6.ownsRow w3.heap.size 65 2 v3 (ts.take k ++ nb.data.toList :: ts.drop k).length (grpCells hv (ts.take k ++ nb.data.toList :: ts.drop k)) := by
                rw [grpCells_append, grpCells_cons, hnb2, List.length_append, List.length_cons, List.length_take, List.length_drop]
                refine own_cast hown3 (by have := HTT.out; omega) ?_
                have e : encStr nb.data.toList = .string nb := by simp [encStr]
                rw [e]
                simp
              have hM := hGG.out.moved hB7 hB3.size (Nat.le_refl _) hown4
              have hRP := hR'.out.put (xp, xk, xv) k hkl (by rw [HNB.out]; exact HLOW.out) (by rw [HNB.out]; exact HHIGH.out)
              rw [HNB.out] at hRP
              have hkk : k < (ts.take k ++ nb.data.toList :: ts.drop k).length := by rw [List.length_append, List.length_cons, List.length_take]; omega
              have hkn : (ts.take k ++ nb.data.toList :: ts.drop k)[k] = nb.data.toList := get_mid _ _ _ k (by rw [List.length_take]; omega) hkk
              have hlen4 : (ts.take k ++ nb.data.toList :: ts.drop k).length ≤ n + 1 := by
                rw [List.length_append, List.length_cons, List.length_take, List.length_drop]
                have := HTT.out
                omega
              have hN4 : ∀ nm, nm ∉ (ts.take k ++ nb.data.toList :: ts.drop k) → hv nm = .slice none 0 0 := fun nm hnm => hN'.out nm fun hm => hnm (by
                rw [← List.take_append_drop k ts, List.mem_append] at hm
                rw [List.mem_append, List.mem_cons]
                rcases hm with hm | hm
                · exact Or.inl hm
                · exact Or.inr (Or.inr hm))
              clear hown3 hgrow3 hat3 hown4 hnb2 OW2 hB6
              generalize ts.take k ++ nb.data.toList :: ts.drop k = ts4 at hM hRP hkk hkn hlen4 hN4
              obtain ⟨T4, hlT4⟩ : ∃ T4, ts4.length = T4 := ⟨_, rfl⟩
              have HLEN4 : Hid (ts4.length = T4) := hlT4
              obtain ⟨g4, cp4, rfl⟩ : ∃ g4 cp4, v3 = .slice (some ⟨g4, 0, none⟩) T4 cp4 := by
                rcases hM.out.2 with ⟨_, h0⟩ | ⟨g4, cp4, cur, e, _⟩
                · omega
                · exact ⟨g4, cp4, by rw [e, hlT4]⟩
              clear hlT4
              have hkT : k < T4 := by rw [← HLEN4.out]; exact hkk
              have HRP : Hid (Rise p (ys ++ [(xp, xk, xv)]) ts4) := hRP
              have HN4 : Hid (∀ nm, nm ∉ ts4 → hv nm = .slice none 0 0) := hN4
              have HKN : Hid (ts4[k] = nb.data.toList) := hkn
              have hrd := hM.own ts4[k]
              have hcl := grpCells_get hv ts4 k hkk
              have hM' : GrpM w6 w1.heap.size (.slice (some ⟨g4, 0, none⟩) ts4.length cp4) p ys ts4 hv := by rw [HLEN4.out]; exact hM
              have q1 := hM'.out.cellAt (k * 2 + 1) (by omega)
              rw [hcl.2] at q1
              have hfz4 := hM'.out.frozenAt (k * 2 + 1)
              have HMM : Hid (GrpM w6 w1.heap.size (.slice (some ⟨g4, 0, none⟩) ts4.length cp4) p ys ts4 hv) := hM'
              obtain ⟨vq, vc, hvf⟩ := own_form hrd
              have hgl := hGL.out ts4[k]
              obtain ⟨G, hGr⟩ : ∃ G, grp p ys ts4[k] = G := ⟨_, rfl⟩
              obtain ⟨vn, hvn⟩ : ∃ vn, hv ts4[k] = vn := ⟨_, rfl⟩
              have HGR : Hid (grp p ys ts4[k] = G) := hGr
              have HVN : Hid (hv ts4[k] = vn) := hvn
              rw [hGr] at hrd hgl hvf
              rw [hvn] at hrd hvf q1
              have HRD : Hid (w6.ownsRow w1.heap.size 30 3 vn G.length (flatR G)) := hrd
              clear hrd hcl hM hM' hRP hN4 hkn hGr hvn
              obtain ⟨M, hMl⟩ : ∃ M, G.length = M := ⟨_, rfl⟩
              have HML : Hid (G.length = M) := hMl
              rw [hMl] at hgl hvf
              subst hvf
              clear hMl
              have k1 := below_keep hB7 e1
              have k2 := below_keep hB7 e2
              have k3 := below_keep hB7 e3
              have hW6 : Below w1.heap.size w1 w6 := hB3.trans (hB7.mono hB3.size)
              have hki : (k : Int) < (T4 : Int) := by omega
              have hk0 : (0 : Int) ≤ (k : Int) := by omega
              have ag : (Value.slice vq M vc).ownBlock ≠ some g4 := by
                have h1 := HMM.out.off ts4[k]
                rw [HVN.out] at h1
                rcases h1 with h1 | h1
                · rw [h1]; simp
                · exact h1
              have ar : (Value.slice vq M vc).ownBlock ≠ some b := fun e => by
                have h1 := (own_lt HRD.out e).1
                have h2 := HBL.out
                omega
              have lg : g4 < w6.heap.size := cell_lt q1
              have lb : b < w6.heap.size := cell_lt k1
              have hws := hW6.size
              have hq63 : G.length + 1 ≤ maxLen := by have := HML.out; unfold maxLen; omega
              have hqby : (G.length + 1) * 32 ≤ 140737488355328 := by have := HML.out; omega
              have hbA : Below w6.heap.size w6 (w6.alloc (.cells #[.string xp, .int .i64 xk, .int .i64 xv] 30)).drew := ((Below.refl _ _).alloc (Nat.le_refl _) _).drew
              clear e1 e2 e3
              go_wp2_with fail
              go_region_held3 (fun w' => w'.cell? ⟨g4, k * 2 + 1, none⟩ = some (.slice vq M vc) ∧ w'.cell? ⟨b, o + n * 3, none⟩ = some (.string xp) ∧ w'.cell? ⟨b, o + n * 3 + 1, none⟩ = some (.int .i64 xk) ∧ w'.cell? ⟨b, o + n * 3 + 2, none⟩ = some (.int .i64 xv))
                (first
                  | go_keep
                  | (go_split_ands
                     refine ⟨?_, ?_, ?_, ?_⟩
                     · (rw [hgrow7.cell_far _ (by simp; omega) (Ne.symm ag)]; assumption)
                     · (rw [hgrow7.cell_far _ (by simp; omega) (Ne.symm ar)]; assumption)
                     · (rw [hgrow7.cell_far _ (by simp; omega) (Ne.symm ar)]; assumption)
                     · (rw [hgrow7.cell_far _ (by simp; omega) (Ne.symm ar)]; assumption)))
                ((refine step_append_lies _ (by rfl) _ _ _ (by rfl) w1.heap.size 30 i0 _ 3 32 Tryz.underlying22 hi0 hz0 hs0 hby0 rfl (by omega) (.slice vq M vc) G.length (flatR G) (by rfl) ((HRD.out.alloc _).drew) ⟨w6.heap.size, 0, none⟩ 1 1 (encR (xp, xk, xv)) (by rfl) (by rfl) (World.news_of_block (cs := #[.string xp, .int .i64 xk, .int .i64 xv]) (t := 30) (fr := (0, 0)) (heap_alloc_new w6 _)) (encR_one _) (by omega) hq63 hqby (by simp; omega) (w6.heap.size + 1) (by simp) ?_; intro g7 cap7 w7 hown7 hgrow7 hat7 hlt7))
              have hMA := HMM.out.below hbA
              have hst := hMA.step (W3 := w7) (by exact HRP.out.nodup) hkk (xp, xk, xv) (by rw [HNB.out, HKN.out]) (.slice (some ⟨g7, 0, none⟩) (G.length + 1) cap7) (by rw [HGR.out]; exact hown7) (by rw [HVN.out]; exact hgrow7) (by rw [HVN.out]; exact hat7.elim (fun h' => Or.inl h'.symm) (fun h' => Or.inr (by rw [h']; simp [Value.ownBlock])))
              have q7 : w7.cell? ⟨g4, k * 2 + 1, none⟩ = some (.slice vq M vc) := by
                have h1 := (hMA.out.kept hgrow7 (Or.inr fun e => by
                  rcases hMA.off ts4[k] with h' | h'
                  · rw [HVN.out] at h'; rw [h'] at e; simp [Value.ownBlock] at e
                  · rw [HVN.out] at h'; exact h' e.symm)).cellAt (k * 2 + 1) (by omega)
                rw [(grpCells_get hv ts4 k hkk).2, HVN.out] at h1
                exact h1
              have z7 : w7.frozen? ⟨g4, k * 2 + 1, none⟩ = false := (hMA.out.kept hgrow7 (Or.inr fun e => by
                  rcases hMA.off ts4[k] with h' | h'
                  · rw [HVN.out] at h'; rw [h'] at e; simp [Value.ownBlock] at e
                  · rw [HVN.out] at h'; exact h' e.symm)).frozenAt (k * 2 + 1)
              have hW7 : Below w1.heap.size w1 w7 := by
                have h1 : Below w1.heap.size w1 (w6.alloc (.cells #[.string xp, .int .i64 xk, .int .i64 xv] 30)).drew := hW6.trans (hbA.mono hW6.size)
                exact h1.grown hgrow7 h1.size (fun k hk => own_block HRD.out hk)
              have hg4 : w1.heap.size ≤ g4 := (own_lt hMA.out rfl).1
              have hW8 : Below w1.heap.size w1 (w7.setCell ⟨g4, k * 2 + 1, none⟩ (.slice (some ⟨g7, 0, none⟩) (G.length + 1) cap7)) := hW7.setCell hg4 _
              have HST : Hid (GrpM (w7.setCell ⟨g4, k * 2 + 1, none⟩ (.slice (some ⟨g7, 0, none⟩) (G.length + 1) cap7)) w1.heap.size (.slice (some ⟨g4, 0, none⟩) T4 cp4) p (ys ++ [(xp, xk, xv)]) ts4 (fun m => if m = ts4[k] then (.slice (some ⟨g7, 0, none⟩) (G.length + 1) cap7) else hv m)) := by
                show GrpM _ _ _ _ _ _ _
                rw [← HLEN4.out]; exact hst
              clear hst hown7 hgrow7 hat7 hMA q1 hfz4 k1 k2 k3
              go_wp2
              go_roundw
              case rel => exact ⟨n + 1, ts4, _, by omega, by go_num, hW8, by rw [HT.out]; exact HST.out, by rw [HT.out]; exact HRP.out, fun nm hnm => by rw [if_neg (fun e => hnm (by rw [e]; exact List.getElem_mem _))]; exact HN4.out nm hnm⟩
              case measure => simp [intOf]; omega
            · have hne : cp = k := by omega
              go_wp2_with (at_builtin; refine wpList_append_src rfl _ _ 59 rfl w3.heap.size 65 i1 (.agg #[.string ⟨#[]⟩, .slice none 0 0]) 2 40 Tryz.underlying59 hi1 hz1 hs1 hby1 rfl (by decide) (.slice none 0 0) 0 [] rfl (World.ownsRow_nil _ _ _ _) _ _ _ (grpCells hv (ts.take k)) rfl ?qa1 ?qa2 ?qa3 ?qa4 ?qa5 ?qa6 ?_)
              case qa1 => rw [grpCells_len, List.length_take, HTT.out]; omega
              case qa2 => exact Or.inr ⟨_, _, rfl, fun j u hj => by have := HALL.out _ u (grpCells_take hj); simpa using this⟩
              case qa3 => exact grp_one hv _ hON.out
              case qa4 => unfold maxLen; omega
              case qa5 => omega
              try (case qa6 => exact Nat.le_refl _)
              intro v1 w4 hown1 hgrow1 hat1
              have hB4 : Below w3.heap.size w3 w4 := (Below.refl _ _).grown hgrow1 (Nat.le_refl _) (fun k hk => by simp [Value.ownBlock] at hk)
              have OW1 : Hid (w4.ownsRow w3.heap.size 65 2 v1 (0 + k) ([] ++ grpCells hv (ts.take k))) := own_cast hown1 (by omega) (by simp)
              clear hown1 hgrow1 hat1
              have hal4 : Below w4.heap.size w4 (w4.alloc (.cells #[.string nb, .slice none 0 0] 65)) := (Below.refl _ _).alloc (Nat.le_refl _) _
              have hB5 : Below w3.heap.size w3 (w4.alloc (.cells #[.string nb, .slice none 0 0] 65)) := hB4.alloc hB4.size _
              go_wp2_with (at_builtin; refine wpList_append_src rfl _ _ 59 rfl w3.heap.size 65 i1 (.agg #[.string ⟨#[]⟩, .slice none 0 0]) 2 40 Tryz.underlying59 hi1 hz1 hs1 hby1 rfl (by decide) v1 (0 + k) ([] ++ grpCells hv (ts.take k)) rfl ?qb0 _ _ _ [.string nb, .slice none 0 0] rfl ?qb1 ?qb2 ?qb3 ?qb4 ?qb5 ?qb6 ?_)
              case qb0 => exact own_below OW1.out hal4
              case qb1 => rfl
              case qb2 => exact src_new w4 [.string nb, .slice none 0 0] _ _ _
              case qb3 => intro u hu; simp only [List.mem_cons, List.not_mem_nil, or_false] at hu; rcases hu with rfl | rfl <;> rfl
              case qb4 => unfold maxLen; omega
              case qb5 => omega
              case qb6 => exact hB5.size
              intro v2 w5 hown2 hgrow2 hat2
              have hB6 : Below w3.heap.size w3 w5 := hB5.grown hgrow2 hB5.size (fun k hk => own_block OW1.out hk)
              have OW2 : Hid (w5.ownsRow w3.heap.size 65 2 v2 (0 + k + 1) ([] ++ grpCells hv (ts.take k) ++ [.string nb, .slice none 0 0])) := own_cast hown2 (by omega) (by simp)
              clear hown2 hgrow2 hat2 OW1 hB4 hal4 hB5
              go_wp2_with (at_builtin; refine wpList_append_src rfl _ _ 59 rfl w3.heap.size 65 i1 (.agg #[.string ⟨#[]⟩, .slice none 0 0]) 2 40 Tryz.underlying59 hi1 hz1 hs1 hby1 rfl (by decide) v2 (0 + k + 1) ([] ++ grpCells hv (ts.take k) ++ [.string nb, .slice none 0 0]) rfl ?qc0 _ _ _ (grpCells hv (ts.drop k)) rfl ?qc1 ?qc2 ?qc3 ?qc4 ?qc5 ?qc6 ?_)
              case qc0 => exact OW2.out
              case qc1 => have e1 := grpCells_len hv (ts.drop k); rw [List.length_drop, HTT.out] at e1; omega
              case qc2 => exact Or.inl ⟨by omega, fun h => by cases h⟩
              case qc3 => exact grp_one hv _ hON.out
              case qc4 => unfold maxLen; omega
              case qc5 => omega
              case qc6 => exact hB6.size
              intro v3 w6 hown3 hgrow3 hat3
              have hB7 : Below w3.heap.size w3 w6 := hB6.grown hgrow3 hB6.size (fun k hk => own_block OW2.out hk)
              have hkl : k ≤ ts.length := by rw [HTT.out]; omega
              have hnb2 : hv nb.data.toList = .slice none 0 0 := hN'.out _ HNOT.out
              have hown4 : w6.ownsRow w3.heap.size 65 2 v3 (ts.take k ++ nb.data.toList :: ts.drop k).length (grpCells hv (ts.take k ++ nb.data.toList :: ts.drop k)) := by
                rw [grpCells_append, grpCells_cons, hnb2, List.length_append, List.length_cons, List.length_take, List.length_drop]
                refine own_cast hown3 (by have := HTT.out; omega) ?_
                have e : encStr nb.data.toList = .string nb := by simp [encStr]
                rw [e]
                simp
              have hM := hGG.out.moved hB7 hB3.size (Nat.le_refl _) hown4
              have hRP := hR'.out.put (xp, xk, xv) k hkl (by rw [HNB.out]; exact HLOW.out) (by rw [HNB.out]; exact HHIGH.out)
              rw [HNB.out] at hRP
              have hkk : k < (ts.take k ++ nb.data.toList :: ts.drop k).length := by rw [List.length_append, List.length_cons, List.length_take]; omega
              have hkn : (ts.take k ++ nb.data.toList :: ts.drop k)[k] = nb.data.toList := get_mid _ _ _ k (by rw [List.length_take]; omega) hkk
              have hlen4 : (ts.take k ++ nb.data.toList :: ts.drop k).length ≤ n + 1 := by
                rw [List.length_append, List.length_cons, List.length_take, List.length_drop]
                have := HTT.out
                omega
              have hN4 : ∀ nm, nm ∉ (ts.take k ++ nb.data.toList :: ts.drop k) → hv nm = .slice none 0 0 := fun nm hnm => hN'.out nm fun hm => hnm (by
                rw [← List.take_append_drop k ts, List.mem_append] at hm
                rw [List.mem_append, List.mem_cons]
                rcases hm with hm | hm
                · exact Or.inl hm
                · exact Or.inr (Or.inr hm))
              clear hown3 hgrow3 hat3 hown4 hnb2 OW2 hB6
              generalize ts.take k ++ nb.data.toList :: ts.drop k = ts4 at hM hRP hkk hkn hlen4 hN4
              obtain ⟨T4, hlT4⟩ : ∃ T4, ts4.length = T4 := ⟨_, rfl⟩
              have HLEN4 : Hid (ts4.length = T4) := hlT4
              obtain ⟨g4, cp4, rfl⟩ : ∃ g4 cp4, v3 = .slice (some ⟨g4, 0, none⟩) T4 cp4 := by
                rcases hM.out.2 with ⟨_, h0⟩ | ⟨g4, cp4, cur, e, _⟩
                · omega
                · exact ⟨g4, cp4, by rw [e, hlT4]⟩
              clear hlT4
              have hkT : k < T4 := by rw [← HLEN4.out]; exact hkk
              have HRP : Hid (Rise p (ys ++ [(xp, xk, xv)]) ts4) := hRP
              have HN4 : Hid (∀ nm, nm ∉ ts4 → hv nm = .slice none 0 0) := hN4
              have HKN : Hid (ts4[k] = nb.data.toList) := hkn
              have hrd := hM.own ts4[k]
              have hcl := grpCells_get hv ts4 k hkk
              have hM' : GrpM w6 w1.heap.size (.slice (some ⟨g4, 0, none⟩) ts4.length cp4) p ys ts4 hv := by rw [HLEN4.out]; exact hM
              have q1 := hM'.out.cellAt (k * 2 + 1) (by omega)
              rw [hcl.2] at q1
              have hfz4 := hM'.out.frozenAt (k * 2 + 1)
              have HMM : Hid (GrpM w6 w1.heap.size (.slice (some ⟨g4, 0, none⟩) ts4.length cp4) p ys ts4 hv) := hM'
              obtain ⟨vq, vc, hvf⟩ := own_form hrd
              have hgl := hGL.out ts4[k]
              obtain ⟨G, hGr⟩ : ∃ G, grp p ys ts4[k] = G := ⟨_, rfl⟩
              obtain ⟨vn, hvn⟩ : ∃ vn, hv ts4[k] = vn := ⟨_, rfl⟩
              have HGR : Hid (grp p ys ts4[k] = G) := hGr
              have HVN : Hid (hv ts4[k] = vn) := hvn
              rw [hGr] at hrd hgl hvf
              rw [hvn] at hrd hvf q1
              have HRD : Hid (w6.ownsRow w1.heap.size 30 3 vn G.length (flatR G)) := hrd
              clear hrd hcl hM hM' hRP hN4 hkn hGr hvn
              obtain ⟨M, hMl⟩ : ∃ M, G.length = M := ⟨_, rfl⟩
              have HML : Hid (G.length = M) := hMl
              rw [hMl] at hgl hvf
              subst hvf
              clear hMl
              have k1 := below_keep hB7 e1
              have k2 := below_keep hB7 e2
              have k3 := below_keep hB7 e3
              have hW6 : Below w1.heap.size w1 w6 := hB3.trans (hB7.mono hB3.size)
              have hki : (k : Int) < (T4 : Int) := by omega
              have hk0 : (0 : Int) ≤ (k : Int) := by omega
              have ag : (Value.slice vq M vc).ownBlock ≠ some g4 := by
                have h1 := HMM.out.off ts4[k]
                rw [HVN.out] at h1
                rcases h1 with h1 | h1
                · rw [h1]; simp
                · exact h1
              have ar : (Value.slice vq M vc).ownBlock ≠ some b := fun e => by
                have h1 := (own_lt HRD.out e).1
                have h2 := HBL.out
                omega
              have lg : g4 < w6.heap.size := cell_lt q1
              have lb : b < w6.heap.size := cell_lt k1
              have hws := hW6.size
              have hq63 : G.length + 1 ≤ maxLen := by have := HML.out; unfold maxLen; omega
              have hqby : (G.length + 1) * 32 ≤ 140737488355328 := by have := HML.out; omega
              have hbA : Below w6.heap.size w6 (w6.alloc (.cells #[.string xp, .int .i64 xk, .int .i64 xv] 30)).drew := ((Below.refl _ _).alloc (Nat.le_refl _) _).drew
              clear e1 e2 e3
              go_wp2_with fail
              go_region_held3 (fun w' => w'.cell? ⟨g4, k * 2 + 1, none⟩ = some (.slice vq M vc) ∧ w'.cell? ⟨b, o + n * 3, none⟩ = some (.string xp) ∧ w'.cell? ⟨b, o + n * 3 + 1, none⟩ = some (.int .i64 xk) ∧ w'.cell? ⟨b, o + n * 3 + 2, none⟩ = some (.int .i64 xv))
                (first
                  | go_keep
                  | (go_split_ands
                     refine ⟨?_, ?_, ?_, ?_⟩
                     · (rw [hgrow7.cell_far _ (by simp; omega) (Ne.symm ag)]; assumption)
                     · (rw [hgrow7.cell_far _ (by simp; omega) (Ne.symm ar)]; assumption)
                     · (rw [hgrow7.cell_far _ (by simp; omega) (Ne.symm ar)]; assumption)
                     · (rw [hgrow7.cell_far _ (by simp; omega) (Ne.symm ar)]; assumption)))
                ((refine step_append_lies _ (by rfl) _ _ _ (by rfl) w1.heap.size 30 i0 _ 3 32 Tryz.underlying22 hi0 hz0 hs0 hby0 rfl (by omega) (.slice vq M vc) G.length (flatR G) (by rfl) ((HRD.out.alloc _).drew) ⟨w6.heap.size, 0, none⟩ 1 1 (encR (xp, xk, xv)) (by rfl) (by rfl) (World.news_of_block (cs := #[.string xp, .int .i64 xk, .int .i64 xv]) (t := 30) (fr := (0, 0)) (heap_alloc_new w6 _)) (encR_one _) (by omega) hq63 hqby (by simp; omega) (w6.heap.size + 1) (by simp) ?_; intro g7 cap7 w7 hown7 hgrow7 hat7 hlt7))
              have hMA := HMM.out.below hbA
              have hst := hMA.step (W3 := w7) (by exact HRP.out.nodup) hkk (xp, xk, xv) (by rw [HNB.out, HKN.out]) (.slice (some ⟨g7, 0, none⟩) (G.length + 1) cap7) (by rw [HGR.out]; exact hown7) (by rw [HVN.out]; exact hgrow7) (by rw [HVN.out]; exact hat7.elim (fun h' => Or.inl h'.symm) (fun h' => Or.inr (by rw [h']; simp [Value.ownBlock])))
              have q7 : w7.cell? ⟨g4, k * 2 + 1, none⟩ = some (.slice vq M vc) := by
                have h1 := (hMA.out.kept hgrow7 (Or.inr fun e => by
                  rcases hMA.off ts4[k] with h' | h'
                  · rw [HVN.out] at h'; rw [h'] at e; simp [Value.ownBlock] at e
                  · rw [HVN.out] at h'; exact h' e.symm)).cellAt (k * 2 + 1) (by omega)
                rw [(grpCells_get hv ts4 k hkk).2, HVN.out] at h1
                exact h1
              have z7 : w7.frozen? ⟨g4, k * 2 + 1, none⟩ = false := (hMA.out.kept hgrow7 (Or.inr fun e => by
                  rcases hMA.off ts4[k] with h' | h'
                  · rw [HVN.out] at h'; rw [h'] at e; simp [Value.ownBlock] at e
                  · rw [HVN.out] at h'; exact h' e.symm)).frozenAt (k * 2 + 1)
              have hW7 : Below w1.heap.size w1 w7 := by
                have h1 : Below w1.heap.size w1 (w6.alloc (.cells #[.string xp, .int .i64 xk, .int .i64 xv] 30)).drew := hW6.trans (hbA.mono hW6.size)
                exact h1.grown hgrow7 h1.size (fun k hk => own_block HRD.out hk)
              have hg4 : w1.heap.size ≤ g4 := (own_lt hMA.out rfl).1
              have hW8 : Below w1.heap.size w1 (w7.setCell ⟨g4, k * 2 + 1, none⟩ (.slice (some ⟨g7, 0, none⟩) (G.length + 1) cap7)) := hW7.setCell hg4 _
              have HST : Hid (GrpM (w7.setCell ⟨g4, k * 2 + 1, none⟩ (.slice (some ⟨g7, 0, none⟩) (G.length + 1) cap7)) w1.heap.size (.slice (some ⟨g4, 0, none⟩) T4 cp4) p (ys ++ [(xp, xk, xv)]) ts4 (fun m => if m = ts4[k] then (.slice (some ⟨g7, 0, none⟩) (G.length + 1) cap7) else hv m)) := by
                show GrpM _ _ _ _ _ _ _
                rw [← HLEN4.out]; exact hst
              clear hst hown7 hgrow7 hat7 hMA q1 hfz4 k1 k2 k3
              go_wp2
              go_roundw
              case rel => exact ⟨n + 1, ts4, _, by omega, by go_num, hW8, by rw [HT.out]; exact HST.out, by rw [HT.out]; exact HRP.out, fun nm hnm => by rw [if_neg (fun e => hnm (by rw [e]; exact List.getElem_mem _))]; exact HN4.out nm hnm⟩
              case measure => simp [intOf]; omega
    · obtain rfl : n = m := by omega
      by_cases hmL : n < L
      · have hltx : n < xs.length := by rw [HX.out]; exact hmL
        have hrows := hx1 wr hb
        rcases hrows with ⟨_, _, e, e'⟩ | ⟨b, o, cap2, e, hcells⟩
        · exfalso; have := HX.out; rw [e'] at this; simp at this; omega
        injection e with e1 e2 e3
        subst e1
        clear e2 e3
        obtain ⟨c1, c2, c3⟩ := hcells n hltx
        clear hcells
        have hi : (n : Int) < (L : Int) := by omega
        have hi0' : (0 : Int) ≤ (n : Int) := by omega
        have hrp := hp _ (List.getElem_mem hltx)
        have hre := fun W => rowError_any xs[n] W (by unfold maxLen; omega)
        have hE := HEND.out hltx
        obtain ⟨E, hEE⟩ : ∃ E, rowE xs[n] = E := ⟨_, rfl⟩
        have HEE : Hid (rowE xs[n] = E) := hEE
        rw [hEE] at hre hE
        have hEp : (0 : Int) < (E : Int) := by omega
        clear hEE hE hrp
        generalize xs[n].1 = xp at c1 hre
        generalize xs[n].2.1 = xk at c2 hre
        generalize xs[n].2.2 = xv at c3 hre
        have g0 := below_keep hb f0
        have g1 := below_keep hb f1
        have gz : ∀ o, wr.frozen? ⟨w.heap.size, o, none⟩ = false := fun o => by rw [hb.frozen (p := ⟨w.heap.size, o, none⟩) hF]; exact fz o
        have hBr : Below w.heap.size w wr := hB1.trans (hb.mono hB1.size)
        clear hG hR hNil f0 f1 fz hx1 hgo
        go_wp2_with fail
        refine (hre wr).mono ?_
        rintro e w9 ⟨rfl, hb9⟩
        clear hre
        have j0 := below_keep hb9 g0
        have j1 := below_keep hb9 g1
        have jz : ∀ o, w9.frozen? ⟨w.heap.size, o, none⟩ = false := fun o => by rw [hb9.frozen (p := ⟨w.heap.size, o, none⟩) (show w.heap.size < wr.heap.size from cell_lt g0)]; exact gz o
        have hB9 : Below w.heap.size w w9 := hBr.trans (hb9.mono hBr.size)
        clear g0 g1 gz c1 c2 c3
        go_wp2
        refine bodyPost_ret (v := .tuple #[.slice none 0 0, .agg #[.int .i64 E, .int .i64 n]]) (by simp [results, Tryz.results36, go_sem, j0, j1]) rfl (Or.inr ⟨hltx, by rw [HEE.out], ?_⟩)
        exact (hB9.setCell (by simp) _).setCell (by simp) _
      · have hn' : n = L := by omega
        subst hn'
        have ht : xs.take n = xs := List.take_of_length_le (by rw [HX.out]; omega)
        rw [ht] at hG hR
        have hG' : Hid (GrpM wr w1.heap.size u9 p xs ts hv) := hG
        have hR' : Hid (Rise p xs ts) := hR
        have g0 := below_keep hb f0
        have g1 := below_keep hb f1
        have gz : ∀ o, wr.frozen? ⟨w.heap.size, o, none⟩ = false := fun o => by rw [hb.frozen (p := ⟨w.heap.size, o, none⟩) hF]; exact fz o
        have hfin := fine_any wr
        have hBr : Below w.heap.size w wr := hB1.trans (hb.mono hB1.size)
        clear hG hR hNil ht f0 f1 fz hx1 hgo
        go_wp2_with fail
        refine hfin.mono ?_
        rintro e w9 ⟨rfl, hb9⟩
        clear hfin
        have j0 := below_keep hb9 g0
        have j1 := below_keep hb9 g1
        have jz : ∀ o, w9.frozen? ⟨w.heap.size, o, none⟩ = false := fun o => by rw [hb9.frozen (p := ⟨w.heap.size, o, none⟩) (show w.heap.size < wr.heap.size from cell_lt g0)]; exact gz o
        have hB9 : Below w.heap.size w w9 := hBr.trans (hb9.mono hBr.size)
        have hG9 := hG'.out.below hb9
        clear g0 g1 gz
        go_wp2
        refine bodyPost_ret (v := .tuple #[u9, .agg #[.int .i64 0, .int .i64 (-1)]]) (by simp [results, Tryz.results36, go_sem, j0, j1]) rfl (Or.inl ⟨HX.out.symm, u9, ts, hv, rfl, ?_, hR'.out, ?_⟩)
        · have h1 := hG9.setCell_low (a := ⟨w.heap.size, 0, none⟩) hF (.int .i64 0)
          have h2 := h1.setCell_low (a := ⟨w.heap.size, 1, none⟩) hF (.int .i64 (-1))
          exact h2.lower (by omega)
        · exact (hB9.setCell (by simp) _).setCell (by simp) _

set_option maxRecDepth 100000 in
set_option maxHeartbeats 2000000 in
theorem splitOf_none (s : ByteArray) (v : Value) (w : World) (hs : s.size ≤ 1000) (hok : (specO s.data.toList).1 ≠ 0) :
    Calls Tryz.prog 36 #[.string s, v] w fun e w' => e = .returned (.tuple #[.slice none 0 0, .agg #[.int .i64 (specO s.data.toList).1, .int .i64 (-1)]]) ∧ Below w.heap.size w w' := by
  have hsp := fun W => specOf_any s W hs
  have hbr := fun W => bare_any (specO s.data.toList).1 W
  generalize specW s.data.toList = sw at hsp
  generalize (specO s.data.toList).2.2 = nn at hsp
  generalize (specO s.data.toList).1 = E at hsp hbr hok ⊢
  have hEp : (0 : Int) < (E : Int) := by omega
  have hal : Below w.heap.size w (w.alloc (.cells #[.int .i64 0, .int .i64 0] 61)) := (Below.refl _ _).alloc (Nat.le_refl _) _
  clear hok
  go_enter Tryz.func36, Tryz.ntmps36
  go_wp2_with fail
  refine (hsp _).mono ?_
  rintro e w1 ⟨rfl, hb1⟩
  clear hsp
  have hB1 : Below w.heap.size w w1 := hal.trans (hb1.mono hal.size)
  have f0 : w1.cell? ⟨w.heap.size, 0, none⟩ = some (.int .i64 0) := below_keep hb1 (by simp)
  have f1 : w1.cell? ⟨w.heap.size, 1, none⟩ = some (.int .i64 0) := below_keep hb1 (by simp)
  have fz : ∀ o, w1.frozen? ⟨w.heap.size, o, none⟩ = false := fun o => by rw [hb1.frozen (p := ⟨w.heap.size, o, none⟩) (by simp)]; exact frozen_of_row _ _ _ _ _ (heap_alloc_new _ _)
  clear hal hb1
  go_wp2_with fail
  refine (hbr w1).mono ?_
  rintro e w9 ⟨rfl, hb9⟩
  clear hbr
  have j0 := below_keep hb9 f0
  have j1 := below_keep hb9 f1
  have jz : ∀ o, w9.frozen? ⟨w.heap.size, o, none⟩ = false := fun o => by rw [hb9.frozen (p := ⟨w.heap.size, o, none⟩) (show w.heap.size < w1.heap.size from cell_lt f0)]; exact fz o
  have hB9 : Below w.heap.size w w9 := hB1.trans (hb9.mono hB1.size)
  clear f0 f1 fz
  go_wp2
  refine bodyPost_ret (v := .tuple #[.slice none 0 0, .agg #[.int .i64 E, .int .i64 (-1)]]) (by simp [results, Tryz.results36, go_sem, j0, j1]) rfl ⟨rfl, ?_⟩
  exact (hB9.setCell (by simp) _).setCell (by simp) _
end Go.Proofs.YtgffkkijfmoooaaGreatDoor
