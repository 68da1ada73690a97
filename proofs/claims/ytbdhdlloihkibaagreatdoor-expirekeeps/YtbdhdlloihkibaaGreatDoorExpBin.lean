/-
  The contract of slices.BinarySearch at sorted texts.
-/
import Derived.Test.YtbdhdlloihkibaaGreatDoorRefStore4
import Derived.Test.YtbdhdlloihkibaaGreatDoorStoShelf
import Derived.Lib.ItoaLen
namespace Go.Proofs.YtbdhdlloihkibaaGreatDoor
open Go.RowKit Go.Extern.Stop Go.Stop Go.Extern Go.Sort Go.Shelf Go.Lib

theorem enc_strs (ts : List ByteArray) : (ts.map txL).map encStr = ts.map Value.string := by
  rw [List.map_map]
  apply List.map_congr_left
  intro o _
  simp [encStr, txL]
def txB (l : List UInt8) : ByteArray := ⟨l.toArray⟩
theorem txL_txB (l : List UInt8) : txL (txB l) = l := by simp [txL, txB]
theorem txs_txB (zs : List (List UInt8)) : (zs.map txB).map txL = zs := by
  rw [List.map_map, show (txL ∘ txB) = id from funext txL_txB, List.map_id]
theorem enc_txB (zs : List (List UInt8)) : zs.map encStr = (zs.map txB).map Value.string := by
  rw [← enc_strs, txs_txB]
theorem but_putRow {α : Type} [Inhabited α] {enc : α → Value} {w : World} {g q : Nat} {d : Array α} : But (fun k => k = g) w (putRow enc (Sort.ahead w q) g 0 d) :=
  ⟨rfl, rfl, rfl, by simp [putRow, mapBlock, Sort.ahead], fun k hk hn => by simp [putRow, mapBlock, Sort.ahead, Array.getElem?_modify, show g ≠ k from fun e => hn e.symm]⟩

theorem sortS_own {B : Nat} {w : World} {v : Value} {ts : List ByteArray} (ho : w.ownsRow B 9 1 v ts.length (ts.map Value.string)) (hl : ts.length ≤ 20000) :
    Calls Tryz.prog 30 #[v] w fun e w' => e = .returned (.tuple #[]) ∧ ∃ us : List ByteArray, us.map txL = sortT (ts.map txL) ∧ w'.ownsRow B 9 1 v us.length (us.map Value.string) ∧ But (fun k => v.ownBlock = some k) w w' := by
  by_cases hv : v = .slice none 0 0
  · have h0 : ts = [] := by
      rcases ho.2 with ⟨_, h0⟩ | ⟨g, cap, cur, e, _⟩
      · exact List.length_eq_zero_iff.1 h0
      · rw [hv] at e; cases e
    subst hv h0
    have hso := AnyM.slices_Sort_string_none Tryz.sortIt none 0 w
    change Calls Tryz.prog 30 _ _ _ at hso
    refine hso.mono ?_
    rintro e w' ⟨rfl, rfl⟩
    exact ⟨rfl, [], by simp [sortT], ho, But.refl _ _⟩
  · have ho' : w.ownsRow B 9 1 v ts.length ((ts.map txL).map encStr) := by rw [enc_strs]; exact ho
    obtain ⟨g, cap, rfl, hbg, hlt, hn, hm, hlen, hH⟩ := holds_of_ownsRow ho' hv
    have hso := AnyM.slices_Sort_string Tryz.sortIt g 0 cap (ts.map txL) w hH hlt (by rw [hlen]; omega)
    change Calls Tryz.prog 30 _ _ _ at hso
    rw [hlen] at hso
    refine hso.mono ?_
    rintro e w' ⟨rfl, n, os, rfl⟩
    have hsl : (sortT (ts.map txL)).length = ts.length := by rw [sortT_len, hlen]
    have h1 := ownsRow_putRow (q := n) (k := ts.length) (ys := sortT (ts.map txL)) ho' hsl (Nat.le_refl _)
    rw [List.take_of_length_le (by rw [hsl]; exact Nat.le_refl _), enc_txB] at h1
    refine ⟨rfl, (sortT (ts.map txL)).map txB, txs_txB _, ?_, ?_⟩
    · rw [List.length_map, hsl]
      exact own_but (P := fun _ => False) h1 (But.of_below (below_grow os)) (fun _ _ h => h)
    · refine (But.mono but_putRow ?_).trans (But.of_below (P := fun _ => False) (below_grow os)) (fun _ h _ => h.elim)
      intro k hk
      rw [hk]
      rfl

theorem compS_own {B : Nat} {w : World} {v : Value} {ts : List ByteArray} (ho : w.ownsRow B 9 1 v ts.length (ts.map Value.string)) (hl : ts.length ≤ 20000) :
    Calls Tryz.prog 31 #[v] w fun e w' => ∃ (v' : Value) (us : List ByteArray), e = .returned v' ∧ us.map txL = Lib.compact (ts.map txL) ∧ w'.ownsRow B 9 1 v' us.length (us.map Value.string) ∧ But (fun k => v.ownBlock = some k) w w' := by
  by_cases hv : v = .slice none 0 0
  · have h0 : ts = [] := by
      rcases ho.2 with ⟨_, h0⟩ | ⟨g, cap, cur, e, _⟩
      · exact List.length_eq_zero_iff.1 h0
      · rw [hv] at e; cases e
    subst hv h0
    refine (Tryz.slices_Compact_string_empty none 0 w).mono ?_
    rintro e w' ⟨rfl, rfl⟩
    exact ⟨_, [], rfl, rfl, ho, But.refl _ _⟩
  · have ho' : w.ownsRow B 9 1 v ts.length ((ts.map txL).map encStr) := by rw [enc_strs]; exact ho
    obtain ⟨g, cap, rfl, hbg, hlt, hn, hm, hlen, hH⟩ := holds_of_ownsRow ho' hv
    have hco := Tryz.slices_Compact_string g 0 cap (ts.map txL) w hH (by rw [hlen]; omega) (by rw [hlen]; exact hn)
    rw [hlen] at hco
    have hcl : (Lib.compact (ts.map txL)).length ≤ ts.length := by
      rw [← hlen]
      unfold Lib.compact compactUpTo
      rw [List.length_map]
      refine Nat.le_trans (List.length_filter_le _ _) ?_
      simp
    refine hco.mono ?_
    rintro e w' ⟨rfl, q, rfl⟩
    have h1 := ownsRow_putRow (q := q) (k := (Lib.compact (ts.map txL)).length) (ys := Lib.compact (ts.map txL) ++ List.replicate (ts.length - (Lib.compact (ts.map txL)).length) []) ho' (by simp; omega) hcl
    rw [List.take_left', enc_txB] at h1
    · refine ⟨_, (Lib.compact (ts.map txL)).map txB, rfl, txs_txB _, ?_, ?_⟩
      · rw [List.length_map]
        exact h1
      · refine But.mono but_putRow ?_
        intro k hk
        rw [hk]
        rfl
    · rfl
end Go.Proofs.YtbdhdlloihkibaaGreatDoor
namespace Go.Proofs.YtbdhdlloihkibaaGreatDoor
open Go.RowKit Go.Extern.Stop Go.Stop Go.Extern Go.Sort Go.Shelf Go.Lib

def nameN (ss : List Sn) (n : Nat) : List ByteArray := (ss.take n).flatMap needS
def nameM (ss : List Sn) (n : Nat) (s : Sn) (m : Nat) : List ByteArray := nameN ss n ++ snpB s.1 :: (s.2.2.2.2.2.2.take m).map (·.1)
theorem nameN_succ {ss : List Sn} {n : Nat} (h : n < ss.length) : nameN ss (n + 1) = nameM ss n ss[n] ss[n].2.2.2.2.2.2.length := by
  unfold nameN nameM
  rw [← List.take_append_getElem h, List.flatMap_append, List.take_length]
  simp only [List.flatMap_cons, List.flatMap_nil, List.append_nil]
  rfl
theorem nameM_succ {ss : List Sn} {n : Nat} {s : Sn} {m : Nat} (h : m < s.2.2.2.2.2.2.length) : nameM ss n s (m + 1) = nameM ss n s m ++ [s.2.2.2.2.2.2[m].1] := by
  unfold nameM
  rw [← List.take_append_getElem h, List.map_append]
  simp
theorem nameN_len (ss : List Sn) (n : Nat) : (nameN ss n).length ≤ (ss.flatMap needS).length := by
  have e : ss.flatMap needS = (ss.take n).flatMap needS ++ (ss.drop n).flatMap needS := by rw [← List.flatMap_append, List.take_append_drop]
  rw [e, List.length_append]
  unfold nameN
  omega
theorem nameM_len {ss : List Sn} {n : Nat} (h : n < ss.length) (m : Nat) : (nameM ss n ss[n] m).length ≤ (ss.flatMap needS).length := by
  have h1 := nameN_len ss (n + 1)
  rw [nameN_succ h] at h1
  refine Nat.le_trans ?_ h1
  unfold nameM
  simp only [List.length_append, List.length_cons, List.length_map, List.length_take]
  omega
theorem nameN_all (ss : List Sn) : nameN ss ss.length = ss.flatMap needS := by
  unfold nameN
  rw [List.take_length]

set_option maxRecDepth 100000 in
set_option maxHeartbeats 8000000 in
theorem reach_any (v : Value) (ss : List Sn) (w : World) (ht : Lib.TabIs Tryz.prog w "internal/strconv.uint64pow10" .u64 Lib.pow10Tab) (hx : SnsAt w v ss) (hl : (ss.flatMap needS).length ≤ 900) (hd : ∀ s ∈ ss, -9223372036854775808 ≤ s.1 ∧ s.1 ≤ 9223372036854775807) :
    Calls Tryz.prog 13 #[v] w fun e w' => ∃ v', e = .returned v' ∧ w'.ownsRow w.heap.size 9 1 v' (reachL ss).length ((reachL ss).map Value.string) ∧ Below w.heap.size w w' := by
  have HX : Hid (∀ W, Below w.heap.size w W → SnsAt W v ss) := fun W hb => hx.below hb
  have HD : Hid (∀ s ∈ ss, -9223372036854775808 ≤ s.1 ∧ s.1 ≤ 9223372036854775807) := hd
  have HTB : Hid (∀ W, Below w.heap.size w W → Lib.TabIs Tryz.prog W "internal/strconv.uint64pow10" .u64 Lib.pow10Tab) := fun W hb => tab_below ht hb
  obtain ⟨q, cap, rfl⟩ := hx.form
  have hlen : ss.length ≤ 900 := by
    have h1 : ss.length ≤ (ss.flatMap needS).length := by
      clear hl HD hd hx HX HTB ht
      induction ss with
      | nil => simp
      | cons s r ih =>
        rw [List.flatMap_cons, List.length_append, List.length_cons]
        have : 1 ≤ (needS s).length := by unfold needS; rw [List.length_cons]; omega
        omega
    omega
  have HFL : Hid (∀ s ∈ ss, s.2.2.2.2.2.2.length ≤ 900) := fun s hs => by
    have h1 : (needS s).length ≤ (ss.flatMap needS).length := by
      obtain ⟨l1, l2, rfl⟩ := List.append_of_mem hs
      rw [List.flatMap_append, List.flatMap_cons, List.length_append, List.length_append]
      omega
    unfold needS at h1
    rw [List.length_cons, List.length_map] at h1
    show s.2.2.2.2.2.2.length ≤ 900
    have h2 : s.2.2.2.2.2.2.length + 1 ≤ (ss.flatMap needS).length := h1
    omega
  have HN0 : Hid (nameN ss ss.length = ss.flatMap needS) := nameN_all ss
  have HNL : Hid (∀ n, (nameN ss n).length ≤ 900) := fun n => Nat.le_trans (nameN_len ss n) hl
  have HML : Hid (∀ n (h : n < ss.length) m, (nameM ss n ss[n] m).length ≤ 900) := fun n h m => Nat.le_trans (nameM_len h m) hl
  have HN1 : Hid (∀ n (h : n < ss.length), nameN ss (n + 1) = nameM ss n ss[n] ss[n].2.2.2.2.2.2.length) := fun n h => nameN_succ h
  have HKL : Hid ((ss.flatMap needS).length ≤ 900 ∧ uniT ((ss.flatMap needS).map txL) = (reachL ss).map txL) := ⟨hl, reach_uni ss⟩
  obtain ⟨L, hL⟩ : ∃ L, ss.length = L := ⟨_, rfl⟩
  have HL : Hid (ss.length = L) := hL
  rw [hL] at HN0 HX hlen ⊢
  generalize reachL ss = KL at HKL ⊢
  generalize ss.flatMap needS = NL at HKL HN0
  clear hx hl hL hd ht
  go_enter Tryz.func13, Tryz.ntmps13
  go_wp2_with fail
  go_loopw [3, 5, 7, 10] (fun o _ _ i wr => ∃ n : Nat, n ≤ L ∧ i = .int .i64 n ∧ wr.ownsRow w.heap.size 9 1 o (nameN ss n).length ((nameN ss n).map Value.string) ∧ Below w.heap.size w wr) (fun _ _ _ i _ => L - (intOf i).toNat)
  case atStart => exact ⟨0, by omega, rfl, World.ownsRow_nil _ _ _ _, Below.refl _ _⟩
  case round =>
  obtain ⟨n, hn, rfl, ho, hb⟩ := hrel
  have HO : Hid (wr.ownsRow w.heap.size 9 1 u3 (nameN ss n).length ((nameN ss n).map Value.string)) := ho
  clear ho
  by_cases hlt : n < L
  case neg =>
    obtain rfl : n = L := by omega
    have hT : wr.ownsRow w.heap.size 9 1 u3 NL.length (NL.map Value.string) := by
      have h' := HO.out
      rw [HN0.out] at h'
      exact h'
    have hii : ¬ (n : Int) < (n : Int) := by omega
    have hso := sortS_own hT (Nat.le_trans HKL.out.1 (by decide))
    have HT : Hid (wr.ownsRow w.heap.size 9 1 u3 NL.length (NL.map Value.string)) := hT
    clear HO hT
    go_wp2_with fail
    refine hso.mono ?_
    rintro e w2 ⟨rfl, us, hus, ho2, hbut2⟩
    have hB2 : Below w.heap.size w w2 := hb.trans (hbut2.below hb.size (fun k hk => (own_blk HT.out hk).1))
    have hul : us.length ≤ 20000 := by
      have h1 : (us.map txL).length = NL.length := by rw [hus, sortT_len, List.length_map]
      rw [List.length_map] at h1
      have := HKL.out.1
      omega
    have hco := compS_own ho2 hul
    have HO2 : Hid (w2.ownsRow w.heap.size 9 1 u3 us.length (us.map Value.string)) := ho2
    have HUS : Hid (us.map txL = sortT (NL.map txL)) := hus
    clear hso ho2 hbut2 hus hul
    go_wp2_with fail
    refine hco.mono ?_
    rintro e w3 ⟨v3, ks, rfl, hks, ho3, hbut3⟩
    have hB3 : Below w.heap.size w w3 := hB2.trans (hbut3.below hB2.size (fun k hk => (own_blk HO2.out hk).1))
    have hkk : ks = KL := by
      have h1 : ks.map txL = KL.map txL := by
        rw [hks, HUS.out]
        exact HKL.out.2
      exact List.map_inj_right (fun a b e => txL_inj e) |>.1 h1
    subst hkk
    have HE : Hid (w3.ownsRow w.heap.size 9 1 v3 ks.length (ks.map Value.string)) := ho3
    clear hco ho3 hbut3 hks HUS HO2
    go_wp2
    go_ret
    exact ⟨_, rfl, HE.out, hB3⟩
  case pos =>
  have hltx : n < ss.length := by rw [HL.out]; exact hlt
  obtain ⟨b, o, hq, hc⟩ := (HX.out w (Below.refl _ _)).cells (fun e => by rw [e] at hltx; simp at hltx)
  subst hq
  have hi1 : (n : Int) < (L : Int) := by omega
  have hi0 : (0 : Int) ≤ (n : Int) := by omega
  obtain ⟨c0, c3, vf, c6, hfs, c1, c2, c4, c5⟩ := hc n hltx
  replace c0 := below_keep hb c0
  replace c1 := below_keep hb c1
  replace c2 := below_keep hb c2
  replace c3 := below_keep hb c3
  replace c4 := below_keep hb c4
  replace c5 := below_keep hb c5
  replace c6 := below_keep hb c6
  have hdn := HD.out ss[n] (List.getElem_mem _)
  have hfl := HFL.out ss[n] (List.getElem_mem _)
  have HM1 : Hid (∀ m, (nameM ss n ss[n] m).length ≤ 900) := HML.out n hltx
  have HM2 : Hid (nameN ss (n + 1) = nameM ss n ss[n] ss[n].2.2.2.2.2.2.length) := HN1.out n hltx
  generalize ss[n] = g at c0 c1 c2 c3 c4 c5 c6 hdn HM1 HM2 hfs hfl
  have HMS : Hid (∀ m (h : m < g.2.2.2.2.2.2.length), nameM ss n g (m + 1) = nameM ss n g m ++ [g.2.2.2.2.2.2[m].1]) := fun m h => nameM_succ h
  have HM0 : Hid (nameM ss n g 0 = nameN ss n ++ [snpB g.1]) := by
    show _ = _
    unfold nameM
    simp
  obtain ⟨g0, g1, g2, g3, g4, g5, fs⟩ := g
  dsimp only at *
  generalize nameM ss n (g0, g1, g2, g3, g4, g5, fs) = RM at *
  obtain ⟨fq, fc, rfl⟩ := hfs.form
  have HFS : Hid (∀ W, Below w.heap.size w W → FlsAt W (.slice fq fs.length fc) fs) := fun W hW => hfs.below hW
  obtain ⟨M, hM⟩ : ∃ M, fs.length = M := ⟨_, rfl⟩
  have HMM : Hid (fs.length = M) := hM
  rw [hM] at HM2 HFS hfl c6
  obtain ⟨W1, hW1⟩ : ∃ W, W = wr := ⟨_, rfl⟩
  subst hW1
  have HNB : Hid (∀ k, u3.ownBlock = some k → w.heap.size ≤ k ∧ k < W1.heap.size) := fun k hk => ⟨(own_blk HO.out hk).1, (own_blk HO.out hk).2.1⟩
  have hal : Below W1.heap.size W1 (W1.alloc (.cells #[.int .i64 g0, .int .i64 g1, .int .i64 g2, .int .i64 g3, .int .i64 g4, .string g5, .slice fq M fc] 30)) := (Below.refl _ _).alloc (Nat.le_refl _) _
  have hsn : SnAt (W1.alloc (.cells #[.int .i64 g0, .int .i64 g1, .int .i64 g2, .int .i64 g3, .int .i64 g4, .string g5, .slice fq M fc] 30)) W1.heap.size (g0, g1, g2, g3, g4, g5, []) (.slice fq M fc) := heap_alloc_new _ _
  have hBA : Below w.heap.size w (W1.alloc (.cells #[.int .i64 g0, .int .i64 g1, .int .i64 g2, .int .i64 g3, .int .i64 g4, .string g5, .slice fq M fc] 30)) := hb.trans (hal.mono hb.size)
  have hit := itoa_any g0 _ (HTB.out _ hBA) hdn.1 hdn.2
  have hsz : (bytesOf (itoa g0)).size ≤ 21 := by rw [bytesOf_size]; exact itoa_length_le g0 hdn.1 hdn.2
  have HM9 : Hid (RM 0 = nameN ss n ++ [⟨#[115, 110, 97, 112, 47]⟩ ++ bytesOf (itoa g0)]) := HM0.out
  have HOA : Hid ((W1.alloc (.cells #[.int .i64 g0, .int .i64 g1, .int .i64 g2, .int .i64 g3, .int .i64 g4, .string g5, .slice fq M fc] 30)).ownsRow w.heap.size 9 1 u3 (nameN ss n).length ((nameN ss n).map Value.string)) := own_but (P := fun _ => False) HO.out (But.of_below hal) (fun _ _ h => h)
  generalize bytesOf (itoa g0) = TB at hit hsz HM9
  clear hc hltx hfs hM HM0 HO hal
  go_upto_region 5 with fail
  generalize W1.alloc (.cells #[.int .i64 g0, .int .i64 g1, .int .i64 g2, .int .i64 g3, .int .i64 g4, .string g5, .slice fq M fc] 30) = WA at hsn hit HOA hBA ⊢
  generalize W1.heap.size = sb at hsn HNB ⊢
  clear c0 c1 c2 c3 c4 c5 c6
  obtain ⟨k0, -, -, -, -, -, k6⟩ := hsn.cells
  dsimp only at k0 k6
  clear hsn
  go_wp2_with fail
  refine hit.mono ?_
  rintro e w1 ⟨rfl, kk, oo, hw1⟩
  have hb1 : Below WA.heap.size WA w1 := by rw [hw1]; exact grow_below kk oo
  have HO1 : Hid (w1.ownsRow w.heap.size 9 1 u3 (nameN ss n).length ((nameN ss n).map Value.string)) := own_but (P := fun _ => False) HOA.out (But.of_below hb1) (fun _ _ h => h)
  have hBw1 : Below w.heap.size w w1 := hBA.trans (hb1.mono hBA.size)
  obtain ⟨v5, W5, hr5, ho5, hbut5, -⟩ := str_run HO1.out hBw1.size (⟨#[115, 110, 97, 112, 47]⟩ ++ TB) rfl (by have := HNL.out n; omega)
  have hB5 : Below w.heap.size w W5 := hBw1.trans (hbut5.below hBw1.size (fun k hk => (HNB.out k hk).1))
  have k65 : W5.cell? ⟨sb, 6, none⟩ = some (.slice fq M fc) := hbut5.keep (fun e => by have := (HNB.out sb e).2; omega) (below_keep hb1 k6)
  have HT5 : Hid (W5.ownsRow w.heap.size 9 1 v5 (RM 0).length ((RM 0).map Value.string)) := by
    show World.ownsRow _ _ _ _ _ _ _
    rw [HM9.out]
    exact ho5
  clear hit hw1 hb1 ho5 hbut5 HO1 HOA k0 k6 HM9 HNB hBA hBw1
  go_wp2_with (at_builtin; refine wpList_append_run (by rfl) _ _ _ (by rfl) _ _ _ (by rfl) (by rfl) hr5 ?_)
  go_loopw [3, 7, 24] (fun o _ k wx => ∃ m : Nat, m ≤ M ∧ k = .int .i64 m ∧ wx.ownsRow w.heap.size 9 1 o (RM m).length ((RM m).map Value.string) ∧ Below w.heap.size w wx) (fun _ _ k _ => M - (intOf k).toNat)
  case atStart => exact ⟨0, by omega, rfl, HT5.out, hB5⟩
  case round =>
  obtain ⟨m, hm, rfl, ho2, hb2⟩ := hrel
  have HO2 : Hid (wr.ownsRow w.heap.size 9 1 u3 (RM m).length ((RM m).map Value.string)) := ho2
  clear ho2
  by_cases hlt2 : m < M
  case neg =>
    obtain rfl : m = M := by omega
    have hjj : ¬ (m : Int) < (m : Int) := by omega
    have HR : Hid (wr.ownsRow w.heap.size 9 1 u3 (nameN ss (n + 1)).length ((nameN ss (n + 1)).map Value.string)) := by
      show World.ownsRow _ _ _ _ _ _ _
      rw [HM2.out]
      exact HO2.out
    go_wp2
    go_roundw
    case rel => exact ⟨n + 1, by omega, by go_num, HR.out, hb2⟩
    case measure => simp [intOf]; omega
  case pos =>
  have hmx : m < fs.length := by rw [HMM.out]; exact hlt2
  obtain ⟨fb, fo, hfq, hfc⟩ := (HFS.out wr hb2).cells (fun e => by rw [e] at hmx; simp at hmx)
  subst hfq
  obtain ⟨f0, f1, f2, f3, f4, f5⟩ := hfc m hmx
  have HRM : Hid (RM (m + 1) = RM m ++ [fs[m].1]) := HMS.out m hmx
  have hj1 : (m : Int) < (M : Int) := by omega
  have hj0 : (0 : Int) ≤ (m : Int) := by omega
  generalize fs[m] = f at f0 f1 f2 f3 f4 f5 HRM
  obtain ⟨y0, y1, y2, y3, y4, y5⟩ := f
  dsimp only at *
  have hal : Below wr.heap.size wr (wr.alloc (.cells #[.string y0, .string y1, .int .i64 y2, .int .i64 y3, .int .i64 y4, .int .i64 y5] 50)) := (Below.refl _ _).alloc (Nat.le_refl _) _
  have hBA : Below w.heap.size w (wr.alloc (.cells #[.string y0, .string y1, .int .i64 y2, .int .i64 y3, .int .i64 y4, .int .i64 y5] 50)) := hb2.trans (hal.mono hb2.size)
  have HOA : Hid ((wr.alloc (.cells #[.string y0, .string y1, .int .i64 y2, .int .i64 y3, .int .i64 y4, .int .i64 y5] 50)).ownsRow w.heap.size 9 1 u3 (RM m).length ((RM m).map Value.string)) := own_but (P := fun _ => False) HO2.out (But.of_below hal) (fun _ _ h => h)
  obtain ⟨v7, W7, hr7, ho7, hbut7, -⟩ := str_run HOA.out hBA.size y0 rfl (by have := HM1.out m; omega)
  rw [show (wr.alloc (.cells #[.string y0, .string y1, .int .i64 y2, .int .i64 y3, .int .i64 y4, .int .i64 y5] 50)).heap.size = wr.heap.size + 1 from by simp] at hr7
  have hB7 : Below w.heap.size w W7 := hBA.trans (hbut7.below hBA.size (fun k hk => (own_blk HOA.out hk).1))
  have HR : Hid (W7.ownsRow w.heap.size 9 1 v7 (RM (m + 1)).length ((RM (m + 1)).map Value.string)) := by
    show World.ownsRow _ _ _ _ _ _ _
    rw [HRM.out]
    exact ho7
  clear hfc hmx HRM ho7 hbut7 HOA HO2 hal
  go_wp2_with (at_builtin; refine wpList_append_run (by rfl) _ _ _ (by rfl) _ _ _ (by rfl) (by rfl) hr7 ?_)
  go_roundw
  case rel => exact ⟨m + 1, by omega, by go_num, HR.out, hB7⟩
  case measure => simp [intOf]; omega
end Go.Proofs.YtbdhdlloihkibaaGreatDoor
namespace Go.Proofs.YtbdhdlloihkibaaGreatDoor
open Go.RowKit Go.Extern.Stop Go.Stop Go.Extern Go.Sort Go.Shelf Go.Lib

theorem cnan_any (x : ByteArray) (w : World) : Calls Tryz.prog 97 #[.string x] w fun e w' => e = .returned (.bool false) ∧ w' = w := by
  have d1 : (x.toList == x.toList) = true := by simp
  go_enter Tryz.func97, Tryz.ntmps97
  go_wp2
  go_ret
  exact ⟨rfl, rfl⟩
theorem snan_any (x : ByteArray) (w : World) : Calls Tryz.prog 77 #[.string x] w fun e w' => e = .returned (.bool false) ∧ w' = w := by
  have d1 : (x.toList == x.toList) = true := by simp
  go_enter Tryz.func77, Tryz.ntmps77
  go_wp2
  go_ret
  exact ⟨rfl, rfl⟩
theorem cless_any (x y : ByteArray) (w : World) : Calls Tryz.prog 76 #[.string x, .string y] w fun e w' => e = .returned (.bool (ltS x y)) ∧ w' = w := by
  have h1 := cnan_any x w
  go_enter Tryz.func76, Tryz.ntmps76
  go_wp2_with fail
  refine h1.mono ?_
  rintro e w1 ⟨rfl, rfl⟩
  clear h1
  go_wp2
  go_ret
  exact ⟨rfl, rfl⟩

def SortS (ts : List ByteArray) : Prop := ts.Pairwise fun a b => ltS b a = false
theorem ltS_le {a b c : ByteArray} (h1 : ltS b a = false) (h2 : ltS b c = true) : ltS a c = true := by
  by_cases e : a = b
  · subst e; exact h2
  · exact ltS_trans (ltS_else h1 (fun e' => e e'.symm)) h2

set_option maxRecDepth 100000 in
set_option maxHeartbeats 4000000 in
theorem search_any (v : Value) (ts : List ByteArray) (s : ByteArray) (w : World) (hx : TxsAt w v ts) (hl : ts.length ≤ 20000) (hr : SortS ts) :
    Calls Tryz.prog 55 #[v, .string s] w fun e w' => ∃ n, e = .returned (.tuple #[.int .i64 n, .bool (inT ts s)]) ∧ w' = w := by
  obtain ⟨q, cap, rfl⟩ := hx.form
  have HFX : Hid (TxsAt w (.slice q ts.length cap) ts) := hx
  have hlo : ∀ i j (hi : i < ts.length) (hj : j < ts.length), i ≤ j → ltS ts[j] s = true → ltS ts[i] s = true := fun i j hi hj hij h => by
    rcases Nat.lt_or_eq_of_le hij with e | e
    · exact ltS_le (List.pairwise_iff_getElem.1 hr i j hi hj e) h
    · subst e; exact h
  have HLT : Hid (∀ i j (hi : i < ts.length) (hj : j < ts.length), i ≤ j → ltS ts[j] s = true → ltS ts[i] s = true) := hlo
  have HSO : Hid (∀ i j (hi : i < ts.length) (hj : j < ts.length), i < j → ltS ts[j] ts[i] = false) := fun i j hi hj hij => List.pairwise_iff_getElem.1 hr i j hi hj hij
  obtain ⟨L, hL⟩ : ∃ L, ts.length = L := ⟨_, rfl⟩
  have HX : Hid (ts.length = L) := hL
  obtain ⟨R, hR⟩ : ∃ R, inT ts s = R := ⟨_, rfl⟩
  have HR : Hid (inT ts s = R) := hR
  rw [hL] at hl ⊢
  rw [hR]
  clear hL hR hx hr hlo
  go_enter Tryz.func55, Tryz.ntmps55
  go_wp2
  go_loopw [7, 8, 9] (fun s7 s8 _ wr => ∃ lo hi : Nat, s7 = .int .i64 lo ∧ s8 = .int .i64 hi ∧ lo ≤ hi ∧ hi ≤ L ∧ (∀ j (h : j < ts.length), j < lo → ltS ts[j] s = true) ∧ (∀ j (h : j < ts.length), hi ≤ j → ltS ts[j] s = false) ∧ wr = w) (fun s7 s8 _ _ => (intOf s8).toNat - (intOf s7).toNat)
  case atStart => exact ⟨0, L, rfl, rfl, Nat.zero_le _, Nat.le_refl _, fun j h h' => absurd h' (Nat.not_lt_zero _), fun j h h' => by rw [HX.out] at h; omega, rfl⟩
  case round =>
    obtain ⟨lo, hi, rfl, rfl, hlh, hhL, hlow, hhigh, hwr⟩ := hrel
    subst hwr
    have HLO : Hid (∀ j (h : j < ts.length), j < lo → ltS ts[j] s = true) := hlow
    have HHI : Hid (∀ j (h : j < ts.length), hi ≤ j → ltS ts[j] s = false) := hhigh
    clear hlow hhigh
    by_cases hlt : lo < hi
    · obtain ⟨m, hm⟩ : ∃ m, (lo + hi) / 2 = m := ⟨_, rfl⟩
      have hm1 : lo ≤ m ∧ m < hi := by omega
      have hmi : ((lo : Int) + (hi : Int)) / 2 = (m : Int) := by omega
      have hmx : m < ts.length := by rw [HX.out]; omega
      obtain ⟨b, o, hq, hc⟩ := HFX.out.at (fun e => by rw [e] at hmx; simp at hmx)
      subst hq
      have c0 := hc m hmx
      have hcl := cless_any ts[m] s wr
      have HUP : Hid (ltS ts[m] s = true → ∀ j (h : j < ts.length), j < m + 1 → ltS ts[j] s = true) := fun e j hj hjm => HLT.out j m hj hmx (by omega) e
      have HDN : Hid (ltS ts[m] s = false → ∀ j (h : j < ts.length), m ≤ j → ltS ts[j] s = false) := fun e j hj hjm => by
        cases hcs : ltS ts[j] s
        · rfl
        · rw [HLT.out m j hmx hj hjm hcs] at e; cases e
      generalize ts[m] = x at c0 hcl HUP HDN
      have i0 : (m : Int) < (L : Int) := by omega
      have i1 : (0 : Int) ≤ (m : Int) := by omega
      have i2 : (lo : Int) < (hi : Int) := by omega
      clear hc hmx
      cases hz : ltS x s
      case true =>
        have HU : Hid (∀ j (h : j < ts.length), j < m + 1 → ltS ts[j] s = true) := HUP.out hz
        rw [hz] at hcl
        clear HUP HDN hz
        go_wp2_with fail
        refine hcl.mono ?_
        rintro e w2 ⟨rfl, hw2⟩
        rw [hw2]
        clear hw2 hcl
        go_wp2
        go_roundw
        case rel => exact ⟨m + 1, hi, by first | go_num | (rw [hmi]; go_num), rfl, by omega, hhL, HU.out, HHI.out, by trivial⟩
        case measure => simp [intOf]; omega
      case false =>
        have HD : Hid (∀ j (h : j < ts.length), m ≤ j → ltS ts[j] s = false) := HDN.out hz
        rw [hz] at hcl
        clear HUP HDN hz
        go_wp2_with fail
        refine hcl.mono ?_
        rintro e w2 ⟨rfl, hw2⟩
        rw [hw2]
        clear hw2 hcl
        go_wp2
        go_roundw
        case rel => exact ⟨lo, m, rfl, by first | go_num | rw [hmi], by omega, by omega, HLO.out, HD.out, by trivial⟩
        case measure => simp [intOf]; omega
    · obtain rfl : hi = lo := by omega
      have i2 : ¬ (hi : Int) < (hi : Int) := by omega
      by_cases hn : hi < L
      · have hmx : hi < ts.length := by rw [HX.out]; exact hn
        obtain ⟨b, o, hq, hc⟩ := HFX.out.at (fun e => by rw [e] at hmx; simp at hmx)
        subst hq
        have c0 := hc hi hmx
        have i0 : (hi : Int) < (L : Int) := by omega
        have i1 : (0 : Int) ≤ (hi : Int) := by omega
        have hsn := snan_any ts[hi] wr
        by_cases he : ts[hi] = s
        · have hRR : R = true := by rw [← HR.out]; exact inT_iff.2 (he ▸ List.getElem_mem hmx)
          subst hRR
          rw [he] at c0
          have d1 : (s.toList == s.toList) = true := by simp
          clear he hmx hc hsn
          go_wp2
          go_ret2
          first | exact ⟨(hi : Int), rfl, rfl⟩ | exact ⟨⟨(hi : Int), rfl⟩, by trivial⟩
        · have hRR : R = false := by
            rw [← HR.out]
            refine inT_no.2 fun hm => ?_
            obtain ⟨j, hj, e⟩ := List.mem_iff_getElem.1 hm
            rcases Nat.lt_or_ge j hi with h1 | h1
            · exact ltS_ne (HLO.out j hj h1) e
            · have h2 := HHI.out j hj h1
              by_cases hjh : j = hi
              · subst hjh; exact he e
              · have h3 : ltS ts[hi] s = true := ltS_else (by rw [← e]; exact HSO.out hi j hmx hj (by omega)) (fun e' => he e'.symm)
                rw [HHI.out hi hmx (Nat.le_refl _)] at h3
                cases h3
          subst hRR
          have d1 : (ts[hi].toList == s.toList) = false := neBB (fun e => he (part_ext e))
          generalize ts[hi] = x at c0 d1 hsn
          clear he hmx hc
          go_wp2_with fail
          refine hsn.mono ?_
          rintro e w2 ⟨rfl, hw2⟩
          rw [hw2]
          clear hw2 hsn
          go_wp2
          go_ret2
          first | exact ⟨(hi : Int), rfl, rfl⟩ | exact ⟨⟨(hi : Int), rfl⟩, by trivial⟩
      · obtain rfl : hi = L := by omega
        have hRR : R = false := by
          rw [← HR.out]
          refine inT_no.2 fun hm => ?_
          obtain ⟨j, hj, e⟩ := List.mem_iff_getElem.1 hm
          exact ltS_ne (HLO.out j hj (by rw [HX.out] at hj; exact hj)) e
        subst hRR
        go_wp2
        go_ret2
        first | exact ⟨(hi : Int), rfl, rfl⟩ | exact ⟨⟨(hi : Int), rfl⟩, by trivial⟩
end Go.Proofs.YtbdhdlloihkibaaGreatDoor
