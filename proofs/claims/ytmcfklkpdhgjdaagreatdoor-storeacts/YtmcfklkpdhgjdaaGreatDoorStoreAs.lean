/-
  AsStore of the statements' own: both stores have the same.
-/
import Derived.Test.YtmcfklkpdhgjdaaGreatDoorStoreDo3
import Derived.Deep.RegionHeld3
namespace Go.Proofs.YtmcfklkpdhgjdaaGreatDoor
open Go.RowKit Go.Extern.Stop Go.Stop Go.Extern Go.Sort Go.Shelf Go.Lib

theorem name_short {n : ByteArray} (h : objB n.data.toList = true) : n.size ≤ 1000 := by
  unfold objB at h
  simp only [Bool.and_eq_true, decide_eq_true_eq] at h
  have : n.data.toList.length = n.size := by show _ = n.data.size; simp
  omega

set_option maxRecDepth 100000 in
set_option maxHeartbeats 4000000 in
theorem asStore_any {a : Nat → Addr} {B : Nat} {EM : World → Prop} {SAt : World → Value → (Nat → Prop) → St → Prop} (K : StoreK a B EM SAt) (w0 W : World) (v : Value) (FP : Nat → Prop) (s : St) (b : Nat) (h : Both EM SAt B w0 W v FP s b s) (KS : Keeps s) :
    Calls Tryz.prog 10 #[v, .pointer (some ⟨b, 0, none⟩)] W fun e w' => e = .returned (.int .i64 1) ∧ Below W.heap.size W w' := by
  obtain ⟨p, rfl⟩ := K.ptr _ _ _ _ h.ok.at_
  have hl : s.obs.length ≤ 1000 := Nat.le_trans KS.many (by decide)
  have hB : ∀ W', Below W.heap.size W W' → Both EM SAt B w0 W' (.pointer (some p)) FP s b s := fun W' hb => h.quiet K hb
  have tr : ∀ W' w', Below W.heap.size W W' → Below W'.heap.size W' w' → Below W.heap.size W w' := fun W' w' h1 h2 => h1.trans (h2.mono h1.size)
  have HN1 : Hid (∀ W', Below W.heap.size W W' → Calls Tryz.prog 31 #[.pointer (some p)] W' fun e w' => ∃ v1, e = .returned v1 ∧ TxsAt w' v1 (s.obs.map fun o => o.1) ∧ Below W.heap.size W w') :=
    fun W' hb => (K.names W' _ FP s (hB W' hb).ok.env (hB W' hb).ok.at_ KS).mono fun e w' ⟨v1, he, ht, hq⟩ => ⟨v1, he, ht, tr _ _ hb hq⟩
  have HN2 : Hid (∀ W' v1, Below W.heap.size W W' → TxsAt W' v1 (s.obs.map fun o => o.1) → Calls Tryz.prog 32 #[.pointer (some ⟨b, 0, none⟩)] W' fun e w' => ∃ v2, e = .returned v2 ∧ TxsAt w' v1 (s.obs.map fun o => o.1) ∧ TxsAt w' v2 (s.obs.map fun o => o.1) ∧ Below W.heap.size W w') :=
    fun W' v1 hb ht => (mnames_any b s W' (hB W' hb).mat hl).mono fun e w' ⟨v2, he, ht2, hq⟩ => ⟨v2, he, ht.below hq, ht2, tr _ _ hb hq⟩
  have HN3 : Hid (∀ W' v1 v2, Below W.heap.size W W' → TxsAt W' v1 (s.obs.map fun o => o.1) → TxsAt W' v2 (s.obs.map fun o => o.1) → Calls Tryz.prog 30 #[v1, v2] W' fun e w' => e = .returned (.bool true) ∧ Below W.heap.size W w') :=
    fun W' v1 v2 hb h1 h2 => (sameTexts_yes v1 v2 _ W' h1 h2 (by rw [List.length_map]; exact hl)).mono fun e w' ⟨he, hq⟩ => ⟨he, tr _ _ hb hq⟩
  have HH : Hid (∀ W', Below W.heap.size W W' → Calls Tryz.prog 17 #[.pointer (some p)] W' fun e w' => e = .returned (.string s.head) ∧ Below W.heap.size W w') :=
    fun W' hb => (K.head W' _ FP s (hB W' hb).ok.env (hB W' hb).ok.at_ KS).mono fun e w' ⟨he, hq⟩ => ⟨he, tr _ _ hb hq⟩
  have HDy : Hid (∀ W', Below W.heap.size W W' → Calls Tryz.prog 33 #[.pointer (some p)] W' fun e w' => e = .returned (.int .i64 s.day) ∧ Below W.heap.size W w') :=
    fun W' hb => (K.day W' _ FP s (hB W' hb).ok.env (hB W' hb).ok.at_ KS).mono fun e w' ⟨he, hq⟩ => ⟨he, tr _ _ hb hq⟩
  have HPw : Hid (∀ W', Below W.heap.size W W' → Calls Tryz.prog 34 #[.pointer (some p)] W' fun e w' => e = .returned (.bool (!s.off)) ∧ Below W.heap.size W w') :=
    fun W' hb => (K.power W' _ FP s (hB W' hb).ok.env (hB W' hb).ok.at_ KS).mono fun e w' ⟨he, hq⟩ => ⟨he, tr _ _ hb hq⟩
  have HGt : Hid (∀ W' n, n.size ≤ 1000 → Below W.heap.size W W' → Calls Tryz.prog 14 #[.pointer (some p), .string n] W' fun e w' => e = .returned (.tuple #[.string (getT s.obs n).1, errV a (getT s.obs n).2]) ∧ Below W.heap.size W w') :=
    fun W' n hn hb => (K.get W' _ FP s n (hB W' hb).ok.env (hB W' hb).ok.at_ KS hn).mono fun e w' ⟨he, hq⟩ => ⟨he, tr _ _ hb hq⟩
  have HBn : Hid (∀ W' n, n.size ≤ 1000 → Below W.heap.size W W' → Calls Tryz.prog 11 #[.pointer (some p), .string n] W' fun e w' => e = .returned (.int .i64 (bornO s.obs n)) ∧ Below W.heap.size W w') :=
    fun W' n hn hb => (K.born W' _ FP s n (hB W' hb).ok.env (hB W' hb).ok.at_ KS hn).mono fun e w' ⟨he, hq⟩ => ⟨he, tr _ _ hb hq⟩
  obtain ⟨vL, hc0, hm, ho⟩ := h.mat.cell
  obtain ⟨-, c1, c2, c3, -, -⟩ := hm.cells
  have HS : Hid (∀ W', Below W.heap.size W W' → W'.cell? ⟨b, 1, none⟩ = some (.string s.head) ∧ W'.cell? ⟨b, 2, none⟩ = some (.int .i64 s.day) ∧ W'.cell? ⟨b, 3, none⟩ = some (.bool s.off) ∧ Below W.heap.size W W') :=
    fun W' hb => ⟨below_keep hb c1, below_keep hb c2, below_keep hb c3, hb⟩
  have HKS : Hid (Keeps s) := KS
  have HO : Hid (ObsAt W vL s.obs) := ho
  have HC0 : Hid (W.cell? ⟨b, 0, none⟩ = some vL) := hc0
  have b0 : Below W.heap.size W W := Below.refl _ _
  clear hB tr hc0 hm ho h K KS
  generalize s.obs.map (fun o => o.1) = ts at HN1 HN2 HN3
  generalize s.head = hd at *
  generalize s.day = dy at *
  generalize s.off = f at *
  go_enter Tryz.func10, Tryz.ntmps10
  go_wp2_with fail
  go_region_held3 (fun w' => w'.cell? ⟨b, 1, none⟩ = some (.string hd) ∧ w'.cell? ⟨b, 2, none⟩ = some (.int .i64 dy) ∧ w'.cell? ⟨b, 3, none⟩ = some (.bool f) ∧ Below W.heap.size W w')
    (first
      | (with_reducible exact HS.out _ hX)
      | (exact HS.out _ (by go_split_ands; assumption))
      | (exact HS.out _ (Below.drew (by go_split_ands; assumption))))
    (first
      | (go_at_call 31; with_reducible refine (HN1.out _ (by go_split_ands; assumption)).mono ?_; rintro e wX ⟨v1, rfl, ht1, hX⟩)
      | (go_at_call 32; with_reducible refine (HN2.out _ v1 (by go_split_ands; assumption) (by first | exact ht1 | exact ht1.below (Below.drew (Below.refl _ _)))).mono ?_; rintro e wX ⟨v2, rfl, ht1, ht2, hX⟩)
      | (go_at_call 30; with_reducible refine (HN3.out _ v1 v2 (by go_split_ands; assumption) (by first | exact ht1 | exact ht1.below (Below.drew (Below.refl _ _))) (by first | exact ht2 | exact ht2.below (Below.drew (Below.refl _ _)))).mono ?_; rintro e wX ⟨rfl, hX⟩)
      | (go_at_call 17; with_reducible refine (HH.out _ (by go_split_ands; assumption)).mono ?_; rintro e wX ⟨rfl, hX⟩)
      | (go_at_call 33; with_reducible refine (HDy.out _ (by go_split_ands; assumption)).mono ?_; rintro e wX ⟨rfl, hX⟩)
      | (go_at_call 34; with_reducible refine (HPw.out _ (by go_split_ands; assumption)).mono ?_; rintro e wX ⟨rfl, hX⟩))
  have hB1 : Below W.heap.size W wX := hX
  clear hX ht1 ht2 b0 HN1 HN2 HN3 HH HDy HPw
  obtain ⟨q, cap, rfl⟩ := HO.out.form
  obtain ⟨L, hL⟩ : ∃ L, s.obs.length = L := ⟨_, rfl⟩
  have HL : Hid (s.obs.length = L) := hL
  have hl2 : L ≤ 1000 := by rw [← hL]; exact hl
  have HC1 : Hid (∀ W', Below W.heap.size W W' → W'.cell? ⟨b, 0, none⟩ = some (.slice q L cap)) := fun W' hb => by
    have h := below_keep hb HC0.out
    rw [hL] at h
    exact h
  have hz0 := HC1.out _ hB1
  clear hL hl
  go_wp2
  go_loopw [5, 6, 7] (fun k _ _ wr => ∃ m : Nat, m ≤ L ∧ k = .int .i64 m ∧ Below W.heap.size W wr) (fun k _ _ _ => L - (intOf k).toNat)
  case atStart => exact ⟨0, by omega, rfl, hB1⟩
  case round =>
    clear hB1 hz0
    obtain ⟨m, hm, rfl, hb⟩ := hrel
    have z0 := HC1.out wr hb
    by_cases hlt : m < L
    · have hltx : m < s.obs.length := by rw [HL.out]; exact hlt
      obtain ⟨g, o, hq, hc⟩ := HO.out.cells (fun e => by rw [e] at hltx; simp at hltx)
      subst hq
      obtain ⟨o1, o2, o3⟩ := hc m hltx
      have hmem : s.obs[m] ∈ s.obs := List.getElem_mem hltx
      have hgo : getO s.obs s.obs[m].1 = some s.obs[m] := getO_mem HKS.out.rise hmem
      have hsz : s.obs[m].1.size ≤ 1000 := name_short (HKS.out.names _ hmem)
      have hg1 : getT s.obs s.obs[m].1 = (s.obs[m].2.1, 0) := by unfold getT; rw [hgo]
      have hb1 : bornO s.obs s.obs[m].1 = s.obs[m].2.2 := by unfold bornO; rw [hgo]
      have HG2 : Hid (∀ W', Below W.heap.size W W' → Calls Tryz.prog 14 #[.pointer (some p), .string s.obs[m].1] W' fun e w' => e = .returned (.tuple #[.string s.obs[m].2.1, .nilIface]) ∧ Below W.heap.size W w') := fun W' hb => by
        have h := HGt.out W' _ hsz hb
        rw [hg1] at h
        exact h
      have HB2 : Hid (∀ W', Below W.heap.size W W' → Calls Tryz.prog 11 #[.pointer (some p), .string s.obs[m].1] W' fun e w' => e = .returned (.int .i64 s.obs[m].2.2) ∧ Below W.heap.size W w') := fun W' hb => by
        have h := HBn.out W' _ hsz hb
        rw [hb1] at h
        exact h
      have HS2 : Hid (∀ W', Below W.heap.size W W' → W'.cell? ⟨b, 0, none⟩ = some (.slice (some ⟨g, o, none⟩) L cap) ∧ W'.cell? ⟨g, o + m * 3, none⟩ = some (.string s.obs[m].1) ∧ W'.cell? ⟨g, o + m * 3 + 1, none⟩ = some (.string s.obs[m].2.1) ∧ W'.cell? ⟨g, o + m * 3 + 2, none⟩ = some (.int .i64 s.obs[m].2.2) ∧ Below W.heap.size W W') :=
        fun W' hb => ⟨HC1.out W' hb, below_keep hb o1, below_keep hb o2, below_keep hb o3, hb⟩
      obtain ⟨-, y1, y2, y3, -⟩ := HS2.out wr hb
      have hi : (m : Int) < (L : Int) := by omega
      have hi0 : (0 : Int) ≤ (m : Int) := by omega
      clear hmem hgo hsz hg1 hb1 o1 o2 o3 hc
      generalize s.obs[m].1 = nm at *
      generalize s.obs[m].2.1 = tx at *
      generalize s.obs[m].2.2 = dz at *
      clear hltx
      go_wp2_with fail
      refine (HG2.out wr hb).mono ?_
      rintro e w5 ⟨rfl, hX⟩
      obtain ⟨z5, y1', y2', y3', -⟩ := HS2.out w5 hX
      clear z0 y1 y2 y3 hb
      go_wp2_with fail
      go_region_held3 (fun w' => w'.cell? ⟨b, 0, none⟩ = some (.slice (some ⟨g, o, none⟩) L cap) ∧ w'.cell? ⟨g, o + m * 3, none⟩ = some (.string nm) ∧ w'.cell? ⟨g, o + m * 3 + 1, none⟩ = some (.string tx) ∧ w'.cell? ⟨g, o + m * 3 + 2, none⟩ = some (.int .i64 dz) ∧ Below W.heap.size W w')
        (first
          | (with_reducible exact HS2.out _ hX)
          | (exact HS2.out _ (by go_split_ands; assumption))
          | (exact HS2.out _ (Below.drew (by go_split_ands; assumption))))
        (first
          | (go_at_call 11; with_reducible refine (HB2.out _ (by go_split_ands; assumption)).mono ?_; rintro e wX ⟨rfl, hX⟩))
      go_wp2
      go_round
      case rel => exact ⟨m + 1, by omega, by go_num, hX⟩
      case measure => simp [intOf]; omega
    · obtain rfl : m = L := by omega
      go_wp2
      go_ret
      exact ⟨rfl, hb⟩
end Go.Proofs.YtmcfklkpdhgjdaaGreatDoor
