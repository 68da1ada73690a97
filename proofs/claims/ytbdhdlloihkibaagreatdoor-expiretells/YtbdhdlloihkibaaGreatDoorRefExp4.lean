/-
  The contract of the document's own ReachOf.
-/
import Derived.Test.YtbdhdlloihkibaaGreatDoorStoreDo
import Derived.Lib.ItoaLen
namespace Go.Proofs.YtbdhdlloihkibaaGreatDoor
open Go.RowKit Go.Extern.Stop Go.Stop Go.Extern Go.Sort Go.Shelf Go.Lib

theorem copy_step {SAt : World → Value → (Nat → Prop) → St → Prop} {N : Nat} {W1 Wi w' : World} {v : Value} {FP : Nat → Prop} {s' : St} (hfr : Below N W1 Wi) (hN : N ≤ W1.heap.size) (hnew : ∀ k, FP k → N ≤ k) (hp : SPost SAt Wi v FP s' w') : ∃ FP', SAt w' v FP' s' ∧ (∀ k, FP' k → N ≤ k) ∧ Below N W1 w' := by
  obtain ⟨FP', h1, h2, h3⟩ := hp
  have hs := Nat.le_trans hN hfr.size
  refine ⟨FP', h1, fun k hk => ?_, hfr.trans (h2.below hs hnew)⟩
  rcases h3 k hk with h | h
  · exact hnew k h
  · omega
theorem nm_lit {k : ByteArray} {l : List UInt8} (h : k ≠ ⟨l.toArray⟩) : (k.toList == l) = false := by
  rw [beq_eq_false_iff_ne]
  intro e
  apply h
  apply name_ext
  rw [ByteArray.toList_eq] at e
  rw [e]
theorem sameS_self (s : St) : sameS s s = true := by unfold sameS; simp

set_option maxRecDepth 100000 in
set_option maxHeartbeats 4000000 in
theorem do_copy {a : Nat → Addr} {B : Nat} {EM : World → Prop} {SAt : World → Value → (Nat → Prop) → St → Prop} (K : StoreK a B EM SAt) (w0 W : World) (v : Value) (FP : Nat → Prop) (s : St) (b : Nat) (k n t : ByteArray) (z : Int) (h : Both EM SAt B w0 W v FP s b s) (KS : Keeps s)
    (h0 : k ≠ ⟨#[112, 117, 116]⟩) (h1 : k ≠ ⟨#[103, 101, 116]⟩) (h2 : k ≠ ⟨#[100, 114, 111, 112]⟩) (h3 : k ≠ ⟨#[115, 119, 97, 112]⟩) (h4 : k ≠ ⟨#[99, 117, 116]⟩) (h5 : k ≠ ⟨#[111, 110]⟩) (h6 : k ≠ ⟨#[110, 101, 120, 116]⟩) :
    Calls Tryz.prog 17 #[v, .pointer (some ⟨b, 0, none⟩), acV (k, n, t, z)] W fun e w' => e = .returned (.int .i64 1) ∧ ∃ FP', Both EM SAt B w0 w' v FP' s b s := by
  have HK : Hid (StoreK a B EM SAt) := K
  have HKS : Hid (Keeps s) := KS
  obtain ⟨p, rfl⟩ := K.ptr _ _ _ _ h.ok.at_
  have T0' := trip_new K h (k, n, t, z)
  obtain ⟨d0, d1, d2, d3⟩ := T0'.cells
  unfold acV
  dsimp only at d0 d1 d2 d3 ⊢
  have n0 : (k.toList == [112, 117, 116]) = false := nm_lit (l := [112, 117, 116]) h0
  have n1 : (k.toList == [103, 101, 116]) = false := nm_lit (l := [103, 101, 116]) h1
  have n2 : (k.toList == [100, 114, 111, 112]) = false := nm_lit (l := [100, 114, 111, 112]) h2
  have n3 : (k.toList == [115, 119, 97, 112]) = false := nm_lit (l := [115, 119, 97, 112]) h3
  have n4 : (k.toList == [99, 117, 116]) = false := nm_lit (l := [99, 117, 116]) h4
  have n5 : (k.toList == [111, 110]) = false := nm_lit (l := [111, 110]) h5
  have n6 : (k.toList == [110, 101, 120, 116]) = false := nm_lit (l := [110, 101, 120, 116]) h6
  have T0 : Hid (Trip EM SAt B w0 (W.alloc (.cells #[.string k, .string n, .string t, .int .i64 z] 43)) (.pointer (some p)) s b s W.heap.size (k, n, t, z)) := T0'
  clear T0' h K KS h0 h1 h2 h3 h4 h5 h6
  go_enter Tryz.func17, Tryz.ntmps17
  go_wp2_with fail
  generalize W.alloc (.cells #[.string k, .string n, .string t, .int .i64 z] 43) = W1 at *
  obtain ⟨FP1, hS1⟩ := T0.out.at_
  refine (HK.out.copy W1 _ FP1 s T0.out.env hS1 HKS.out).mono ?_
  rintro e w2 ⟨v2, GP2, rfl, hG2, hn2, hb2⟩
  obtain ⟨p2, rfl⟩ := HK.out.ptr _ _ _ _ hG2
  have T2 : Hid (Trip EM SAt B w0 w2 (.pointer (some p)) s b s W.heap.size (k, n, t, z)) := T0.out.quiet HK.out hb2
  have G2 : Hid (SAt w2 (.pointer (some p2)) GP2 s) := hG2
  have N2 : Hid (∀ k, GP2 k → W1.heap.size ≤ k) := hn2
  have B2 : Hid (Below W1.heap.size W1 w2) := hb2
  clear hG2 hn2 hb2 hS1 d1 d2 d3
  go_wp2_with fail
  obtain ⟨FP2, hS2⟩ := T2.out.at_
  refine (HK.out.same w2 _ _ FP2 GP2 s s T2.out.env hS2 G2.out).mono ?_
  rintro e w3 ⟨rfl, hb3⟩
  rw [sameS_self]
  have G3 : Hid (SAt w3 (.pointer (some p2)) GP2 s) := HK.out.keep _ _ _ _ (fun _ => False) _ G2.out (But.of_below hb3) (fun _ _ h => h)
  have B3 : Hid (Below W1.heap.size W1 w3) := B2.out.trans (hb3.mono B2.out.size)
  have E3 : Hid (EM w3) := (T0.out.quiet HK.out B3.out).env
  clear hS2 hb3 T2 G2 B2
  go_wp2_with fail
  refine (HK.out.on w3 _ GP2 s E3.out G3.out HKS.out).mono ?_
  rintro e w4 ⟨rfl, hp4⟩
  obtain ⟨GP4, G4', N4', B4'⟩ := copy_step B3.out (Nat.le_refl _) N2.out hp4
  have G4 : Hid (SAt w4 (.pointer (some p2)) GP4 (onS s)) := G4'
  have N4 : Hid (∀ k, GP4 k → W1.heap.size ≤ k) := N4'
  have B4 : Hid (Below W1.heap.size W1 w4) := B4'
  have E4 : Hid (EM w4) := (T0.out.quiet HK.out B4.out).env
  clear hp4 G4' N4' B4' G3 B3 E3 N2
  go_wp2_with fail
  refine (HK.out.put w4 _ GP4 (onS s) ⟨#[116, 104, 101, 47, 99, 111, 112, 121]⟩ ⟨#[120]⟩ E4.out G4.out (onS_keeps HKS.out) (by decide) (by decide)).mono ?_
  rintro e w5 ⟨rfl, hp5⟩
  obtain ⟨GP5, -, -, B5'⟩ := copy_step B4.out (Nat.le_refl _) N4.out hp5
  have T5 : Hid (Trip EM SAt B w0 w5 (.pointer (some p)) s b s W.heap.size (k, n, t, z)) := T0.out.quiet HK.out B5'
  clear hp5 B5' G4 N4 B4 E4
  generalize errV a (putC (onS s) ⟨#[116, 104, 101, 47, 99, 111, 112, 121]⟩ ⟨#[120]⟩) = ep
  go_wp2_with fail
  obtain ⟨FP5, hS5⟩ := T5.out.at_
  refine (HK.out.get w5 _ FP5 s ⟨#[116, 104, 101, 47, 99, 111, 112, 121]⟩ T5.out.env hS5 HKS.out (by decide)).mono ?_
  rintro e w6 ⟨rfl, hb6⟩
  have T6 : Hid (Trip EM SAt B w0 w6 (.pointer (some p)) s b s W.heap.size (k, n, t, z)) := T5.out.quiet HK.out hb6
  have hf := mfind_any b s ⟨#[116, 104, 101, 47, 99, 111, 112, 121]⟩ w6 T6.out.mat (Nat.le_trans HKS.out.many (by decide))
  clear hS5 hb6 T5
  obtain ⟨FP', hX', -⟩ := T6.out
  rcases findI_get s.obs ⟨#[116, 104, 101, 47, 99, 111, 112, 121]⟩ with ⟨g1, g2⟩ | ⟨j, hj, g1, g2, -, -⟩
  · have e1 : getT s.obs ⟨#[116, 104, 101, 47, 99, 111, 112, 121]⟩ = (⟨#[]⟩, 6) := by unfold getT; rw [g2]
    rw [e1]
    rw [g1] at hf
    have e2 : errV a 6 = .iface 201 (.pointer (some (a 5))) := rfl
    dsimp only
    rw [e2]
    clear g1 g2 e1 e2
    go_wp2_with fail
    refine hf.mono ?_
    rintro e w7 ⟨rfl, rfl⟩
    go_wp2
    go_ret
    exact ⟨rfl, FP', hX'⟩
  · have e1 : getT s.obs ⟨#[116, 104, 101, 47, 99, 111, 112, 121]⟩ = (s.obs[j].2.1, 0) := by unfold getT; rw [g2]
    rw [e1]
    rw [g1] at hf
    have e2 : errV a 0 = .nilIface := rfl
    dsimp only
    rw [e2]
    have hj0 : (0 : Int) ≤ (j : Int) := by omega
    clear g1 g2 e1 e2
    go_wp2_with fail
    refine hf.mono ?_
    rintro e w7 ⟨rfl, rfl⟩
    go_wp2
    go_ret
    exact ⟨rfl, FP', hX'⟩
end Go.Proofs.YtbdhdlloihkibaaGreatDoor
namespace Go.Proofs.YtbdhdlloihkibaaGreatDoor
open Go.RowKit Go.Extern.Stop Go.Stop Go.Extern Go.Sort Go.Shelf Go.Lib

def actS (s : St) (x : Ac) : St := if x.1 = ⟨#[112, 117, 116]⟩ then putS s x.2.1 x.2.2.1 else if x.1 = ⟨#[103, 101, 116]⟩ then s else if x.1 = ⟨#[100, 114, 111, 112]⟩ then dropS s x.2.1 else if x.1 = ⟨#[115, 119, 97, 112]⟩ then swapS s x.2.1 x.2.2.1 else if x.1 = ⟨#[99, 117, 116]⟩ then cutS s x.2.2.2 else if x.1 = ⟨#[111, 110]⟩ then onS s else if x.1 = ⟨#[110, 101, 120, 116]⟩ then nextS s x.2.2.2 else s

theorem do_any {a : Nat → Addr} {B : Nat} {EM : World → Prop} {SAt : World → Value → (Nat → Prop) → St → Prop} (K : StoreK a B EM SAt) (w0 W : World) (v : Value) (FP : Nat → Prop) (s : St) (b : Nat) (x : Ac) (h : Both EM SAt B w0 W v FP s b s) (KS : Keeps s) (hcx : s.cut ≤ 9223372036854775807) (hn : x.2.1.size ≤ 1000) (ht : x.2.2.1.size ≤ 100000) (hz : -9223372036854775808 ≤ x.2.2.2 ∧ x.2.2.2 ≤ 9223372036854775807) :
    Calls Tryz.prog 17 #[v, .pointer (some ⟨b, 0, none⟩), acV x] W fun e w' => e = .returned (.int .i64 1) ∧ ∃ FP', Both EM SAt B w0 w' v FP' (actS s x) b (actS s x) := by
  obtain ⟨k, n, t, z⟩ := x
  dsimp only at hn ht hz
  by_cases h0 : k = ⟨#[112, 117, 116]⟩
  · have e : actS s (k, n, t, z) = putS s n t := by unfold actS; dsimp only; rw [if_pos h0]
    rw [e, h0]
    exact do_put K w0 W v FP s b n t z h KS hcx hn ht hz
  by_cases h1 : k = ⟨#[103, 101, 116]⟩
  · have e : actS s (k, n, t, z) = s := by unfold actS; dsimp only; rw [if_neg h0, if_pos h1]
    rw [e, h1]
    exact do_get K w0 W v FP s b n t z h KS hcx hn ht hz
  by_cases h2 : k = ⟨#[100, 114, 111, 112]⟩
  · have e : actS s (k, n, t, z) = dropS s n := by unfold actS; dsimp only; rw [if_neg h0, if_neg h1, if_pos h2]
    rw [e, h2]
    exact do_drop K w0 W v FP s b n t z h KS hcx hn ht hz
  by_cases h3 : k = ⟨#[115, 119, 97, 112]⟩
  · have e : actS s (k, n, t, z) = swapS s n t := by unfold actS; dsimp only; rw [if_neg h0, if_neg h1, if_neg h2, if_pos h3]
    rw [e, h3]
    exact do_swap K w0 W v FP s b n t z h KS hcx hn ht hz
  by_cases h4 : k = ⟨#[99, 117, 116]⟩
  · have e : actS s (k, n, t, z) = cutS s z := by unfold actS; dsimp only; rw [if_neg h0, if_neg h1, if_neg h2, if_neg h3, if_pos h4]
    rw [e, h4]
    exact do_cut K w0 W v FP s b n t z h KS hcx hn ht hz
  by_cases h5 : k = ⟨#[111, 110]⟩
  · have e : actS s (k, n, t, z) = onS s := by unfold actS; dsimp only; rw [if_neg h0, if_neg h1, if_neg h2, if_neg h3, if_neg h4, if_pos h5]
    rw [e, h5]
    exact do_on K w0 W v FP s b n t z h KS hcx hn ht hz
  by_cases h6 : k = ⟨#[110, 101, 120, 116]⟩
  · have e : actS s (k, n, t, z) = nextS s z := by unfold actS; dsimp only; rw [if_neg h0, if_neg h1, if_neg h2, if_neg h3, if_neg h4, if_neg h5, if_pos h6]
    rw [e, h6]
    exact do_next K w0 W v FP s b n t z h KS hcx hn ht hz
  have e : actS s (k, n, t, z) = s := by unfold actS; dsimp only; rw [if_neg h0, if_neg h1, if_neg h2, if_neg h3, if_neg h4, if_neg h5, if_neg h6]
  rw [e]
  exact do_copy K w0 W v FP s b k n t z h KS h0 h1 h2 h3 h4 h5 h6

theorem actS_keeps {s : St} (K : Keeps s) (x : Ac) : Keeps (actS s x) := by
  unfold actS
  repeat' split
  · exact putS_keeps K _ _
  · exact K
  · exact dropS_keeps K _
  · exact swapS_keeps K _ _
  · exact cutS_keeps K _
  · exact onS_keeps K
  · exact nextS_keeps K _
  · exact K

theorem wrtS_top {s : St} (h : s.cut ≤ 9223372036854775807) (n : Nat) : (wrtS s n).2.cut ≤ 9223372036854775807 := by
  unfold wrtS
  repeat' split
  · exact h
  · exact h
  · show s.cut - n ≤ _
    omega
theorem actS_top {s : St} (h : s.cut ≤ 9223372036854775807) (x : Ac) (hz : x.2.2.2 ≤ 9223372036854775807) : (actS s x).cut ≤ 9223372036854775807 := by
  unfold actS
  repeat' split
  · unfold putS; split
    · exact h
    · exact wrtS_top h _
  · exact h
  · unfold dropS; split <;> exact h
  · unfold swapS
    repeat' split
    · exact h
    · exact wrtS_top h _
    · exact wrtS_top h _
  · unfold cutS; split
    · exact h
    · exact hz
  · show (-1 : Int) ≤ _
    omega
  · unfold nextS; split <;> exact h
  · exact h
end Go.Proofs.YtbdhdlloihkibaaGreatDoor
namespace Go.Proofs.YtbdhdlloihkibaaGreatDoor
open Go.RowKit Go.Extern.Stop Go.Stop Go.Extern Go.Sort Go.Shelf Go.Lib

def Aged (s : St) : Prop := ∀ o ∈ s.obs, 0 ≤ o.2.2 ∧ o.2.2 ≤ 100000
theorem newS_aged : Aged newS := fun _ h => (nomatch h)
theorem born_aged {s : St} (h : Aged s) (n : ByteArray) : -1 ≤ bornO s.obs n ∧ bornO s.obs n ≤ 100000 := by
  unfold bornO
  cases hg : getO s.obs n with
  | none => simp
  | some o =>
    have := h o (getO_some hg).1
    simp only
    omega
theorem born_of {s : St} (K : Keeps s) {o : Ob} (ho : o ∈ s.obs) : bornO s.obs o.1 = o.2.2 := by
  unfold bornO
  rw [getO_mem K.rise ho]
theorem actS_aged {s : St} (K : Keeps s) (h : Aged s) (x : Ac) : Aged (actS s x) := by
  unfold actS
  repeat' split
  · unfold putS
    split
    · exact h
    · intro o ho
      have ho' : o ∈ insO s.obs (x.2.1, bytesOf (x.2.2.1.data.toList.take (wrtS s x.2.2.1.size).1), s.day) := ho
      rcases insO_mem.1 ho' with rfl | ho'
      · exact ⟨K.day0, K.day1⟩
      · exact h o ho'
  · exact h
  · unfold dropS
    split
    · exact h
    · intro o ho
      exact h o (List.mem_filter.1 ho).1
  · unfold swapS
    repeat' split
    · exact h
    · intro o ho
      rw [(wrtS_obs s _).1] at ho
      exact h o ho
    · intro o ho
      have ho' : o ∈ (wrtS s x.2.2.1.size).2.obs := ho
      rw [(wrtS_obs s _).1] at ho'
      exact h o ho'
  · unfold cutS
    split
    · exact h
    · exact h
  · exact h
  · unfold nextS
    split
    · exact h
    · exact h
  · exact h
def stayB (s : St) (us : List ByteArray) (age : Int) (x : ByteArray) : Bool := inT us x || decide (s.day - bornO s.obs x < age)
theorem orph_names {s : St} (K : Keeps s) {us needed : List ByteArray} (hm : ∀ x, x ∈ us ↔ x ∈ needed) (age : Int) : ((s.obs.map fun o => o.1).filter fun x => !stayB s us age x) = orphL s needed age := by
  unfold orphL
  rw [List.filter_map]
  congr 1
  apply List.filter_congr
  intro o ho
  simp only [Function.comp, stayB]
  rw [born_of K ho]
  have e1 : inT us o.1 = inT needed o.1 := by
    rw [Bool.eq_iff_iff, inT_iff, inT_iff, hm]
  have e2 : decide (s.day - o.2.2 < age) = !decide (age ≤ s.day - o.2.2) := by
    rw [Bool.eq_iff_iff]
    simp
  rw [e1, e2]
  cases inT needed o.1 <;> cases decide (age ≤ s.day - o.2.2) <;> rfl
end Go.Proofs.YtbdhdlloihkibaaGreatDoor
namespace Go.Proofs.YtbdhdlloihkibaaGreatDoor
open Go.RowKit Go.Extern.Stop Go.Stop Go.Extern Go.Sort Go.Shelf Go.Lib

set_option maxRecDepth 100000 in
set_option maxHeartbeats 2000000 in
theorem inTx_any (s : ByteArray) (v : Value) (ts : List ByteArray) (w : World) (hx : TxsAt w v ts) (hl : ts.length ≤ 20000) :
    Calls Tryz.prog 21 #[.string s, v] w fun e w' => e = .returned (.bool (inT ts s)) ∧ w' = w := by
  obtain ⟨q, cap, rfl⟩ := hx.form
  have HC : Hid (TxsAt w (.slice q ts.length cap) ts) := hx
  obtain ⟨L, hL⟩ : ∃ L, ts.length = L := ⟨_, rfl⟩
  have HX : Hid (ts.length = L) := hL
  rw [hL] at hl ⊢
  generalize hR : inT ts s = R
  have HR : Hid ((ts.any fun t => decide (t = s)) = R) := hR
  clear hL hx hR
  go_enter Tryz.func21, Tryz.ntmps21
  go_wp2
  go_loop [5] (fun k => ∃ n : Nat, n ≤ L ∧ k = .int .i64 n ∧ ∀ j (h : j < ts.length), j < n → ts[j] ≠ s) (fun k => L - (intOf k).toNat)
  case atStart => exact ⟨0, by omega, rfl, fun j h h' => absurd h' (Nat.not_lt_zero _)⟩
  case round =>
    obtain ⟨n, hn, rfl, hno⟩ := hrel
    have HNO : Hid (∀ j (h : j < ts.length), j < n → ts[j] ≠ s) := hno
    clear hno
    by_cases hlt : n < L
    · have hltx : n < ts.length := by rw [HX.out]; exact hlt
      obtain ⟨b, o, hq, hc⟩ := HC.out.at (fun e => by rw [e] at hltx; simp at hltx)
      subst hq
      have c0 := hc n hltx
      have hi : (n : Int) < (L : Int) := by omega
      have hi0' : (0 : Int) ≤ (n : Int) := by omega
      by_cases he : ts[n] = s
      · have hRR : R = true := by rw [← HR.out]; exact List.any_eq_true.2 ⟨_, List.getElem_mem hltx, decide_eq_true he⟩
        subst hRR
        rw [he] at c0
        have d1 : (s.toList == s.toList) = true := by simp
        clear he hltx hc
        go_wp2
        go_ret
        exact ⟨rfl, rfl⟩
      · have HN1 : Hid (∀ j (h : j < ts.length), j < n + 1 → ts[j] ≠ s) := tx_succ HNO.out hltx he
        have d1 : (ts[n].toList == s.toList) = false := neBB (fun e => he (part_ext e))
        generalize ts[n] = t at c0 d1
        clear he hltx hc
        go_wp2
        go_round
        case rel => exact ⟨n + 1, by omega, by go_num, HN1.out⟩
        case measure => simp [intOf]; omega
    · obtain rfl : n = L := by omega
      have hRR : R = false := by
        rw [← HR.out]
        refine List.any_eq_false.2 fun t ht e => ?_
        obtain ⟨j, hj, e'⟩ := List.mem_iff_getElem.1 ht
        exact HNO.out j hj (by rw [← HX.out]; exact hj) (e'.trans (of_decide_eq_true e))
      subst hRR
      go_wp2
      go_ret
      exact ⟨rfl, rfl⟩
end Go.Proofs.YtbdhdlloihkibaaGreatDoor
namespace Go.Proofs.YtbdhdlloihkibaaGreatDoor
open Go.RowKit Go.Extern.Stop Go.Stop Go.Extern Go.Sort Go.Shelf Go.Lib

set_option maxRecDepth 100000 in
set_option maxHeartbeats 8000000 in
theorem orphansOf_any (b : Nat) (st : St) (vN : Value) (needed : List ByteArray) (age : Int) (w : World) (hm : MAt w b st) (hN : TxsAt w vN needed) (hl : st.obs.length ≤ 900) (hln : needed.length ≤ 20000)
    (hd : ∀ o ∈ st.obs, -9223372036854775808 ≤ st.day - o.2.2 ∧ st.day - o.2.2 ≤ 9223372036854775807) :
    Calls Tryz.prog 19 #[.pointer (some ⟨b, 0, none⟩), vN, .int .i64 age] w fun e w' => ∃ v', e = .returned v' ∧ TsAt w' v' (orphL st needed age) ∧ Below w.heap.size w w' := by
  obtain ⟨vL, hmc, hob⟩ := hm
  have HM : Hid (∀ W, Below w.heap.size w W → MC W b vL st) := fun W hb => hmc.below hb
  have HX : Hid (∀ W, Below w.heap.size w W → ObsAt W vL st.obs) := fun W hb => hob.below hb
  have HTN : Hid (∀ W, Below w.heap.size w W → TxsAt W vN needed) := fun W hb => hN.below hb
  obtain ⟨q, cap, rfl⟩ := hob.form
  have HD : Hid (∀ o ∈ st.obs, -9223372036854775808 ≤ st.day - o.2.2 ∧ st.day - o.2.2 ≤ 9223372036854775807) := hd
  have HO1 : Hid (∀ n (h : n < st.obs.length), orphN st needed age (n + 1) = orphN st needed age n ++ (if (!inT needed st.obs[n].1 && decide (age ≤ st.day - st.obs[n].2.2)) = true then [st.obs[n].1] else [])) := fun n h => orphN_succ h
  obtain ⟨L, hL⟩ : ∃ L, st.obs.length = L := ⟨_, rfl⟩
  have HL : Hid (st.obs.length = L) := hL
  have hL1 : L ≤ 900 := by omega
  have HN0 : Hid (orphN st needed age L = orphL st needed age) := by
    show _ = _
    rw [← hL, orphN_all]
  have HNL : Hid (∀ n, n ≤ L → (orphN st needed age n).length ≤ 900) := fun n hn => Nat.le_trans (orphN_len st needed age n) (by omega)
  generalize orphL st needed age = KL at HN0 ⊢
  rw [hL] at HX HM
  clear hl hL hmc hob hN hd
  go_enter Tryz.func19, Tryz.ntmps19
  go_wp2_with fail
  go_loopw [7, 8, 9] (fun o i _ wr => ∃ n : Nat, n ≤ L ∧ i = .int .i64 n ∧ wr.ownsRow w.heap.size 9 1 o (orphN st needed age n).length ((orphN st needed age n).map Value.string) ∧ Below w.heap.size w wr) (fun _ i _ _ => L - (intOf i).toNat)
  case atStart => exact ⟨0, by omega, rfl, World.ownsRow_nil _ _ _ _, Below.refl _ _⟩
  case round =>
  obtain ⟨n, hn, rfl, ho, hb⟩ := hrel
  have HO : Hid (wr.ownsRow w.heap.size 9 1 u7 (orphN st needed age n).length ((orphN st needed age n).map Value.string)) := ho
  clear ho
  obtain ⟨m0, -, m2, -⟩ := (HM.out wr hb).cells
  by_cases hlt : n < L
  case neg =>
    obtain rfl : n = L := by omega
    have HT : Hid (TsAt wr u7 KL) := by
      have h' := tsAt_own HO.out
      rw [HN0.out] at h'
      exact h'
    have hii : ¬ (n : Int) < (n : Int) := by omega
    clear HO
    go_wp2
    go_ret
    exact ⟨_, rfl, HT.out, hb⟩
  case pos =>
  have hltx : n < st.obs.length := by rw [HL.out]; exact hlt
  obtain ⟨g, o, hq, hc⟩ := (HX.out wr hb).cells (fun e => by rw [e] at hltx; simp at hltx)
  subst hq
  have hi1 : (n : Int) < (L : Int) := by omega
  have hi0 : (0 : Int) ≤ (n : Int) := by omega
  have HC : Hid (∀ W, Below wr.heap.size wr W → W.cell? ⟨g, o + n * 3, none⟩ = some (.string st.obs[n].1)) := fun W hW => below_keep hW (hc n hltx).1
  have HM2 : Hid (∀ W, Below wr.heap.size wr W → W.cell? ⟨b, 0, none⟩ = some (.slice (some ⟨g, o, none⟩) L cap)) := fun W hW => below_keep hW m0
  obtain ⟨c0, -, c2⟩ := hc n hltx
  have hdn := HD.out st.obs[n] (List.getElem_mem _)
  have HK := HO1.out n hltx
  generalize st.obs[n] = x at c0 c2 hdn HK HC
  obtain ⟨x0, x1, x2⟩ := x
  dsimp only at *
  generalize hDY : st.day = DY at *
  have hin := inTx_any x0 vN needed wr (HTN.out wr hb) hln
  obtain ⟨IN, hIN⟩ : ∃ y, inT needed x0 = y := ⟨_, rfl⟩
  rw [hIN] at hin HK
  have HK2 : Hid (orphN st needed age (n + 1) = orphN st needed age n ++ (if (!IN && decide (age ≤ DY - x2)) = true then [x0] else [])) := HK
  clear hc hltx HK hIN
  go_wp2_with fail
  refine hin.mono ?_
  rintro e w1 ⟨rfl, hw1⟩
  rw [hw1]
  clear hin hw1
  cases IN
  case true =>
    have HS : Hid (orphN st needed age (n + 1) = orphN st needed age n) := by show _ = _; rw [HK2.out]; simp
    clear HK2
    go_wp2
    go_quiet (fail)
    have hb9 : Below w.heap.size w (wr.drewN nq) := below_drewN hb nq
    have HO2 : Hid ((wr.drewN nq).ownsRow w.heap.size 9 1 u7 (orphN st needed age n).length ((orphN st needed age n).map Value.string)) := own_but (P := fun _ => False) HO.out (But.of_below (below_drewN (Below.refl _ _) nq)) (fun _ _ h => h)
    go_wp2
    go_roundw
    case rel => exact ⟨n + 1, by omega, by go_num, by rw [HS.out]; exact HO2.out, hb9⟩
    case measure => simp [intOf]; omega
  case false =>
  by_cases hag : age ≤ DY - x2
  case neg =>
    have HS : Hid (orphN st needed age (n + 1) = orphN st needed age n) := by show _ = _; rw [HK2.out, decide_eq_false hag]; simp
    clear HK2
    go_wp2
    go_quiet (fail)
    have hb9 : Below w.heap.size w (wr.drewN nq) := below_drewN hb nq
    have HO2 : Hid ((wr.drewN nq).ownsRow w.heap.size 9 1 u7 (orphN st needed age n).length ((orphN st needed age n).map Value.string)) := own_but (P := fun _ => False) HO.out (But.of_below (below_drewN (Below.refl _ _) nq)) (fun _ _ h => h)
    go_wp2
    go_roundw
    case rel => exact ⟨n + 1, by omega, by go_num, by rw [HS.out]; exact HO2.out, hb9⟩
    case measure => simp [intOf]; omega
  case pos =>
    have HS : Hid (orphN st needed age (n + 1) = orphN st needed age n ++ [x0]) := by show _ = _; rw [HK2.out, decide_eq_true hag]; simp
    clear HK2
    go_wp2
    go_quiet (fail)
    have hb9 : Below w.heap.size w (wr.drewN nq) := below_drewN hb nq
    have hbr : Below wr.heap.size wr (wr.drewN nq) := below_drewN (Below.refl _ _) nq
    have HO2 : Hid ((wr.drewN nq).ownsRow w.heap.size 9 1 u7 (orphN st needed age n).length ((orphN st needed age n).map Value.string)) := own_but (P := fun _ => False) HO.out (But.of_below hbr) (fun _ _ h => h)
    have c0' := HC.out _ hbr
    have m0' := HM2.out _ hbr
    generalize wr.drewN nq = W9 at *
    have hal5 : Below W9.heap.size W9 (W9.alloc (.cells #[.string x0] 9)) := (Below.refl _ _).alloc (Nat.le_refl _) _
    obtain ⟨v', W6, hr, ho6, hbut, -⟩ := str_run HO2.out hb9.size x0 rfl (by have := HNL.out n hn; omega)
    have hB6 : Below w.heap.size w W6 := hb9.trans (hbut.below hb9.size (fun k hk => (own_blk HO2.out hk).1))
    have HR : Hid (W6.ownsRow w.heap.size 9 1 v' (orphN st needed age (n + 1)).length ((orphN st needed age (n + 1)).map Value.string)) := by
      show World.ownsRow _ _ _ _ _ _ _
      rw [HS.out]
      exact ho6
    clear HS ho6 hbut hal5 HO HO2
    go_wp2_with (at_builtin; refine wpList_append_run (by rfl) _ _ _ (by rfl) _ _ _ (by rfl) (by rfl) hr ?_)
    go_roundw
    case rel => exact ⟨n + 1, by omega, by go_num, HR.out, hB6⟩
    case measure => simp [intOf]; omega
end Go.Proofs.YtbdhdlloihkibaaGreatDoor
namespace Go.Proofs.YtbdhdlloihkibaaGreatDoor
open Go.RowKit Go.Extern.Stop Go.Stop Go.Extern Go.Sort Go.Shelf Go.Lib

set_option maxRecDepth 100000 in
set_option maxHeartbeats 8000000 in
theorem reachOf_any (v : Value) (ss : List Sn) (w : World) (hx : SnsAt w v ss) (hl : (ss.flatMap needS).length ≤ 900) (hd : ∀ s ∈ ss, -9223372036854775808 ≤ s.1 ∧ s.1 ≤ 9223372036854775807) :
    Calls Tryz.prog 14 #[v] w fun e w' => ∃ v', e = .returned v' ∧ TsAt w' v' (reachL ss) ∧ Below w.heap.size w w' := by
  have HX : Hid (∀ W, Below w.heap.size w W → SnsAt W v ss) := fun W hb => hx.below hb
  have HD : Hid (∀ s ∈ ss, -9223372036854775808 ≤ s.1 ∧ s.1 ≤ 9223372036854775807) := hd
  obtain ⟨q, cap, rfl⟩ := hx.form
  have hlen : ss.length ≤ 900 := by
    have h1 : ss.length ≤ (ss.flatMap needS).length := by
      clear hl HD hd hx HX
      induction ss with
      | nil => simp
      | cons s r ih =>
        rw [List.flatMap_cons, List.length_append, List.length_cons]
        have : 1 ≤ (needS s).length := by unfold needS; rw [List.length_cons]; omega
        omega
    omega
  have HFL : Hid (∀ s ∈ ss, s.2.2.2.2.2.2.length ≤ 900) := fun s hs => by
    have h1 : (needS s).length ≤ (ss.flatMap needS).length := by
      obtain ⟨l1, l2, rfl⟩ := List.append_of_mem hs
      rw [List.flatMap_append, List.flatMap_cons, List.length_append, List.length_append]
      omega
    unfold needS at h1
    rw [List.length_cons, List.length_map] at h1
    show s.2.2.2.2.2.2.length ≤ 900
    have h2 : s.2.2.2.2.2.2.length + 1 ≤ (ss.flatMap needS).length := h1
    omega
  have HN0 : Hid (reachN ss ss.length = reachL ss) := reachN_all ss
  have HNL : Hid (∀ n, (reachN ss n).length ≤ 900) := fun n => Nat.le_trans (reachN_len ss n) hl
  have HML : Hid (∀ n (h : n < ss.length) m, (reachM ss n ss[n] m).length ≤ 900) := fun n h m => Nat.le_trans (reachM_len h m) hl
  have HN1 : Hid (∀ n (h : n < ss.length), reachN ss (n + 1) = reachM ss n ss[n] ss[n].2.2.2.2.2.2.length) := fun n h => reachN_succ h
  obtain ⟨L, hL⟩ : ∃ L, ss.length = L := ⟨_, rfl⟩
  have HL : Hid (ss.length = L) := hL
  rw [hL] at HN0 HX hlen ⊢
  generalize reachL ss = KL at HN0 ⊢
  clear hx hl hL hd
  go_enter Tryz.func14, Tryz.ntmps14
  go_wp2_with fail
  go_loopw [3, 4, 5] (fun o i _ wr => ∃ n : Nat, n ≤ L ∧ i = .int .i64 n ∧ TsAt wr o (reachN ss n) ∧ Below w.heap.size w wr) (fun _ i _ _ => L - (intOf i).toNat)
  case atStart => exact ⟨0, by omega, rfl, Or.inl ⟨rfl, rfl⟩, Below.refl _ _⟩
  case round =>
  obtain ⟨n, hn, rfl, ho, hb⟩ := hrel
  have HO : Hid (TsAt wr u3 (reachN ss n)) := ho
  clear ho
  by_cases hlt : n < L
  case neg =>
    obtain rfl : n = L := by omega
    have HT : Hid (TsAt wr u3 KL) := by
      have h' := HO.out
      rw [HN0.out] at h'
      exact h'
    have hii : ¬ (n : Int) < (n : Int) := by omega
    clear HO
    go_wp2
    go_ret
    exact ⟨_, rfl, HT.out, hb⟩
  case pos =>
  have hltx : n < ss.length := by rw [HL.out]; exact hlt
  obtain ⟨b, o, hq, hc⟩ := (HX.out wr hb).cells (fun e => by rw [e] at hltx; simp at hltx)
  subst hq
  have hi1 : (n : Int) < (L : Int) := by omega
  have hi0 : (0 : Int) ≤ (n : Int) := by omega
  obtain ⟨c0, -, vf, c6, hfs, -⟩ := hc n hltx
  have hdn := HD.out ss[n] (List.getElem_mem _)
  have hfl := HFL.out ss[n] (List.getElem_mem _)
  have HM1 : Hid (∀ m, (reachM ss n ss[n] m).length ≤ 900) := HML.out n hltx
  have HM2 : Hid (reachN ss (n + 1) = reachM ss n ss[n] ss[n].2.2.2.2.2.2.length) := HN1.out n hltx
  generalize ss[n] = g at c0 c6 hdn HM1 HM2 hfs hfl
  have HMS : Hid (∀ m (h : m < g.2.2.2.2.2.2.length), reachM ss n g (m + 1) = wthS g.2.2.2.2.2.2[m].1 (reachM ss n g m)) := fun m h => reachM_succ h
  have HM0 : Hid (reachM ss n g 0 = wthS (snpB g.1) (reachN ss n)) := rfl
  obtain ⟨g0, g1, g2, g3, g4, g5, fs⟩ := g
  dsimp only at *
  generalize reachM ss n (g0, g1, g2, g3, g4, g5, fs) = RM at *
  obtain ⟨fq, fc, rfl⟩ := hfs.form
  have HFS : Hid (∀ W, Below wr.heap.size wr W → FlsAt W (.slice fq fs.length fc) fs) := fun W hW => hfs.below hW
  have HC6 : Hid (∀ W, Below wr.heap.size wr W → W.cell? ⟨b, o + n * 7 + 6, none⟩ = some (.slice fq fs.length fc)) := fun W hW => below_keep hW c6
  obtain ⟨M, hM⟩ : ∃ M, fs.length = M := ⟨_, rfl⟩
  have HMM : Hid (fs.length = M) := hM
  rw [hM] at HM2 HFS HC6 hfl
  obtain ⟨W1, hW1⟩ : ∃ W, W = wr := ⟨_, rfl⟩
  subst hW1
  have hdec := decimal_any g0 W1 hdn.1 hdn.2
  have hsz : (bytesOf (itoa g0)).size ≤ 21 := by rw [bytesOf_size]; exact itoa_length_le g0 hdn.1 hdn.2
  have HM9 : Hid (RM 0 = wthS (⟨#[115, 110, 97, 112, 47]⟩ ++ bytesOf (itoa g0)) (reachN ss n)) := HM0.out
  generalize bytesOf (itoa g0) = TB at hdec hsz HM9
  clear hc hltx hfs c6 hM HM0
  go_wp2_with fail
  refine hdec.mono ?_
  rintro e w1 ⟨rfl, hw1⟩
  have hb1 : Below W1.heap.size W1 w1 := hw1.below
  clear hdec hw1
  have hwt := fun s => with_any u3 (reachN ss n) s w1 (HO.out.below hb1) (HNL.out n)
  go_wp2_with fail
  refine (hwt _).mono ?_
  rintro e w2 ⟨v2, rfl, ht2, hb2⟩
  have HT2 : Hid (TsAt w2 v2 (RM 0)) := by
    show TsAt _ _ _
    rw [HM9.out]
    exact ht2
  have hbw2 : Below W1.heap.size W1 w2 := hb1.trans (hb2.mono hb1.size)
  clear hwt ht2 hb1 hb2
  go_wp2_with fail
  go_loopw [3, 5] (fun o k wx => ∃ m : Nat, m ≤ M ∧ k = .int .i64 m ∧ TsAt wx o (RM m) ∧ Below W1.heap.size W1 wx) (fun _ k _ => M - (intOf k).toNat)
  case atStart => exact ⟨0, by omega, rfl, HT2.out, hbw2⟩
  case round =>
  obtain ⟨m, hm, rfl, ho2, hb2⟩ := hrel
  have HO2 : Hid (TsAt wr u3 (RM m)) := ho2
  clear ho2
  have c6 := HC6.out wr hb2
  by_cases hlt2 : m < M
  case neg =>
    obtain rfl : m = M := by omega
    have hjj : ¬ (m : Int) < (m : Int) := by omega
    have hBw : Below w.heap.size w wr := hb.trans (hb2.mono hb.size)
    have HR : Hid (TsAt wr u3 (reachN ss (n + 1))) := by
      show TsAt _ _ _
      rw [HM2.out]
      exact HO2.out
    go_wp2
    go_roundw
    case rel => exact ⟨n + 1, by omega, by go_num, HR.out, hBw⟩
    case measure => simp [intOf]; omega
  case pos =>
  have hmx : m < fs.length := by rw [HMM.out]; exact hlt2
  obtain ⟨fb, fo, hfq, hfc⟩ := (HFS.out wr hb2).cells (fun e => by rw [e] at hmx; simp at hmx)
  subst hfq
  have k0 := (hfc m hmx).1
  have HRM : Hid (RM (m + 1) = wthS fs[m].1 (RM m)) := HMS.out m hmx
  have hj1 : (m : Int) < (M : Int) := by omega
  have hj0 : (0 : Int) ≤ (m : Int) := by omega
  generalize fs[m] = f at k0 HRM
  obtain ⟨f0, f1⟩ := f
  dsimp only at *
  have hwt := with_any u3 (RM m) f0 wr HO2.out (HM1.out m)
  clear hfc hmx
  go_wp2_with fail
  refine hwt.mono ?_
  rintro e w3 ⟨v3, rfl, ht3, hb3⟩
  have HT3 : Hid (TsAt w3 v3 (RM (m + 1))) := by
    show TsAt _ _ _
    rw [HRM.out]
    exact ht3
  have hb4 : Below W1.heap.size W1 w3 := hb2.trans (hb3.mono hb2.size)
  clear hwt ht3 hb3
  go_wp2
  go_roundw
  case rel => exact ⟨m + 1, by omega, by go_num, HT3.out, hb4⟩
  case measure => simp [intOf]; omega
end Go.Proofs.YtbdhdlloihkibaaGreatDoor
