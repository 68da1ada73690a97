/-
  The contracts of the second package of statements' own faulted and LongFiles.
-/
import Derived.Test.YtbdhdlloihkibaaGreatDoorStoreDo
namespace Go.Proofs.YtbdhdlloihkibaaGreatDoor
open Go.RowKit Go.Extern.Stop Go.Stop Go.Extern Go.Sort Go.Shelf Go.Lib

theorem copy_step {SAt : World → Value → (Nat → Prop) → St → Prop} {N : Nat} {W1 Wi w' : World} {v : Value} {FP : Nat → Prop} {s' : St} (hfr : Below N W1 Wi) (hN : N ≤ W1.heap.size) (hnew : ∀ k, FP k → N ≤ k) (hp : SPost SAt Wi v FP s' w') : ∃ FP', SAt w' v FP' s' ∧ (∀ k, FP' k → N ≤ k) ∧ Below N W1 w' := by
  obtain ⟨FP', h1, h2, h3⟩ := hp
  have hs := Nat.le_trans hN hfr.size
  refine ⟨FP', h1, fun k hk => ?_, hfr.trans (h2.below hs hnew)⟩
  rcases h3 k hk with h | h
  · exact hnew k h
  · omega
theorem nm_lit {k : ByteArray} {l : List UInt8} (h : k ≠ ⟨l.toArray⟩) : (k.toList == l) = false := by
  rw [beq_eq_false_iff_ne]
  intro e
  apply h
  apply name_ext
  rw [ByteArray.toList_eq] at e
  rw [e]
theorem sameS_self (s : St) : sameS s s = true := by unfold sameS; simp

set_option maxRecDepth 100000 in
set_option maxHeartbeats 4000000 in
theorem do_copy {a : Nat → Addr} {B : Nat} {EM : World → Prop} {SAt : World → Value → (Nat → Prop) → St → Prop} (K : StoreK a B EM SAt) (w0 W : World) (v : Value) (FP : Nat → Prop) (s : St) (b : Nat) (k n t : ByteArray) (z : Int) (h : Both EM SAt B w0 W v FP s b s) (KS : Keeps s)
    (h0 : k ≠ ⟨#[112, 117, 116]⟩) (h1 : k ≠ ⟨#[103, 101, 116]⟩) (h2 : k ≠ ⟨#[100, 114, 111, 112]⟩) (h3 : k ≠ ⟨#[115, 119, 97, 112]⟩) (h4 : k ≠ ⟨#[99, 117, 116]⟩) (h5 : k ≠ ⟨#[111, 110]⟩) (h6 : k ≠ ⟨#[110, 101, 120, 116]⟩) :
    Calls Tryz.prog 17 #[v, .pointer (some ⟨b, 0, none⟩), acV (k, n, t, z)] W fun e w' => e = .returned (.int .i64 1) ∧ ∃ FP', Both EM SAt B w0 w' v FP' s b s := by
  have HK : Hid (StoreK a B EM SAt) := K
  have HKS : Hid (Keeps s) := KS
  obtain ⟨p, rfl⟩ := K.ptr _ _ _ _ h.ok.at_
  have T0' := trip_new K h (k, n, t, z)
  obtain ⟨d0, d1, d2, d3⟩ := T0'.cells
  unfold acV
  dsimp only at d0 d1 d2 d3 ⊢
  have n0 : (k.toList == [112, 117, 116]) = false := nm_lit (l := [112, 117, 116]) h0
  have n1 : (k.toList == [103, 101, 116]) = false := nm_lit (l := [103, 101, 116]) h1
  have n2 : (k.toList == [100, 114, 111, 112]) = false := nm_lit (l := [100, 114, 111, 112]) h2
  have n3 : (k.toList == [115, 119, 97, 112]) = false := nm_lit (l := [115, 119, 97, 112]) h3
  have n4 : (k.toList == [99, 117, 116]) = false := nm_lit (l := [99, 117, 116]) h4
  have n5 : (k.toList == [111, 110]) = false := nm_lit (l := [111, 110]) h5
  have n6 : (k.toList == [110, 101, 120, 116]) = false := nm_lit (l := [110, 101, 120, 116]) h6
  have T0 : Hid (Trip EM SAt B w0 (W.alloc (.cells #[.string k, .string n, .string t, .int .i64 z] 43)) (.pointer (some p)) s b s W.heap.size (k, n, t, z)) := T0'
  clear T0' h K KS h0 h1 h2 h3 h4 h5 h6
  go_enter Tryz.func17, Tryz.ntmps17
  go_wp2_with fail
  generalize W.alloc (.cells #[.string k, .string n, .string t, .int .i64 z] 43) = W1 at *
  obtain ⟨FP1, hS1⟩ := T0.out.at_
  refine (HK.out.copy W1 _ FP1 s T0.out.env hS1 HKS.out).mono ?_
  rintro e w2 ⟨v2, GP2, rfl, hG2, hn2, hb2⟩
  obtain ⟨p2, rfl⟩ := HK.out.ptr _ _ _ _ hG2
  have T2 : Hid (Trip EM SAt B w0 w2 (.pointer (some p)) s b s W.heap.size (k, n, t, z)) := T0.out.quiet HK.out hb2
  have G2 : Hid (SAt w2 (.pointer (some p2)) GP2 s) := hG2
  have N2 : Hid (∀ k, GP2 k → W1.heap.size ≤ k) := hn2
  have B2 : Hid (Below W1.heap.size W1 w2) := hb2
  clear hG2 hn2 hb2 hS1 d1 d2 d3
  go_wp2_with fail
  obtain ⟨FP2, hS2⟩ := T2.out.at_
  refine (HK.out.same w2 _ _ FP2 GP2 s s T2.out.env hS2 G2.out).mono ?_
  rintro e w3 ⟨rfl, hb3⟩
  rw [sameS_self]
  have G3 : Hid (SAt w3 (.pointer (some p2)) GP2 s) := HK.out.keep _ _ _ _ (fun _ => False) _ G2.out (But.of_below hb3) (fun _ _ h => h)
  have B3 : Hid (Below W1.heap.size W1 w3) := B2.out.trans (hb3.mono B2.out.size)
  have E3 : Hid (EM w3) := (T0.out.quiet HK.out B3.out).env
  clear hS2 hb3 T2 G2 B2
  go_wp2_with fail
  refine (HK.out.on w3 _ GP2 s E3.out G3.out HKS.out).mono ?_
  rintro e w4 ⟨rfl, hp4⟩
  obtain ⟨GP4, G4', N4', B4'⟩ := copy_step B3.out (Nat.le_refl _) N2.out hp4
  have G4 : Hid (SAt w4 (.pointer (some p2)) GP4 (onS s)) := G4'
  have N4 : Hid (∀ k, GP4 k → W1.heap.size ≤ k) := N4'
  have B4 : Hid (Below W1.heap.size W1 w4) := B4'
  have E4 : Hid (EM w4) := (T0.out.quiet HK.out B4.out).env
  clear hp4 G4' N4' B4' G3 B3 E3 N2
  go_wp2_with fail
  refine (HK.out.put w4 _ GP4 (onS s) ⟨#[116, 104, 101, 47, 99, 111, 112, 121]⟩ ⟨#[120]⟩ E4.out G4.out (onS_keeps HKS.out) (by decide) (by decide)).mono ?_
  rintro e w5 ⟨rfl, hp5⟩
  obtain ⟨GP5, -, -, B5'⟩ := copy_step B4.out (Nat.le_refl _) N4.out hp5
  have T5 : Hid (Trip EM SAt B w0 w5 (.pointer (some p)) s b s W.heap.size (k, n, t, z)) := T0.out.quiet HK.out B5'
  clear hp5 B5' G4 N4 B4 E4
  generalize errV a (putC (onS s) ⟨#[116, 104, 101, 47, 99, 111, 112, 121]⟩ ⟨#[120]⟩) = ep
  go_wp2_with fail
  obtain ⟨FP5, hS5⟩ := T5.out.at_
  refine (HK.out.get w5 _ FP5 s ⟨#[116, 104, 101, 47, 99, 111, 112, 121]⟩ T5.out.env hS5 HKS.out (by decide)).mono ?_
  rintro e w6 ⟨rfl, hb6⟩
  have T6 : Hid (Trip EM SAt B w0 w6 (.pointer (some p)) s b s W.heap.size (k, n, t, z)) := T5.out.quiet HK.out hb6
  have hf := mfind_any b s ⟨#[116, 104, 101, 47, 99, 111, 112, 121]⟩ w6 T6.out.mat (Nat.le_trans HKS.out.many (by decide))
  clear hS5 hb6 T5
  obtain ⟨FP', hX', -⟩ := T6.out
  rcases findI_get s.obs ⟨#[116, 104, 101, 47, 99, 111, 112, 121]⟩ with ⟨g1, g2⟩ | ⟨j, hj, g1, g2, -, -⟩
  · have e1 : getT s.obs ⟨#[116, 104, 101, 47, 99, 111, 112, 121]⟩ = (⟨#[]⟩, 6) := by unfold getT; rw [g2]
    rw [e1]
    rw [g1] at hf
    have e2 : errV a 6 = .iface 201 (.pointer (some (a 5))) := rfl
    dsimp only
    rw [e2]
    clear g1 g2 e1 e2
    go_wp2_with fail
    refine hf.mono ?_
    rintro e w7 ⟨rfl, rfl⟩
    go_wp2
    go_ret
    exact ⟨rfl, FP', hX'⟩
  · have e1 : getT s.obs ⟨#[116, 104, 101, 47, 99, 111, 112, 121]⟩ = (s.obs[j].2.1, 0) := by unfold getT; rw [g2]
    rw [e1]
    rw [g1] at hf
    have e2 : errV a 0 = .nilIface := rfl
    dsimp only
    rw [e2]
    have hj0 : (0 : Int) ≤ (j : Int) := by omega
    clear g1 g2 e1 e2
    go_wp2_with fail
    refine hf.mono ?_
    rintro e w7 ⟨rfl, rfl⟩
    go_wp2
    go_ret
    exact ⟨rfl, FP', hX'⟩
end Go.Proofs.YtbdhdlloihkibaaGreatDoor
namespace Go.Proofs.YtbdhdlloihkibaaGreatDoor
open Go.RowKit Go.Extern.Stop Go.Stop Go.Extern Go.Sort Go.Shelf Go.Lib

def actS (s : St) (x : Ac) : St := if x.1 = ⟨#[112, 117, 116]⟩ then putS s x.2.1 x.2.2.1 else if x.1 = ⟨#[103, 101, 116]⟩ then s else if x.1 = ⟨#[100, 114, 111, 112]⟩ then dropS s x.2.1 else if x.1 = ⟨#[115, 119, 97, 112]⟩ then swapS s x.2.1 x.2.2.1 else if x.1 = ⟨#[99, 117, 116]⟩ then cutS s x.2.2.2 else if x.1 = ⟨#[111, 110]⟩ then onS s else if x.1 = ⟨#[110, 101, 120, 116]⟩ then nextS s x.2.2.2 else s

theorem do_any {a : Nat → Addr} {B : Nat} {EM : World → Prop} {SAt : World → Value → (Nat → Prop) → St → Prop} (K : StoreK a B EM SAt) (w0 W : World) (v : Value) (FP : Nat → Prop) (s : St) (b : Nat) (x : Ac) (h : Both EM SAt B w0 W v FP s b s) (KS : Keeps s) (hcx : s.cut ≤ 9223372036854775807) (hn : x.2.1.size ≤ 1000) (ht : x.2.2.1.size ≤ 100000) (hz : -9223372036854775808 ≤ x.2.2.2 ∧ x.2.2.2 ≤ 9223372036854775807) :
    Calls Tryz.prog 17 #[v, .pointer (some ⟨b, 0, none⟩), acV x] W fun e w' => e = .returned (.int .i64 1) ∧ ∃ FP', Both EM SAt B w0 w' v FP' (actS s x) b (actS s x) := by
  obtain ⟨k, n, t, z⟩ := x
  dsimp only at hn ht hz
  by_cases h0 : k = ⟨#[112, 117, 116]⟩
  · have e : actS s (k, n, t, z) = putS s n t := by unfold actS; dsimp only; rw [if_pos h0]
    rw [e, h0]
    exact do_put K w0 W v FP s b n t z h KS hcx hn ht hz
  by_cases h1 : k = ⟨#[103, 101, 116]⟩
  · have e : actS s (k, n, t, z) = s := by unfold actS; dsimp only; rw [if_neg h0, if_pos h1]
    rw [e, h1]
    exact do_get K w0 W v FP s b n t z h KS hcx hn ht hz
  by_cases h2 : k = ⟨#[100, 114, 111, 112]⟩
  · have e : actS s (k, n, t, z) = dropS s n := by unfold actS; dsimp only; rw [if_neg h0, if_neg h1, if_pos h2]
    rw [e, h2]
    exact do_drop K w0 W v FP s b n t z h KS hcx hn ht hz
  by_cases h3 : k = ⟨#[115, 119, 97, 112]⟩
  · have e : actS s (k, n, t, z) = swapS s n t := by unfold actS; dsimp only; rw [if_neg h0, if_neg h1, if_neg h2, if_pos h3]
    rw [e, h3]
    exact do_swap K w0 W v FP s b n t z h KS hcx hn ht hz
  by_cases h4 : k = ⟨#[99, 117, 116]⟩
  · have e : actS s (k, n, t, z) = cutS s z := by unfold actS; dsimp only; rw [if_neg h0, if_neg h1, if_neg h2, if_neg h3, if_pos h4]
    rw [e, h4]
    exact do_cut K w0 W v FP s b n t z h KS hcx hn ht hz
  by_cases h5 : k = ⟨#[111, 110]⟩
  · have e : actS s (k, n, t, z) = onS s := by unfold actS; dsimp only; rw [if_neg h0, if_neg h1, if_neg h2, if_neg h3, if_neg h4, if_pos h5]
    rw [e, h5]
    exact do_on K w0 W v FP s b n t z h KS hcx hn ht hz
  by_cases h6 : k = ⟨#[110, 101, 120, 116]⟩
  · have e : actS s (k, n, t, z) = nextS s z := by unfold actS; dsimp only; rw [if_neg h0, if_neg h1, if_neg h2, if_neg h3, if_neg h4, if_neg h5, if_pos h6]
    rw [e, h6]
    exact do_next K w0 W v FP s b n t z h KS hcx hn ht hz
  have e : actS s (k, n, t, z) = s := by unfold actS; dsimp only; rw [if_neg h0, if_neg h1, if_neg h2, if_neg h3, if_neg h4, if_neg h5, if_neg h6]
  rw [e]
  exact do_copy K w0 W v FP s b k n t z h KS h0 h1 h2 h3 h4 h5 h6

theorem actS_keeps {s : St} (K : Keeps s) (x : Ac) : Keeps (actS s x) := by
  unfold actS
  repeat' split
  · exact putS_keeps K _ _
  · exact K
  · exact dropS_keeps K _
  · exact swapS_keeps K _ _
  · exact cutS_keeps K _
  · exact onS_keeps K
  · exact nextS_keeps K _
  · exact K

theorem wrtS_top {s : St} (h : s.cut ≤ 9223372036854775807) (n : Nat) : (wrtS s n).2.cut ≤ 9223372036854775807 := by
  unfold wrtS
  repeat' split
  · exact h
  · exact h
  · show s.cut - n ≤ _
    omega
theorem actS_top {s : St} (h : s.cut ≤ 9223372036854775807) (x : Ac) (hz : x.2.2.2 ≤ 9223372036854775807) : (actS s x).cut ≤ 9223372036854775807 := by
  unfold actS
  repeat' split
  · unfold putS; split
    · exact h
    · exact wrtS_top h _
  · exact h
  · unfold dropS; split <;> exact h
  · unfold swapS
    repeat' split
    · exact h
    · exact wrtS_top h _
    · exact wrtS_top h _
  · unfold cutS; split
    · exact h
    · exact hz
  · show (-1 : Int) ≤ _
    omega
  · unfold nextS; split <;> exact h
  · exact h
end Go.Proofs.YtbdhdlloihkibaaGreatDoor
namespace Go.Proofs.YtbdhdlloihkibaaGreatDoor
open Go.RowKit Go.Extern.Stop Go.Stop Go.Extern Go.Sort Go.Shelf Go.Lib

def Aged (s : St) : Prop := ∀ o ∈ s.obs, 0 ≤ o.2.2 ∧ o.2.2 ≤ 100000
theorem newS_aged : Aged newS := fun _ h => (nomatch h)
theorem born_aged {s : St} (h : Aged s) (n : ByteArray) : -1 ≤ bornO s.obs n ∧ bornO s.obs n ≤ 100000 := by
  unfold bornO
  cases hg : getO s.obs n with
  | none => simp
  | some o =>
    have := h o (getO_some hg).1
    simp only
    omega
theorem born_of {s : St} (K : Keeps s) {o : Ob} (ho : o ∈ s.obs) : bornO s.obs o.1 = o.2.2 := by
  unfold bornO
  rw [getO_mem K.rise ho]
theorem actS_aged {s : St} (K : Keeps s) (h : Aged s) (x : Ac) : Aged (actS s x) := by
  unfold actS
  repeat' split
  · unfold putS
    split
    · exact h
    · intro o ho
      have ho' : o ∈ insO s.obs (x.2.1, bytesOf (x.2.2.1.data.toList.take (wrtS s x.2.2.1.size).1), s.day) := ho
      rcases insO_mem.1 ho' with rfl | ho'
      · exact ⟨K.day0, K.day1⟩
      · exact h o ho'
  · exact h
  · unfold dropS
    split
    · exact h
    · intro o ho
      exact h o (List.mem_filter.1 ho).1
  · unfold swapS
    repeat' split
    · exact h
    · intro o ho
      rw [(wrtS_obs s _).1] at ho
      exact h o ho
    · intro o ho
      have ho' : o ∈ (wrtS s x.2.2.1.size).2.obs := ho
      rw [(wrtS_obs s _).1] at ho'
      exact h o ho'
  · unfold cutS
    split
    · exact h
    · exact h
  · exact h
  · unfold nextS
    split
    · exact h
    · exact h
  · exact h
def stayB (s : St) (us : List ByteArray) (age : Int) (x : ByteArray) : Bool := inT us x || decide (s.day - bornO s.obs x < age)
theorem orph_names {s : St} (K : Keeps s) {us needed : List ByteArray} (hm : ∀ x, x ∈ us ↔ x ∈ needed) (age : Int) : ((s.obs.map fun o => o.1).filter fun x => !stayB s us age x) = orphL s needed age := by
  unfold orphL
  rw [List.filter_map]
  congr 1
  apply List.filter_congr
  intro o ho
  simp only [Function.comp, stayB]
  rw [born_of K ho]
  have e1 : inT us o.1 = inT needed o.1 := by
    rw [Bool.eq_iff_iff, inT_iff, inT_iff, hm]
  have e2 : decide (s.day - o.2.2 < age) = !decide (age ≤ s.day - o.2.2) := by
    rw [Bool.eq_iff_iff]
    simp
  rw [e1, e2]
  cases inT needed o.1 <;> cases decide (age ≤ s.day - o.2.2) <;> rfl
end Go.Proofs.YtbdhdlloihkibaaGreatDoor
namespace Go.Proofs.YtbdhdlloihkibaaGreatDoor
open Go.RowKit Go.Extern.Stop Go.Stop Go.Extern Go.Sort Go.Shelf Go.Lib

set_option maxRecDepth 100000 in
set_option maxHeartbeats 2000000 in
theorem inTx_any (s : ByteArray) (v : Value) (ts : List ByteArray) (w : World) (hx : TxsAt w v ts) (hl : ts.length ≤ 20000) :
    Calls Tryz.prog 21 #[.string s, v] w fun e w' => e = .returned (.bool (inT ts s)) ∧ w' = w := by
  obtain ⟨q, cap, rfl⟩ := hx.form
  have HC : Hid (TxsAt w (.slice q ts.length cap) ts) := hx
  obtain ⟨L, hL⟩ : ∃ L, ts.length = L := ⟨_, rfl⟩
  have HX : Hid (ts.length = L) := hL
  rw [hL] at hl ⊢
  generalize hR : inT ts s = R
  have HR : Hid ((ts.any fun t => decide (t = s)) = R) := hR
  clear hL hx hR
  go_enter Tryz.func21, Tryz.ntmps21
  go_wp2
  go_loop [5] (fun k => ∃ n : Nat, n ≤ L ∧ k = .int .i64 n ∧ ∀ j (h : j < ts.length), j < n → ts[j] ≠ s) (fun k => L - (intOf k).toNat)
  case atStart => exact ⟨0, by omega, rfl, fun j h h' => absurd h' (Nat.not_lt_zero _)⟩
  case round =>
    obtain ⟨n, hn, rfl, hno⟩ := hrel
    have HNO : Hid (∀ j (h : j < ts.length), j < n → ts[j] ≠ s) := hno
    clear hno
    by_cases hlt : n < L
    · have hltx : n < ts.length := by rw [HX.out]; exact hlt
      obtain ⟨b, o, hq, hc⟩ := HC.out.at (fun e => by rw [e] at hltx; simp at hltx)
      subst hq
      have c0 := hc n hltx
      have hi : (n : Int) < (L : Int) := by omega
      have hi0' : (0 : Int) ≤ (n : Int) := by omega
      by_cases he : ts[n] = s
      · have hRR : R = true := by rw [← HR.out]; exact List.any_eq_true.2 ⟨_, List.getElem_mem hltx, decide_eq_true he⟩
        subst hRR
        rw [he] at c0
        have d1 : (s.toList == s.toList) = true := by simp
        clear he hltx hc
        go_wp2
        go_ret
        exact ⟨rfl, rfl⟩
      · have HN1 : Hid (∀ j (h : j < ts.length), j < n + 1 → ts[j] ≠ s) := tx_succ HNO.out hltx he
        have d1 : (ts[n].toList == s.toList) = false := neBB (fun e => he (part_ext e))
        generalize ts[n] = t at c0 d1
        clear he hltx hc
        go_wp2
        go_round
        case rel => exact ⟨n + 1, by omega, by go_num, HN1.out⟩
        case measure => simp [intOf]; omega
    · obtain rfl : n = L := by omega
      have hRR : R = false := by
        rw [← HR.out]
        refine List.any_eq_false.2 fun t ht e => ?_
        obtain ⟨j, hj, e'⟩ := List.mem_iff_getElem.1 ht
        exact HNO.out j hj (by rw [← HX.out]; exact hj) (e'.trans (of_decide_eq_true e))
      subst hRR
      go_wp2
      go_ret
      exact ⟨rfl, rfl⟩
end Go.Proofs.YtbdhdlloihkibaaGreatDoor
namespace Go.Proofs.YtbdhdlloihkibaaGreatDoor
open Go.RowKit Go.Extern.Stop Go.Stop Go.Extern Go.Sort Go.Shelf Go.Lib

def longFs (fs : List Fl) : Bool := (decide (40 < fs.length) && decide (fs.length ≠ 60) && decide (fs.length ≠ 61)) || fs.any longFB

theorem longFs_no {fs : List Fl} (h : longFs fs = false) : fs.length ≤ 61 ∧ ∀ f ∈ fs, f.1.size ≤ 30 ∧ f.2.1.size ≤ 30 := by
  unfold longFs at h
  rw [Bool.or_eq_false_iff] at h
  refine ⟨?_, fun f hf => ?_⟩
  · have h1 := h.1
    rcases Nat.lt_or_ge 40 fs.length with h' | h'
    · simp only [h', decide_true, Bool.true_and] at h1
      simp at h1
      omega
    · omega
  · have := List.any_eq_false.1 h.2 f hf
    simp only [longFB, Bool.or_eq_true, decide_eq_true_eq, not_or] at this
    omega

theorem anyLong_succ {fs : List Fl} {n : Nat} (h : ∀ j (h : j < fs.length), j < n → longFB fs[j] = false) (hn : n < fs.length) (e : longFB fs[n] = false) : ∀ j (h : j < fs.length), j < n + 1 → longFB fs[j] = false := fun j hj hjn => by
  rcases Nat.lt_or_ge j n with h' | h'
  · exact h j hj h'
  · obtain rfl : j = n := by omega
    exact e

set_option maxRecDepth 100000 in
set_option maxHeartbeats 4000000 in
theorem longFiles_any (v : Value) (fs : List Fl) (w : World) (hx : FlsAt w v fs) (hl : fs.length ≤ maxLen) (hsz : ∀ f ∈ fs, f.1.size ≤ maxLen ∧ f.2.1.size ≤ maxLen) :
    Calls Tryz.prog 25 #[v] w fun e w' => e = .returned (.int .i64 (if longFs fs then 1 else 0)) ∧ Below w.heap.size w w' := by
  obtain ⟨q, cap, rfl⟩ := hx.form
  have HFX : Hid (FlsAt w (.slice q fs.length cap) fs) := hx
  have HSZ : Hid (∀ f ∈ fs, f.1.size ≤ maxLen ∧ f.2.1.size ≤ maxLen) := hsz
  obtain ⟨L, hL⟩ : ∃ L, fs.length = L := ⟨_, rfl⟩
  have HX : Hid (fs.length = L) := hL
  rw [hL] at hl ⊢
  unfold maxLen at hl
  generalize hR : (if longFs fs then (1 : Int) else 0) = R
  have HR : Hid ((if longFs fs then (1 : Int) else 0) = R) := hR
  clear hL hx hsz hR
  by_cases hbig : 40 < L ∧ L ≠ 60 ∧ L ≠ 61
  · have hRR : R = 1 := by
      rw [← HR.out, if_pos]
      unfold longFs
      rw [HX.out]
      simp [hbig.1, hbig.2.1, hbig.2.2]
    subst hRR
    obtain ⟨b1, b2, b3⟩ := hbig
    have i1 : (40 : Int) < (L : Int) := by omega
    have j2 : ((L : Int) != 60) = true := by simp; omega
    have j3 : ((L : Int) != 61) = true := by simp; omega
    go_enter Tryz.func25, Tryz.ntmps25
    go_wp2
    go_ret
    exact ⟨rfl, Below.refl _ _⟩
  · have HS : Hid ((decide (40 < fs.length) && decide (fs.length ≠ 60) && decide (fs.length ≠ 61)) = false) := by
      show _ = _
      rw [HX.out]
      rw [Bool.eq_false_iff]
      intro h
      simp only [Bool.and_eq_true, decide_eq_true_eq] at h
      exact hbig ⟨h.1.1, h.1.2, h.2⟩
    have hc3 : (¬ (40 : Int) < (L : Int)) ∨ ((40 : Int) < (L : Int) ∧ (L : Int) = 60) ∨ ((40 : Int) < (L : Int) ∧ ¬ (L : Int) = 60 ∧ (L : Int) = 61) := by omega
    clear hbig
    rcases hc3 with i1 | ⟨i1, i2⟩ | ⟨i1, i2, i3⟩
    · skip
      go_enter Tryz.func25, Tryz.ntmps25
      go_wp2
      go_loopw [3] (fun k wr => ∃ n : Nat, n ≤ L ∧ k = .int .i64 n ∧ (∀ j (h : j < fs.length), j < n → longFB fs[j] = false) ∧ Below w.heap.size w wr) (fun k _ => L - (intOf k).toNat)
      case atStart => exact ⟨0, by omega, rfl, fun j h h' => absurd h' (Nat.not_lt_zero _), Below.refl _ _⟩
      case round =>
        obtain ⟨n, hn, rfl, hno, hb⟩ := hrel
        have HNO : Hid (∀ j (h : j < fs.length), j < n → longFB fs[j] = false) := hno
        clear hno
        by_cases hlt : n < L
        · have hltx : n < fs.length := by rw [HX.out]; exact hlt
          obtain ⟨b, o, hq, hc⟩ := (HFX.out.below hb).cells (fun e => by rw [e] at hltx; simp at hltx)
          subst hq
          obtain ⟨c0, c1, c2, c3, c4, c5⟩ := hc n hltx
          obtain ⟨k1, k2⟩ := HSZ.out fs[n] (List.getElem_mem _)
          have hlf := longFile_any fs[n] wr k1 k2
          have hyes : longFB fs[n] = true → R = 1 := fun e => by
            rw [← HR.out, if_pos]
            unfold longFs
            rw [Bool.or_eq_true]
            exact Or.inr (List.any_eq_true.2 ⟨fs[n], List.getElem_mem _, e⟩)
          have hnx := fun e => anyLong_succ HNO.out hltx e
          unfold flV at hlf
          generalize longFB fs[n] = lb at hlf hyes hnx
          generalize fs[n] = f at c0 c1 c2 c3 c4 c5 hlf
          obtain ⟨fp, fq, fn, flo, fhi, fseq⟩ := f
          dsimp only at c0 c1 c2 c3 c4 c5 hlf
          have hiL : (n : Int) < (L : Int) := by omega
          have hi0' : (0 : Int) ≤ (n : Int) := by omega
          clear hc k1 k2 hltx
          cases lb with
          | true =>
            obtain rfl := hyes rfl
            simp only [if_true] at hlf
            clear hyes hnx
            go_wp2_with fail
            refine hlf.mono ?_
            rintro e w3 ⟨rfl, hb3⟩
            clear hlf
            go_wp2
            go_ret
            exact ⟨rfl, hb.trans (hb3.mono hb.size)⟩
          | false =>
            have HNX : Hid (∀ j (h : j < fs.length), j < n + 1 → longFB fs[j] = false) := hnx rfl
            simp only [Bool.false_eq_true, if_false] at hlf
            clear hyes hnx
            go_wp2_with fail
            refine hlf.mono ?_
            rintro e w3 ⟨rfl, hb3⟩
            clear hlf
            have hb4 : Below w.heap.size w w3 := hb.trans (hb3.mono hb.size)
            go_wp2
            go_roundw
            case rel => exact ⟨n + 1, by omega, by go_num, HNX.out, hb4⟩
            case measure => simp [intOf]; omega
        · obtain rfl : n = L := by omega
          have hRR : R = 0 := by
            rw [← HR.out, if_neg]
            unfold longFs
            rw [HS.out, Bool.false_or]
            intro h
            obtain ⟨f, hf, e⟩ := List.any_eq_true.1 h
            obtain ⟨j, hj, rfl⟩ := List.mem_iff_getElem.1 hf
            rw [HNO.out j hj (by rw [← HX.out]; exact hj)] at e
            cases e
          subst hRR
          go_wp2
          go_ret
          exact ⟨rfl, hb⟩
    · have j2 : ((L : Int) != 60) = false := by rw [i2]; rfl
      go_enter Tryz.func25, Tryz.ntmps25
      go_wp2
      go_loopw [3] (fun k wr => ∃ n : Nat, n ≤ L ∧ k = .int .i64 n ∧ (∀ j (h : j < fs.length), j < n → longFB fs[j] = false) ∧ Below w.heap.size w wr) (fun k _ => L - (intOf k).toNat)
      case atStart => exact ⟨0, by omega, rfl, fun j h h' => absurd h' (Nat.not_lt_zero _), Below.refl _ _⟩
      case round =>
        obtain ⟨n, hn, rfl, hno, hb⟩ := hrel
        have HNO : Hid (∀ j (h : j < fs.length), j < n → longFB fs[j] = false) := hno
        clear hno
        by_cases hlt : n < L
        · have hltx : n < fs.length := by rw [HX.out]; exact hlt
          obtain ⟨b, o, hq, hc⟩ := (HFX.out.below hb).cells (fun e => by rw [e] at hltx; simp at hltx)
          subst hq
          obtain ⟨c0, c1, c2, c3, c4, c5⟩ := hc n hltx
          obtain ⟨k1, k2⟩ := HSZ.out fs[n] (List.getElem_mem _)
          have hlf := longFile_any fs[n] wr k1 k2
          have hyes : longFB fs[n] = true → R = 1 := fun e => by
            rw [← HR.out, if_pos]
            unfold longFs
            rw [Bool.or_eq_true]
            exact Or.inr (List.any_eq_true.2 ⟨fs[n], List.getElem_mem _, e⟩)
          have hnx := fun e => anyLong_succ HNO.out hltx e
          unfold flV at hlf
          generalize longFB fs[n] = lb at hlf hyes hnx
          generalize fs[n] = f at c0 c1 c2 c3 c4 c5 hlf
          obtain ⟨fp, fq, fn, flo, fhi, fseq⟩ := f
          dsimp only at c0 c1 c2 c3 c4 c5 hlf
          have hiL : (n : Int) < (L : Int) := by omega
          have hi0' : (0 : Int) ≤ (n : Int) := by omega
          clear hc k1 k2 hltx
          cases lb with
          | true =>
            obtain rfl := hyes rfl
            simp only [if_true] at hlf
            clear hyes hnx
            go_wp2_with fail
            refine hlf.mono ?_
            rintro e w3 ⟨rfl, hb3⟩
            clear hlf
            go_wp2
            go_ret
            exact ⟨rfl, hb.trans (hb3.mono hb.size)⟩
          | false =>
            have HNX : Hid (∀ j (h : j < fs.length), j < n + 1 → longFB fs[j] = false) := hnx rfl
            simp only [Bool.false_eq_true, if_false] at hlf
            clear hyes hnx
            go_wp2_with fail
            refine hlf.mono ?_
            rintro e w3 ⟨rfl, hb3⟩
            clear hlf
            have hb4 : Below w.heap.size w w3 := hb.trans (hb3.mono hb.size)
            go_wp2
            go_roundw
            case rel => exact ⟨n + 1, by omega, by go_num, HNX.out, hb4⟩
            case measure => simp [intOf]; omega
        · obtain rfl : n = L := by omega
          have hRR : R = 0 := by
            rw [← HR.out, if_neg]
            unfold longFs
            rw [HS.out, Bool.false_or]
            intro h
            obtain ⟨f, hf, e⟩ := List.any_eq_true.1 h
            obtain ⟨j, hj, rfl⟩ := List.mem_iff_getElem.1 hf
            rw [HNO.out j hj (by rw [← HX.out]; exact hj)] at e
            cases e
          subst hRR
          go_wp2
          go_ret
          exact ⟨rfl, hb⟩
    · have j2 : ((L : Int) != 60) = true := by simp [i2]
      have j3 : ((L : Int) != 61) = false := by rw [i3]; rfl
      go_enter Tryz.func25, Tryz.ntmps25
      go_wp2
      go_loopw [3] (fun k wr => ∃ n : Nat, n ≤ L ∧ k = .int .i64 n ∧ (∀ j (h : j < fs.length), j < n → longFB fs[j] = false) ∧ Below w.heap.size w wr) (fun k _ => L - (intOf k).toNat)
      case atStart => exact ⟨0, by omega, rfl, fun j h h' => absurd h' (Nat.not_lt_zero _), Below.refl _ _⟩
      case round =>
        obtain ⟨n, hn, rfl, hno, hb⟩ := hrel
        have HNO : Hid (∀ j (h : j < fs.length), j < n → longFB fs[j] = false) := hno
        clear hno
        by_cases hlt : n < L
        · have hltx : n < fs.length := by rw [HX.out]; exact hlt
          obtain ⟨b, o, hq, hc⟩ := (HFX.out.below hb).cells (fun e => by rw [e] at hltx; simp at hltx)
          subst hq
          obtain ⟨c0, c1, c2, c3, c4, c5⟩ := hc n hltx
          obtain ⟨k1, k2⟩ := HSZ.out fs[n] (List.getElem_mem _)
          have hlf := longFile_any fs[n] wr k1 k2
          have hyes : longFB fs[n] = true → R = 1 := fun e => by
            rw [← HR.out, if_pos]
            unfold longFs
            rw [Bool.or_eq_true]
            exact Or.inr (List.any_eq_true.2 ⟨fs[n], List.getElem_mem _, e⟩)
          have hnx := fun e => anyLong_succ HNO.out hltx e
          unfold flV at hlf
          generalize longFB fs[n] = lb at hlf hyes hnx
          generalize fs[n] = f at c0 c1 c2 c3 c4 c5 hlf
          obtain ⟨fp, fq, fn, flo, fhi, fseq⟩ := f
          dsimp only at c0 c1 c2 c3 c4 c5 hlf
          have hiL : (n : Int) < (L : Int) := by omega
          have hi0' : (0 : Int) ≤ (n : Int) := by omega
          clear hc k1 k2 hltx
          cases lb with
          | true =>
            obtain rfl := hyes rfl
            simp only [if_true] at hlf
            clear hyes hnx
            go_wp2_with fail
            refine hlf.mono ?_
            rintro e w3 ⟨rfl, hb3⟩
            clear hlf
            go_wp2
            go_ret
            exact ⟨rfl, hb.trans (hb3.mono hb.size)⟩
          | false =>
            have HNX : Hid (∀ j (h : j < fs.length), j < n + 1 → longFB fs[j] = false) := hnx rfl
            simp only [Bool.false_eq_true, if_false] at hlf
            clear hyes hnx
            go_wp2_with fail
            refine hlf.mono ?_
            rintro e w3 ⟨rfl, hb3⟩
            clear hlf
            have hb4 : Below w.heap.size w w3 := hb.trans (hb3.mono hb.size)
            go_wp2
            go_roundw
            case rel => exact ⟨n + 1, by omega, by go_num, HNX.out, hb4⟩
            case measure => simp [intOf]; omega
        · obtain rfl : n = L := by omega
          have hRR : R = 0 := by
            rw [← HR.out, if_neg]
            unfold longFs
            rw [HS.out, Bool.false_or]
            intro h
            obtain ⟨f, hf, e⟩ := List.any_eq_true.1 h
            obtain ⟨j, hj, rfl⟩ := List.mem_iff_getElem.1 hf
            rw [HNO.out j hj (by rw [← HX.out]; exact hj)] at e
            cases e
          subst hRR
          go_wp2
          go_ret
          exact ⟨rfl, hb⟩
end Go.Proofs.YtbdhdlloihkibaaGreatDoor
