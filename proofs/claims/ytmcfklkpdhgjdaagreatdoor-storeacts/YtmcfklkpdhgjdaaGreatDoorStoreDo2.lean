/-
  Do of the statements' own: a copy of the program's store.
-/
import Derived.Test.YtmcfklkpdhgjdaaGreatDoorStoreDo
namespace Go.Proofs.YtmcfklkpdhgjdaaGreatDoor
open Go.RowKit Go.Extern.Stop Go.Stop Go.Extern Go.Sort Go.Shelf Go.Lib

theorem copy_step {SAt : World → Value → (Nat → Prop) → St → Prop} {N : Nat} {W1 Wi w' : World} {v : Value} {FP : Nat → Prop} {s' : St} (hfr : Below N W1 Wi) (hN : N ≤ W1.heap.size) (hnew : ∀ k, FP k → N ≤ k) (hp : SPost SAt Wi v FP s' w') : ∃ FP', SAt w' v FP' s' ∧ (∀ k, FP' k → N ≤ k) ∧ Below N W1 w' := by
  obtain ⟨FP', h1, h2, h3⟩ := hp
  have hs := Nat.le_trans hN hfr.size
  refine ⟨FP', h1, fun k hk => ?_, hfr.trans (h2.below hs hnew)⟩
  rcases h3 k hk with h | h
  · exact hnew k h
  · omega
theorem nm_lit {k : ByteArray} {l : List UInt8} (h : k ≠ ⟨l.toArray⟩) : (k.toList == l) = false := by
  rw [beq_eq_false_iff_ne]
  intro e
  apply h
  apply name_ext
  rw [ByteArray.toList_eq] at e
  rw [e]
theorem sameS_self (s : St) : sameS s s = true := by unfold sameS; simp

set_option maxRecDepth 100000 in
set_option maxHeartbeats 4000000 in
theorem do_copy {a : Nat → Addr} {B : Nat} {EM : World → Prop} {SAt : World → Value → (Nat → Prop) → St → Prop} (K : StoreK a B EM SAt) (w0 W : World) (v : Value) (FP : Nat → Prop) (s : St) (b : Nat) (k n t : ByteArray) (z : Int) (h : Both EM SAt B w0 W v FP s b s) (KS : Keeps s)
    (h0 : k ≠ ⟨#[112, 117, 116]⟩) (h1 : k ≠ ⟨#[103, 101, 116]⟩) (h2 : k ≠ ⟨#[100, 114, 111, 112]⟩) (h3 : k ≠ ⟨#[115, 119, 97, 112]⟩) (h4 : k ≠ ⟨#[99, 117, 116]⟩) (h5 : k ≠ ⟨#[111, 110]⟩) (h6 : k ≠ ⟨#[110, 101, 120, 116]⟩) :
    Calls Tryz.prog 8 #[v, .pointer (some ⟨b, 0, none⟩), acV (k, n, t, z)] W fun e w' => e = .returned (.int .i64 1) ∧ ∃ FP', Both EM SAt B w0 w' v FP' s b s := by
  have HK : Hid (StoreK a B EM SAt) := K
  have HKS : Hid (Keeps s) := KS
  obtain ⟨p, rfl⟩ := K.ptr _ _ _ _ h.ok.at_
  have T0' := trip_new K h (k, n, t, z)
  obtain ⟨d0, d1, d2, d3⟩ := T0'.cells
  unfold acV
  dsimp only at d0 d1 d2 d3 ⊢
  have n0 : (k.toList == [112, 117, 116]) = false := nm_lit (l := [112, 117, 116]) h0
  have n1 : (k.toList == [103, 101, 116]) = false := nm_lit (l := [103, 101, 116]) h1
  have n2 : (k.toList == [100, 114, 111, 112]) = false := nm_lit (l := [100, 114, 111, 112]) h2
  have n3 : (k.toList == [115, 119, 97, 112]) = false := nm_lit (l := [115, 119, 97, 112]) h3
  have n4 : (k.toList == [99, 117, 116]) = false := nm_lit (l := [99, 117, 116]) h4
  have n5 : (k.toList == [111, 110]) = false := nm_lit (l := [111, 110]) h5
  have n6 : (k.toList == [110, 101, 120, 116]) = false := nm_lit (l := [110, 101, 120, 116]) h6
  have T0 : Hid (Trip EM SAt B w0 (W.alloc (.cells #[.string k, .string n, .string t, .int .i64 z] 31)) (.pointer (some p)) s b s W.heap.size (k, n, t, z)) := T0'
  clear T0' h K KS h0 h1 h2 h3 h4 h5 h6
  go_enter Tryz.func8, Tryz.ntmps8
  go_wp2_with fail
  generalize W.alloc (.cells #[.string k, .string n, .string t, .int .i64 z] 31) = W1 at *
  obtain ⟨FP1, hS1⟩ := T0.out.at_
  refine (HK.out.copy W1 _ FP1 s T0.out.env hS1 HKS.out).mono ?_
  rintro e w2 ⟨v2, GP2, rfl, hG2, hn2, hb2⟩
  obtain ⟨p2, rfl⟩ := HK.out.ptr _ _ _ _ hG2
  have T2 : Hid (Trip EM SAt B w0 w2 (.pointer (some p)) s b s W.heap.size (k, n, t, z)) := T0.out.quiet HK.out hb2
  have G2 : Hid (SAt w2 (.pointer (some p2)) GP2 s) := hG2
  have N2 : Hid (∀ k, GP2 k → W1.heap.size ≤ k) := hn2
  have B2 : Hid (Below W1.heap.size W1 w2) := hb2
  clear hG2 hn2 hb2 hS1 d1 d2 d3
  go_wp2_with fail
  obtain ⟨FP2, hS2⟩ := T2.out.at_
  refine (HK.out.same w2 _ _ FP2 GP2 s s T2.out.env hS2 G2.out).mono ?_
  rintro e w3 ⟨rfl, hb3⟩
  rw [sameS_self]
  have G3 : Hid (SAt w3 (.pointer (some p2)) GP2 s) := HK.out.keep _ _ _ _ (fun _ => False) _ G2.out (But.of_below hb3) (fun _ _ h => h)
  have B3 : Hid (Below W1.heap.size W1 w3) := B2.out.trans (hb3.mono B2.out.size)
  have E3 : Hid (EM w3) := (T0.out.quiet HK.out B3.out).env
  clear hS2 hb3 T2 G2 B2
  go_wp2_with fail
  refine (HK.out.on w3 _ GP2 s E3.out G3.out HKS.out).mono ?_
  rintro e w4 ⟨rfl, hp4⟩
  obtain ⟨GP4, G4', N4', B4'⟩ := copy_step B3.out (Nat.le_refl _) N2.out hp4
  have G4 : Hid (SAt w4 (.pointer (some p2)) GP4 (onS s)) := G4'
  have N4 : Hid (∀ k, GP4 k → W1.heap.size ≤ k) := N4'
  have B4 : Hid (Below W1.heap.size W1 w4) := B4'
  have E4 : Hid (EM w4) := (T0.out.quiet HK.out B4.out).env
  clear hp4 G4' N4' B4' G3 B3 E3 N2
  go_wp2_with fail
  refine (HK.out.put w4 _ GP4 (onS s) ⟨#[116, 104, 101, 47, 99, 111, 112, 121]⟩ ⟨#[120]⟩ E4.out G4.out (onS_keeps HKS.out) (by decide) (by decide)).mono ?_
  rintro e w5 ⟨rfl, hp5⟩
  obtain ⟨GP5, -, -, B5'⟩ := copy_step B4.out (Nat.le_refl _) N4.out hp5
  have T5 : Hid (Trip EM SAt B w0 w5 (.pointer (some p)) s b s W.heap.size (k, n, t, z)) := T0.out.quiet HK.out B5'
  clear hp5 B5' G4 N4 B4 E4
  generalize errV a (putC (onS s) ⟨#[116, 104, 101, 47, 99, 111, 112, 121]⟩ ⟨#[120]⟩) = ep
  go_wp2_with fail
  obtain ⟨FP5, hS5⟩ := T5.out.at_
  refine (HK.out.get w5 _ FP5 s ⟨#[116, 104, 101, 47, 99, 111, 112, 121]⟩ T5.out.env hS5 HKS.out (by decide)).mono ?_
  rintro e w6 ⟨rfl, hb6⟩
  have T6 : Hid (Trip EM SAt B w0 w6 (.pointer (some p)) s b s W.heap.size (k, n, t, z)) := T5.out.quiet HK.out hb6
  have hf := find_any b s ⟨#[116, 104, 101, 47, 99, 111, 112, 121]⟩ w6 T6.out.mat (Nat.le_trans HKS.out.many (by decide))
  clear hS5 hb6 T5
  obtain ⟨FP', hX', -⟩ := T6.out
  rcases findI_get s.obs ⟨#[116, 104, 101, 47, 99, 111, 112, 121]⟩ with ⟨g1, g2⟩ | ⟨j, hj, g1, g2, -, -⟩
  · have e1 : getT s.obs ⟨#[116, 104, 101, 47, 99, 111, 112, 121]⟩ = (⟨#[]⟩, 6) := by unfold getT; rw [g2]
    rw [e1]
    rw [g1] at hf
    have e2 : errV a 6 = .iface 163 (.pointer (some (a 5))) := rfl
    dsimp only
    rw [e2]
    clear g1 g2 e1 e2
    go_wp2_with fail
    refine hf.mono ?_
    rintro e w7 ⟨rfl, rfl⟩
    go_wp2
    go_ret
    exact ⟨rfl, FP', hX'⟩
  · have e1 : getT s.obs ⟨#[116, 104, 101, 47, 99, 111, 112, 121]⟩ = (s.obs[j].2.1, 0) := by unfold getT; rw [g2]
    rw [e1]
    rw [g1] at hf
    have e2 : errV a 0 = .nilIface := rfl
    dsimp only
    rw [e2]
    have hj0 : (0 : Int) ≤ (j : Int) := by omega
    clear g1 g2 e1 e2
    go_wp2_with fail
    refine hf.mono ?_
    rintro e w7 ⟨rfl, rfl⟩
    go_wp2
    go_ret
    exact ⟨rfl, FP', hX'⟩
end Go.Proofs.YtmcfklkpdhgjdaaGreatDoor
