/-
  The closed fact of the statements on a store.
-/
import Derived.Test.YtmcfklkpdhgjdaaDoorStoreLaw
namespace Go.Proofs.YtmcfklkpdhgjdaaDoor
open Go.RowKit Go.Extern.Stop Go.Stop Go.Extern Go.Sort Go.Shelf Go.Lib

theorem sd1 : putC newS ⟨#[97, 47, 49]⟩ ⟨#[120]⟩ = 0 := by decide
theorem sd2 : putS newS ⟨#[97, 47, 49]⟩ ⟨#[120]⟩ = ⟨[(⟨#[97, 47, 49]⟩, ⟨#[120]⟩, 0)], ⟨#[]⟩, 0, false, -1⟩ := by rfl
theorem sd3 : putC ⟨[(⟨#[97, 47, 49]⟩, ⟨#[120]⟩, 0)], ⟨#[]⟩, 0, false, -1⟩ ⟨#[97, 47, 49]⟩ ⟨#[121]⟩ = 7 := by decide
theorem sd4 : putS ⟨[(⟨#[97, 47, 49]⟩, ⟨#[120]⟩, 0)], ⟨#[]⟩, 0, false, -1⟩ ⟨#[97, 47, 49]⟩ ⟨#[121]⟩ = ⟨[(⟨#[97, 47, 49]⟩, ⟨#[120]⟩, 0)], ⟨#[]⟩, 0, false, -1⟩ := by rfl
theorem sd5 : getT [(⟨#[97, 47, 49]⟩, ⟨#[120]⟩, 0)] ⟨#[97, 47, 49]⟩ = (⟨#[120]⟩, 0) := by rfl
theorem sd6 : swapC ⟨[(⟨#[97, 47, 49]⟩, ⟨#[120]⟩, 0)], ⟨#[]⟩, 0, false, -1⟩ ⟨#[]⟩ ⟨#[97, 47, 49]⟩ = 0 := by decide
theorem sd7 : swapS ⟨[(⟨#[97, 47, 49]⟩, ⟨#[120]⟩, 0)], ⟨#[]⟩, 0, false, -1⟩ ⟨#[]⟩ ⟨#[97, 47, 49]⟩ = ⟨[(⟨#[97, 47, 49]⟩, ⟨#[120]⟩, 0)], ⟨#[97, 47, 49]⟩, 0, false, -1⟩ := by rfl
theorem sd_keeps : Keeps ⟨[(⟨#[97, 47, 49]⟩, ⟨#[120]⟩, 0)], ⟨#[]⟩, 0, false, -1⟩ := by rw [← sd2]; exact putS_keeps newS_keeps _ _
theorem sd_keeps2 : Keeps ⟨[(⟨#[97, 47, 49]⟩, ⟨#[120]⟩, 0)], ⟨#[97, 47, 49]⟩, 0, false, -1⟩ := by rw [← sd7]; exact swapS_keeps sd_keeps _ _

set_option maxRecDepth 100000 in
set_option maxHeartbeats 2000000 in
theorem stored_any {a : Nat → Addr} {B : Nat} {EM : World → Prop} {SAt : World → Value → (Nat → Prop) → St → Prop} (K : StoreK a B EM SAt) (w : World) (h : EM w) :
    Calls Tryd.prog 5 #[] w fun e w' => e = .returned (.bool true) ∧ Below B w w' := by
  have HK : Hid (StoreK a B EM SAt) := K
  have hB := K.size _ h
  have hn := K.new w h
  have HB : Hid (B ≤ w.heap.size) := hB
  clear K hB
  go_enter Tryd.func5, Tryd.ntmps5
  go_wp2_with fail
  refine hn.mono ?_
  rintro e w1 ⟨v, FP, rfl, hs, hnew, hb1⟩
  have S1 : Hid (SOk EM SAt B w w1 v FP newS) := ⟨HK.out.below _ _ h (hb1.mono HB.out), hb1.mono HB.out, HB.out, hs, fun k hk => Nat.le_trans HB.out (hnew k hk)⟩
  obtain ⟨p, rfl⟩ := HK.out.ptr _ _ _ _ hs
  have hp := HK.out.put w1 _ FP newS ⟨#[97, 47, 49]⟩ ⟨#[120]⟩ S1.out.env S1.out.at_ newS_keeps (by decide) (by decide)
  rw [sd1, sd2] at hp
  clear hn hs hnew hb1
  go_wp2_with fail
  refine hp.mono ?_
  rintro e w2 ⟨rfl, hsp⟩
  obtain ⟨FP2, S2', -, -⟩ := S1.out.post HK.out hsp
  have S2 : Hid (SOk EM SAt B w w2 (.pointer (some p)) FP2 _) := S2'
  have hp2 := HK.out.put w2 _ FP2 _ ⟨#[97, 47, 49]⟩ ⟨#[121]⟩ S2.out.env S2.out.at_ sd_keeps (by decide) (by decide)
  rw [sd3, sd4] at hp2
  clear hp hsp S2' S1
  go_wp2_with fail
  refine hp2.mono ?_
  rintro e w3 ⟨rfl, hsp⟩
  obtain ⟨FP3, S3', -, -⟩ := S2.out.post HK.out hsp
  have S3 : Hid (SOk EM SAt B w w3 (.pointer (some p)) FP3 _) := S3'
  have hg := HK.out.get w3 _ FP3 _ ⟨#[97, 47, 49]⟩ S3.out.env S3.out.at_ sd_keeps (by decide)
  dsimp only at hg
  rw [sd5] at hg
  clear hp2 hsp S3' S2
  go_wp2_with fail
  refine hg.mono ?_
  rintro e w4 ⟨rfl, hb4⟩
  have S4 : Hid (SOk EM SAt B w w4 (.pointer (some p)) FP3 _) := S3.out.quiet HK.out hb4
  have hc : Calls Tryd.prog 22 #[errV a 7, .int .i64 7] w4 fun e w' => e = .returned (.bool true) ∧ Below w4.heap.size w4 w' := HK.out.coded w4 7 S4.out.env (by decide)
  have e0 : errV a 0 = .nilIface := rfl
  rw [e0]
  clear hg hb4 S3
  generalize errV a 7 = ev at *
  go_wp2_with fail
  refine hc.mono ?_
  rintro e w5 ⟨rfl, hb5⟩
  have S5 : Hid (SOk EM SAt B w w5 (.pointer (some p)) FP3 _) := S4.out.quiet HK.out hb5
  have hw := HK.out.swap w5 _ FP3 _ ⟨#[]⟩ ⟨#[97, 47, 49]⟩ S5.out.env S5.out.at_ sd_keeps (by decide) (by decide)
  rw [sd6, sd7, e0] at hw
  clear hc hb5 S4
  go_wp2_with fail
  refine hw.mono ?_
  rintro e w6 ⟨rfl, hsp⟩
  obtain ⟨FP6, S6', -, -⟩ := S5.out.post HK.out hsp
  have S6 : Hid (SOk EM SAt B w w6 (.pointer (some p)) FP6 _) := S6'
  have hh := HK.out.head w6 _ FP6 _ S6.out.env S6.out.at_ sd_keeps2
  clear hw hsp S6' S5
  go_wp2_with fail
  refine hh.mono ?_
  rintro e w7 ⟨rfl, hb7⟩
  have S7 : Hid (SOk EM SAt B w w7 (.pointer (some p)) FP6 _) := S6.out.quiet HK.out hb7
  dsimp only
  go_wp2
  go_ret
  exact ⟨rfl, S7.out.frame⟩
end Go.Proofs.YtmcfklkpdhgjdaaDoor
