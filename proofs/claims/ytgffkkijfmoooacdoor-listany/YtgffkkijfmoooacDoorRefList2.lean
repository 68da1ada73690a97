/-
  The contracts of the document's own SameFiles, ListText and ListFault.
-/
import Derived.Test.YtgffkkijfmoooacDoorRefList1
import Derived.Test.YtgffkkijfmoooacDoorCrcPure
import Derived.Test.YtgffkkijfmoooacDoorRowRead
import Derived.Laws.BitsAll
import Derived.Laws.BitsAllLaws
import Derived.Laws.Rows
import Derived.Laws.CopyRow
import Derived.Laws.Tables
import Derived.Laws.Bits128
import Derived.Test.YtgffkkijfmoooacDoorRefWords
import Derived.Test.YtgffkkijfmoooacDoorDataHead
import Derived.BigRegion
import Derived.Test.YtgffkkijfmoooacDoorRowNums
import Derived.Test.YtgffkkijfmoooacDoorRowDrop
import Derived.Deep.Onto
import Derived.Test.YtgffkkijfmoooacDoorProg
import Derived.WalkKit
import Derived.LaidEql
import Derived.Stop.Asserts
import Derived.RowKitTokens
import Derived.Lib.QuietBelow
import Derived.BigQuiet
import Derived.Test.YtgffkkijfmoooacDoorDataLines
namespace Go.Proofs.YtgffkkijfmoooacDoor
open Go.RowKit Go.Extern.Stop Go.Stop Go.Extern Go.Sort Go.Shelf Go.Lib

set_option maxRecDepth 100000 in
set_option maxHeartbeats 4000000 in
theorem sameFiles_yes (v v' : Value) (fs : List Fl) (w : World) (hx : FlsAt w v fs) (hy : FlsAt w v' fs) (hl : fs.length ≤ 20000) :
    Calls Tryd.prog 9 #[v, v'] w fun e w' => e = .returned (.bool true) ∧ Below w.heap.size w w' := by
  obtain ⟨q, cap, rfl⟩ := hx.form
  obtain ⟨q', cap', rfl⟩ := hy.form
  have HFX : Hid (FlsAt w (.slice q fs.length cap) fs) := hx
  have HFY : Hid (FlsAt w (.slice q' fs.length cap') fs) := hy
  obtain ⟨L, hL⟩ : ∃ L, fs.length = L := ⟨_, rfl⟩
  have HX : Hid (fs.length = L) := hL
  rw [hL] at hl ⊢
  clear hL hx hy
  go_enter Tryd.func9, Tryd.ntmps9
  go_wp2
  go_loopw [5] (fun k wr => ∃ n : Nat, n ≤ L ∧ k = .int .i64 n ∧ Below w.heap.size w wr) (fun k _ => L - (intOf k).toNat)
  case atStart => exact ⟨0, by omega, rfl, Below.refl _ _⟩
  case round =>
    obtain ⟨n, hn, rfl, hb⟩ := hrel
    by_cases hlt : n < L
    · have hltx : n < fs.length := by rw [HX.out]; exact hlt
      obtain ⟨b, o, hq, hc⟩ := (HFX.out.below hb).cells (fun e => by rw [e] at hltx; simp at hltx)
      obtain ⟨b', o', hq', hc'⟩ := (HFY.out.below hb).cells (fun e => by rw [e] at hltx; simp at hltx)
      subst hq hq'
      obtain ⟨c0, c1, c2, c3, c4, c5⟩ := hc n hltx
      obtain ⟨d0, d1, d2, d3, d4, d5⟩ := hc' n hltx
      generalize fs[n] = f at c0 c1 c2 c3 c4 c5 d0 d1 d2 d3 d4 d5
      have hnq := fun W => neqF f W
      have hgd : ∀ (bo : BinOp) (a b : Operand) (w : World), Sem.run Tryd.prog (eqGuard bo 32 a b (flV f) (flV f)) w = .ok () w := fun bo a b w => guardF bo a b f f w
      unfold flV at hnq hgd
      obtain ⟨fp, fq, fn, flo, fhi, fseq⟩ := f
      dsimp only at c0 c1 c2 c3 c4 c5 d0 d1 d2 d3 d4 d5 hnq hgd
      have hi : (n : Int) < (L : Int) := by omega
      have hi0' : (0 : Int) ≤ (n : Int) := by omega
      clear hc hc' hltx
      go_wp2
      go_quiet (fail)
      have hb2 : Below w.heap.size w (wr.drewN nq) := below_drewN hb nq
      generalize wr.drewN nq = wr2 at hb2 ⊢
      go_wp2
      go_roundw
      case rel => exact ⟨n + 1, by omega, by go_num, hb2⟩
      case measure => simp [intOf]; omega
    · obtain rfl : n = L := by omega
      go_wp2
      go_ret
      exact ⟨rfl, hb⟩

theorem listL_take (fs : List Fl) (n : Nat) (h : n < fs.length) : listL (fs.take (n + 1)) = listL (fs.take n) ++ (fileL fs[n] ++ [10]) := by
  have e := (List.take_append_getElem h).symm
  unfold listL
  rw [e, List.flatMap_append]
  simp only [List.flatMap_cons, List.flatMap_nil, List.append_nil]

theorem listL_len : ∀ fs : List Fl, (∀ f ∈ fs, fileE f = 0 ∧ f.1.size ≤ 100 ∧ f.2.1.size ≤ 100) → (listL fs).length ≤ 300 * fs.length
  | [], _ => by simp [listL]
  | f :: r, h => by
    have ih := listL_len r (fun g hg => h g (List.mem_cons_of_mem _ hg))
    obtain ⟨h0, h1, h2⟩ := h f List.mem_cons_self
    have := fl_len h0
    have e : listL (f :: r) = fileL f ++ 10 :: listL r := by simp [listL]
    rw [e, List.length_append, List.length_cons, List.length_cons]
    omega

end Go.Proofs.YtgffkkijfmoooacDoor
