/-
  The contracts of file.counts, file.Number and file.partOf.
-/
import Derived.Test.YtgffkkijfmoooacDoorFilePure
import Derived.Test.YtgffkkijfmoooacDoorDataRead
import Derived.Maps.AppendAt
import Derived.Deep.Onto
import Derived.Test.YtgffkkijfmoooacDoorGonePure
import Derived.Test.YtgffkkijfmoooacDoorDataLines
import Derived.BigQuiet
import Derived.Test.YtgffkkijfmoooacDoorRefWords
import Derived.Handy
namespace Go.Proofs.YtgffkkijfmoooacDoor
open Go.RowKit Go.Extern.Stop Go.Stop Go.Extern Go.Sort Go.Shelf Go.Lib

/-- What the functions read that ask nothing of a file's text. -/
structure EnvN (w : World) (a : Nat → Addr) : Prop where
  base : EnvS w
  bound : w.cell? ⟨4, 0, none⟩ = some (.iface 117 (.pointer (some (a 1))))
  name : w.cell? ⟨6, 0, none⟩ = some (.iface 117 (.pointer (some (a 4))))

theorem EnvN.below {w w' : World} {a : Nat → Addr} (h : EnvN w a) (hb : Below w.heap.size w w') : EnvN w' a := ⟨h.base.below hb, below_keep hb h.bound, below_keep hb h.name⟩
/-- .. and the error for a kind. -/
structure EnvK (w : World) (a : Nat → Addr) : Prop where
  env : EnvN w a
  kind : w.cell? ⟨3, 0, none⟩ = some (.iface 117 (.pointer (some (a 3))))

theorem EnvK.below {w w' : World} {a : Nat → Addr} (h : EnvK w a) (hb : Below w.heap.size w w') : EnvK w' a := ⟨h.env.below hb, below_keep hb h.kind⟩
/-- What is known of a file, as one value. -/
def flV (f : Fl) : Value := .agg #[.string f.1, .string f.2.1, .int .i64 f.2.2.1, .int .i64 f.2.2.2.1, .int .i64 f.2.2.2.2.1, .int .i64 f.2.2.2.2.2]

theorem counts_any (n : Int) (w : World) : Calls Tryd.prog 27 #[.int .i64 n] w fun e w' => e = .returned (.bool (cntB n)) ∧ w' = w := by
  by_cases h1 : 1 ≤ n
  · by_cases h2 : n ≤ 1073741824
    · have hr : cntB n = true := by simp [cntB, h1, h2]
      rw [hr]
      go_enter Tryd.func27, Tryd.ntmps27
      go_wp2
      go_ret
      exact ⟨rfl, rfl⟩
    · have hr : cntB n = false := by simp [cntB, h2]
      rw [hr]
      go_enter Tryd.func27, Tryd.ntmps27
      go_wp2
      go_ret
      exact ⟨rfl, rfl⟩
  · have hr : cntB n = false := by simp [cntB, h1]
    rw [hr]
    go_enter Tryd.func27, Tryd.ntmps27
    go_wp2
    go_ret
    exact ⟨rfl, rfl⟩

theorem pathR_none {s : List UInt8} (h : pathO s = none) : pathR s = ([], 0, 5) := by unfold pathR; rw [h]
theorem pathR_some {s : List UInt8} {g : Bool} {n : Int} (h : pathO s = some (g, n)) : pathR s = (kindL g, n, 0) := by unfold pathR; rw [h]

theorem bytes_data (l : List UInt8) : (bytesOf l).data.toList = l := by simp [bytesOf]

set_option maxRecDepth 100000 in
set_option maxHeartbeats 4000000 in
theorem fnumber_n (p : ByteArray) (w : World) (a : Nat → Addr) (h : EnvN w a) (hp : p.size ≤ 100000) :
    Calls Tryd.prog 24 #[.string p] w fun e w' => e = .returned (.tuple #[.string (bytesOf (pathR p.data.toList).1), .int .i64 (pathR p.data.toList).2.1, errV a (pathR p.data.toList).2.2]) ∧ Below w.heap.size w w' := by
  obtain ⟨m, hm⟩ := h.base.maxl
  have hcut := Tryd.strings_Cut p ⟨#[47]⟩ m w (by omega) hm
  have hpc := path_cut p.data.toList
  have hWs : (Lib.cut p.data.toList [47]).2.1.length ≤ p.size := by
    rw [← size_list]
    rcases cut_cases 47 p.data.toList with ⟨_, hc⟩ | ⟨x, y, hxy, _, hc⟩
    · rw [hc]; simp
    · rw [hc, hxy]; simp; omega
  have eK : (⟨(Lib.cut p.data.toList [47]).1.toArray⟩ : ByteArray) = bytesOf (Lib.cut p.data.toList [47]).1 := rfl
  have eW : (⟨(Lib.cut p.data.toList [47]).2.1.toArray⟩ : ByteArray) = bytesOf (Lib.cut p.data.toList [47]).2.1 := rfl
  dsimp only at hcut
  rw [eK, eW] at hcut
  clear eK eW hm
  generalize Lib.cut p.data.toList [47] = C at hcut hpc hWs
  obtain ⟨kL, wL, found⟩ := C
  dsimp only at hcut hpc hWs
  have hnum := fun W (hW : EnvS W) => number_s (bytesOf wL) W hW (by rw [bytes_len]; unfold maxLen; omega)
  rw [bytes_data] at hnum
  have hKd : (bytesOf kL).data.toList = kL := bytes_data kL
  generalize hkB : bytesOf kL = kB at hcut hKd
  have HKB : Hid (bytesOf kL = kB) := hkB
  clear hkB
  generalize bytesOf wL = wB at hcut hnum
  have HPC : Hid (pathO p.data.toList = if kL = kData then (pathN wL).map fun n => (false, n) else if kL = kGone then (pathN wL).map fun n => (true, n) else none) := hpc
  clear hpc hWs
  go_enter Tryd.func24, Tryd.ntmps24
  go_wp2_with fail
  refine hcut.mono ?_
  rintro e w1 ⟨rfl, q, rfl⟩
  clear hcut
  have hB1 : Below w.heap.size w (w.drewN q) := below_drewN (Below.refl _ _) q
  have hn1 := hnum _ (h.below hB1).base
  clear hnum
  have bad : ∀ (b : Bool), pathO p.data.toList = none → ∀ W, Below w.heap.size w W → (Ending.returned (.tuple #[.string ⟨#[]⟩, .int .i64 0, .iface 117 (.pointer (some (a 4)))]) = Ending.returned (.tuple #[.string (bytesOf (pathR p.data.toList).1), .int .i64 (pathR p.data.toList).2.1, errV a (pathR p.data.toList).2.2]) ∧ Below w.heap.size w W) := fun _ hp0 W hW => by
    rw [pathR_none hp0]; exact ⟨rfl, hW⟩
  have BAD : Hid (∀ (b : Bool), pathO p.data.toList = none → ∀ W, Below w.heap.size w W → (Ending.returned (.tuple #[.string ⟨#[]⟩, .int .i64 0, .iface 117 (.pointer (some (a 4)))]) = Ending.returned (.tuple #[.string (bytesOf (pathR p.data.toList).1), .int .i64 (pathR p.data.toList).2.1, errV a (pathR p.data.toList).2.2]) ∧ Below w.heap.size w W)) := bad
  clear bad
  by_cases hk : ∃ g, kL = kindL g
  · obtain ⟨g, hg⟩ := hk
    unfold numR at hn1
    have HP : Hid (pathO p.data.toList = (pathN wL).map fun n => (g, n)) := by
      show _ = _
      rw [HPC.out]
      cases g
      · rw [if_pos (show kL = kData from hg)]
      · rw [if_neg (by rw [hg]; decide), if_pos (show kL = kGone from hg)]
    cases hn : numO wL with
    | none =>
      rw [hn] at hn1
      dsimp only at hn1
      have HN : Hid (pathO p.data.toList = none) := by
        show _ = _
        rw [HP.out]; unfold pathN; rw [hn]; rfl
      clear hn
      go_wp2_with fail
      refine hn1.mono ?_
      rintro e w2 ⟨rfl, hb2⟩
      clear hn1
      have hB2 : Below w.heap.size w w2 := hB1.trans (hb2.mono hB1.size)
      have et := (h.below hB2).name
      cases g
      · have d1 := eqB_of (hKd.trans hg)
        simp only [kindL, Bool.false_eq_true, if_false, kData] at d1
        clear hg hKd
        go_wp2
        go_region
        go_wp2
        go_ret3
        exact BAD.out true HN.out _ hB2.drew
      · have d1 := neB_of (s := kB) (l := [100, 97, 116, 97]) (by rw [hKd, hg]; decide)
        have d2 := eqB_of (hKd.trans hg)
        simp only [kindL, if_true, kGone] at d2
        clear hg hKd
        go_wp2
        go_region
        go_wp2
        go_ret3
        exact BAD.out true HN.out _ hB2.drew
    | some n =>
      rw [hn] at hn1
      dsimp only at hn1
      have HN : Hid (numO wL = some n) := hn
      clear hn
      go_wp2_with fail
      refine hn1.mono ?_
      rintro e w2 ⟨rfl, hb2⟩
      clear hn1
      have hB2 : Below w.heap.size w w2 := hB1.trans (hb2.mono hB1.size)
      have et := (h.below hB2).name
      have hcn := counts_any n w2
      cases hc : cntB n with
      | false =>
        rw [hc] at hcn
        have HO : Hid (pathO p.data.toList = none) := by
          show _ = _
          rw [HP.out]; unfold pathN; rw [HN.out]; simp [hc]
        clear hc
        cases g
        · have d1 := eqB_of (hKd.trans hg)
          simp only [kindL, Bool.false_eq_true, if_false, kData] at d1
          clear hg hKd
          go_wp2_with (go_at_call 27; refine hcn.mono ?_; rintro e w' ⟨rfl, rfl⟩)
          go_region
          go_wp2
          go_ret3
          exact BAD.out true HO.out _ hB2.drew
        · have d1 := neB_of (s := kB) (l := [100, 97, 116, 97]) (by rw [hKd, hg]; decide)
          have d2 := eqB_of (hKd.trans hg)
          simp only [kindL, if_true, kGone] at d2
          clear hg hKd
          go_wp2_with (go_at_call 27; refine hcn.mono ?_; rintro e w' ⟨rfl, rfl⟩)
          go_region
          go_wp2
          go_ret3
          exact BAD.out true HO.out _ hB2.drew
      | true =>
        rw [hc] at hcn
        have HO : Hid (pathO p.data.toList = some (g, n)) := by
          show _ = _
          rw [HP.out]; unfold pathN; rw [HN.out]; simp [hc]
        have HKG : Hid (kB = bytesOf (kindL g)) := by
          show _ = _
          rw [← HKB.out, hg]
        clear hc
        cases g
        · have d1 := eqB_of (hKd.trans hg)
          simp only [kindL, Bool.false_eq_true, if_false, kData] at d1
          clear hg hKd
          go_wp2_with (go_at_call 27; refine hcn.mono ?_; rintro e w' ⟨rfl, rfl⟩)
          go_ret3
          exact ⟨by rw [pathR_some HO.out, HKG.out]; rfl, hB2⟩
        · have d1 := neB_of (s := kB) (l := [100, 97, 116, 97]) (by rw [hKd, hg]; decide)
          have d2 := eqB_of (hKd.trans hg)
          simp only [kindL, if_true, kGone] at d2
          clear hg hKd
          go_wp2_with (go_at_call 27; refine hcn.mono ?_; rintro e w' ⟨rfl, rfl⟩)
          go_ret3
          exact ⟨by rw [pathR_some HO.out, HKG.out]; rfl, hB2⟩
  · have hk1 : kL ≠ kData := fun e => hk ⟨false, e⟩
    have hk2 : kL ≠ kGone := fun e => hk ⟨true, e⟩
    have HN : Hid (pathO p.data.toList = none) := by
      show _ = _
      rw [HPC.out, if_neg hk1, if_neg hk2]
    have d1 := neB_of (s := kB) (l := [100, 97, 116, 97]) (by rw [hKd]; exact hk1)
    have d2 := neB_of (s := kB) (l := [103, 111, 110, 101]) (by rw [hKd]; exact hk2)
    clear hk hk1 hk2 hKd
    generalize numR wL = R at hn1
    obtain ⟨nv, bv⟩ := R
    dsimp only at hn1
    go_wp2_with fail
    refine hn1.mono ?_
    rintro e w2 ⟨rfl, hb2⟩
    clear hn1
    have hB2 : Below w.heap.size w w2 := hB1.trans (hb2.mono hB1.size)
    have et := (h.below hB2).name
    go_wp2
    go_region
    go_wp2
    go_ret3
    exact BAD.out true HN.out _ hB2.drew

set_option maxRecDepth 100000 in
set_option maxHeartbeats 2000000 in
theorem partOf_any (g : Bool) (q : ByteArray) (w : World) (hq : q.size ≤ maxLen) :
    Calls Tryd.prog 25 #[.string (bytesOf (kindL g)), .string q] w fun e w' => e = .returned (.bool (partB g q.data.toList)) ∧ w' = w := by
  cases g
  · have hw : Calls Tryd.prog 37 #[.string q, .int .i64 12] w fun e w' => e = .returned (.bool (partB false q.data.toList)) ∧ w' = w := word_any q 12 w hq (by omega)
    generalize partB false q.data.toList = r at hw ⊢
    have d1 := neB_of (s := bytesOf (kindL false)) (l := [103, 111, 110, 101]) (by rw [bytes_data]; decide)
    generalize bytesOf (kindL false) = kB at d1
    go_enter Tryd.func25, Tryd.ntmps25
    go_wp2_with (go_at_call 37; refine hw.mono ?_; rintro e w' ⟨rfl, rfl⟩)
    go_ret
    exact ⟨rfl, rfl⟩
  · have d1 := eqB_of (s := bytesOf (kindL true)) (l := [103, 111, 110, 101]) (by rw [bytes_data]; rfl)
    generalize bytesOf (kindL true) = kB at d1
    by_cases h : q.data.toList = [45]
    · have hr : partB true q.data.toList = true := by simp [partB, h]
      rw [hr]
      have d2 := eqB_of h
      clear hr h
      go_enter Tryd.func25, Tryd.ntmps25
      go_wp2
      go_ret
      exact ⟨rfl, rfl⟩
    · have hr : partB true q.data.toList = false := by simp [partB, h]
      rw [hr]
      have d2 := neB_of h
      clear hr h
      go_enter Tryd.func25, Tryd.ntmps25
      go_wp2
      go_ret
      exact ⟨rfl, rfl⟩

end Go.Proofs.YtgffkkijfmoooacDoor
