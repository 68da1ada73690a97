/-
  The contract of file.Check.
-/
import Derived.Test.YtpkoefpdpoikkaaGreatDoorRefNums
import Derived.Handy
namespace Go.Proofs.YtpkoefpdpoikkaaGreatDoor
open Go.RowKit Go.Extern.Stop Go.Stop Go.Extern Go.Sort Go.Shelf Go.Lib

structure EnvN (w : World) (a : Nat → Addr) : Prop where
  base : EnvS w
  bound : w.cell? ⟨1, 0, none⟩ = some (.iface 289 (.pointer (some (a 1))))
  name : w.cell? ⟨3, 0, none⟩ = some (.iface 289 (.pointer (some (a 4))))

theorem EnvN.below {w w' : World} {a : Nat → Addr} (h : EnvN w a) (hb : Below w.heap.size w w') : EnvN w' a := ⟨h.base.below hb, below_keep hb h.bound, below_keep hb h.name⟩
theorem Env.n {w : World} {a : Nat → Addr} (h : Env w a) : EnvN w a := ⟨h.s, h.bound, h.name⟩

structure EnvK (w : World) (a : Nat → Addr) : Prop where
  env : EnvN w a
  kind : w.cell? ⟨0, 0, none⟩ = some (.iface 289 (.pointer (some (a 3))))

theorem EnvK.below {w w' : World} {a : Nat → Addr} (h : EnvK w a) (hb : Below w.heap.size w w') : EnvK w' a := ⟨h.env.below hb, below_keep hb h.kind⟩
structure EnvR (w : World) (a : Nat → Addr) : Prop where
  file : EnvK w a
  text : w.cell? ⟨2, 0, none⟩ = some (.iface 289 (.pointer (some (a 0))))

theorem EnvR.below {w w' : World} {a : Nat → Addr} (h : EnvR w a) (hb : Below w.heap.size w w') : EnvR w' a := ⟨h.file.below hb, below_keep hb h.text⟩
theorem EnvR.weak {w : World} {a : Nat → Addr} (h : EnvR w a) : Env0 w a := ⟨h.text, h.file.env.bound, h.file.env.base.maxl, h.file.env.base.syn, h.file.env.base.tab⟩
def flV (f : Fl) : Value := .agg #[.string f.1, .string f.2.1, .int .i64 f.2.2.1, .int .i64 f.2.2.2.1, .int .i64 f.2.2.2.2.1, .int .i64 f.2.2.2.2.2]

theorem counts_any (n : Int) (w : World) : Calls Tryz.prog 60 #[.int .i64 n] w fun e w' => e = .returned (.bool (cntB n)) ∧ w' = w := by
  by_cases h1 : 1 ≤ n
  · by_cases h2 : n ≤ 1073741824
    · have hr : cntB n = true := by simp [cntB, h1, h2]
      rw [hr]
      go_enter Tryz.func60, Tryz.ntmps60
      go_wp2
      go_ret
      exact ⟨rfl, rfl⟩
    · have hr : cntB n = false := by simp [cntB, h2]
      rw [hr]
      go_enter Tryz.func60, Tryz.ntmps60
      go_wp2
      go_ret
      exact ⟨rfl, rfl⟩
  · have hr : cntB n = false := by simp [cntB, h1]
    rw [hr]
    go_enter Tryz.func60, Tryz.ntmps60
    go_wp2
    go_ret
    exact ⟨rfl, rfl⟩

theorem pathR_none {s : List UInt8} (h : pathO s = none) : pathR s = ([], 0, 5) := by unfold pathR; rw [h]
theorem pathR_some {s : List UInt8} {g : Bool} {n : Int} (h : pathO s = some (g, n)) : pathR s = (kindL g, n, 0) := by unfold pathR; rw [h]

theorem bytes_data (l : List UInt8) : (bytesOf l).data.toList = l := by simp [bytesOf]

set_option maxRecDepth 100000 in
set_option maxHeartbeats 4000000 in
theorem fnumber_n (p : ByteArray) (w : World) (a : Nat → Addr) (h : EnvN w a) (hp : p.size ≤ 100000) :
    Calls Tryz.prog 15 #[.string p] w fun e w' => e = .returned (.tuple #[.string (bytesOf (pathR p.data.toList).1), .int .i64 (pathR p.data.toList).2.1, errV a (pathR p.data.toList).2.2]) ∧ Below w.heap.size w w' := by
  obtain ⟨m, hm⟩ := h.base.maxl
  have hcut := Tryz.strings_Cut p ⟨#[47]⟩ m w (by omega) hm
  have hpc := path_cut p.data.toList
  have hWs : (Lib.cut p.data.toList [47]).2.1.length ≤ p.size := by
    rw [← size_list]
    rcases cut_cases 47 p.data.toList with ⟨_, hc⟩ | ⟨x, y, hxy, _, hc⟩
    · rw [hc]; simp
    · rw [hc, hxy]; simp; omega
  have eK : (⟨(Lib.cut p.data.toList [47]).1.toArray⟩ : ByteArray) = bytesOf (Lib.cut p.data.toList [47]).1 := rfl
  have eW : (⟨(Lib.cut p.data.toList [47]).2.1.toArray⟩ : ByteArray) = bytesOf (Lib.cut p.data.toList [47]).2.1 := rfl
  dsimp only at hcut
  rw [eK, eW] at hcut
  clear eK eW hm
  generalize Lib.cut p.data.toList [47] = C at hcut hpc hWs
  obtain ⟨kL, wL, found⟩ := C
  dsimp only at hcut hpc hWs
  have hnum := fun W (hW : EnvS W) => number_s (bytesOf wL) W hW (by rw [bytes_len]; unfold maxLen; omega)
  rw [bytes_data] at hnum
  have hKd : (bytesOf kL).data.toList = kL := bytes_data kL
  generalize hkB : bytesOf kL = kB at hcut hKd
  have HKB : Hid (bytesOf kL = kB) := hkB
  clear hkB
  generalize bytesOf wL = wB at hcut hnum
  have HPC : Hid (pathO p.data.toList = if kL = kData then (pathN wL).map fun n => (false, n) else if kL = kGone then (pathN wL).map fun n => (true, n) else none) := hpc
  clear hpc hWs
  go_enter Tryz.func15, Tryz.ntmps15
  go_wp2_with fail
  refine hcut.mono ?_
  rintro e w1 ⟨rfl, q, rfl⟩
  clear hcut
  have hB1 : Below w.heap.size w (w.drewN q) := below_drewN (Below.refl _ _) q
  have hn1 := hnum _ (h.below hB1).base
  clear hnum
  have bad : ∀ (b : Bool), pathO p.data.toList = none → ∀ W, Below w.heap.size w W → (Ending.returned (.tuple #[.string ⟨#[]⟩, .int .i64 0, .iface 289 (.pointer (some (a 4)))]) = Ending.returned (.tuple #[.string (bytesOf (pathR p.data.toList).1), .int .i64 (pathR p.data.toList).2.1, errV a (pathR p.data.toList).2.2]) ∧ Below w.heap.size w W) := fun _ hp0 W hW => by
    rw [pathR_none hp0]; exact ⟨rfl, hW⟩
  have BAD : Hid (∀ (b : Bool), pathO p.data.toList = none → ∀ W, Below w.heap.size w W → (Ending.returned (.tuple #[.string ⟨#[]⟩, .int .i64 0, .iface 289 (.pointer (some (a 4)))]) = Ending.returned (.tuple #[.string (bytesOf (pathR p.data.toList).1), .int .i64 (pathR p.data.toList).2.1, errV a (pathR p.data.toList).2.2]) ∧ Below w.heap.size w W)) := bad
  clear bad
  by_cases hk : ∃ g, kL = kindL g
  · obtain ⟨g, hg⟩ := hk
    unfold numR at hn1
    have HP : Hid (pathO p.data.toList = (pathN wL).map fun n => (g, n)) := by
      show _ = _
      rw [HPC.out]
      cases g
      · rw [if_pos (show kL = kData from hg)]
      · rw [if_neg (by rw [hg]; decide), if_pos (show kL = kGone from hg)]
    cases hn : numO wL with
    | none =>
      rw [hn] at hn1
      dsimp only at hn1
      have HN : Hid (pathO p.data.toList = none) := by
        show _ = _
        rw [HP.out]; unfold pathN; rw [hn]; rfl
      clear hn
      go_wp2_with fail
      refine hn1.mono ?_
      rintro e w2 ⟨rfl, hb2⟩
      clear hn1
      have hB2 : Below w.heap.size w w2 := hB1.trans (hb2.mono hB1.size)
      have et := (h.below hB2).name
      cases g
      · have d1 := eqB_of (hKd.trans hg)
        simp only [kindL, Bool.false_eq_true, if_false, kData] at d1
        clear hg hKd
        go_wp2
        go_region
        go_wp2
        go_ret3
        exact BAD.out true HN.out _ hB2.drew
      · have d1 := neB_of (s := kB) (l := [100, 97, 116, 97]) (by rw [hKd, hg]; decide)
        have d2 := eqB_of (hKd.trans hg)
        simp only [kindL, if_true, kGone] at d2
        clear hg hKd
        go_wp2
        go_region
        go_wp2
        go_ret3
        exact BAD.out true HN.out _ hB2.drew
    | some n =>
      rw [hn] at hn1
      dsimp only at hn1
      have HN : Hid (numO wL = some n) := hn
      clear hn
      go_wp2_with fail
      refine hn1.mono ?_
      rintro e w2 ⟨rfl, hb2⟩
      clear hn1
      have hB2 : Below w.heap.size w w2 := hB1.trans (hb2.mono hB1.size)
      have et := (h.below hB2).name
      have hcn := counts_any n w2
      cases hc : cntB n with
      | false =>
        rw [hc] at hcn
        have HO : Hid (pathO p.data.toList = none) := by
          show _ = _
          rw [HP.out]; unfold pathN; rw [HN.out]; simp [hc]
        clear hc
        cases g
        · have d1 := eqB_of (hKd.trans hg)
          simp only [kindL, Bool.false_eq_true, if_false, kData] at d1
          clear hg hKd
          go_wp2_with (go_at_call 60; refine hcn.mono ?_; rintro e w' ⟨rfl, rfl⟩)
          go_region
          go_wp2
          go_ret3
          exact BAD.out true HO.out _ hB2.drew
        · have d1 := neB_of (s := kB) (l := [100, 97, 116, 97]) (by rw [hKd, hg]; decide)
          have d2 := eqB_of (hKd.trans hg)
          simp only [kindL, if_true, kGone] at d2
          clear hg hKd
          go_wp2_with (go_at_call 60; refine hcn.mono ?_; rintro e w' ⟨rfl, rfl⟩)
          go_region
          go_wp2
          go_ret3
          exact BAD.out true HO.out _ hB2.drew
      | true =>
        rw [hc] at hcn
        have HO : Hid (pathO p.data.toList = some (g, n)) := by
          show _ = _
          rw [HP.out]; unfold pathN; rw [HN.out]; simp [hc]
        have HKG : Hid (kB = bytesOf (kindL g)) := by
          show _ = _
          rw [← HKB.out, hg]
        clear hc
        cases g
        · have d1 := eqB_of (hKd.trans hg)
          simp only [kindL, Bool.false_eq_true, if_false, kData] at d1
          clear hg hKd
          go_wp2_with (go_at_call 60; refine hcn.mono ?_; rintro e w' ⟨rfl, rfl⟩)
          go_ret3
          exact ⟨by rw [pathR_some HO.out, HKG.out]; rfl, hB2⟩
        · have d1 := neB_of (s := kB) (l := [100, 97, 116, 97]) (by rw [hKd, hg]; decide)
          have d2 := eqB_of (hKd.trans hg)
          simp only [kindL, if_true, kGone] at d2
          clear hg hKd
          go_wp2_with (go_at_call 60; refine hcn.mono ?_; rintro e w' ⟨rfl, rfl⟩)
          go_ret3
          exact ⟨by rw [pathR_some HO.out, HKG.out]; rfl, hB2⟩
  · have hk1 : kL ≠ kData := fun e => hk ⟨false, e⟩
    have hk2 : kL ≠ kGone := fun e => hk ⟨true, e⟩
    have HN : Hid (pathO p.data.toList = none) := by
      show _ = _
      rw [HPC.out, if_neg hk1, if_neg hk2]
    have d1 := neB_of (s := kB) (l := [100, 97, 116, 97]) (by rw [hKd]; exact hk1)
    have d2 := neB_of (s := kB) (l := [103, 111, 110, 101]) (by rw [hKd]; exact hk2)
    clear hk hk1 hk2 hKd
    generalize numR wL = R at hn1
    obtain ⟨nv, bv⟩ := R
    dsimp only at hn1
    go_wp2_with fail
    refine hn1.mono ?_
    rintro e w2 ⟨rfl, hb2⟩
    clear hn1
    have hB2 : Below w.heap.size w w2 := hB1.trans (hb2.mono hB1.size)
    have et := (h.below hB2).name
    go_wp2
    go_region
    go_wp2
    go_ret3
    exact BAD.out true HN.out _ hB2.drew

set_option maxRecDepth 100000 in
set_option maxHeartbeats 2000000 in
theorem partOf_any (g : Bool) (q : ByteArray) (w : World) (hq : q.size ≤ maxLen) :
    Calls Tryz.prog 58 #[.string (bytesOf (kindL g)), .string q] w fun e w' => e = .returned (.bool (partB g q.data.toList)) ∧ w' = w := by
  cases g
  · have hw : Calls Tryz.prog 115 #[.string q, .int .i64 12] w fun e w' => e = .returned (.bool (partB false q.data.toList)) ∧ w' = w := word_any q 12 w hq (by omega)
    generalize partB false q.data.toList = r at hw ⊢
    have d1 := neB_of (s := bytesOf (kindL false)) (l := [103, 111, 110, 101]) (by rw [bytes_data]; decide)
    generalize bytesOf (kindL false) = kB at d1
    go_enter Tryz.func58, Tryz.ntmps58
    go_wp2_with (go_at_call 115; refine hw.mono ?_; rintro e w' ⟨rfl, rfl⟩)
    go_ret
    exact ⟨rfl, rfl⟩
  · have d1 := eqB_of (s := bytesOf (kindL true)) (l := [103, 111, 110, 101]) (by rw [bytes_data]; rfl)
    generalize bytesOf (kindL true) = kB at d1
    by_cases h : q.data.toList = [45]
    · have hr : partB true q.data.toList = true := by simp [partB, h]
      rw [hr]
      have d2 := eqB_of h
      clear hr h
      go_enter Tryz.func58, Tryz.ntmps58
      go_wp2
      go_ret
      exact ⟨rfl, rfl⟩
    · have hr : partB true q.data.toList = false := by simp [partB, h]
      rw [hr]
      have d2 := neB_of h
      clear hr h
      go_enter Tryz.func58, Tryz.ntmps58
      go_wp2
      go_ret
      exact ⟨rfl, rfl⟩

end Go.Proofs.YtpkoefpdpoikkaaGreatDoor
namespace Go.Proofs.YtpkoefpdpoikkaaGreatDoor
open Go.RowKit Go.Extern.Stop Go.Stop Go.Extern Go.Sort Go.Shelf Go.Lib

def FlAt (W : World) (b : Nat) (f : Fl) : Prop := W.heap[b]? = some (.cells #[.string f.1, .string f.2.1, .int .i64 f.2.2.1, .int .i64 f.2.2.2.1, .int .i64 f.2.2.2.2.1, .int .i64 f.2.2.2.2.2] 23 (0, 0))

theorem FlAt.lt {W : World} {b : Nat} {f : Fl} (h : FlAt W b f) : b < W.heap.size := lt_of_block h
theorem FlAt.below {W W' : World} {b : Nat} {f : Fl} (h : FlAt W b f) (hb : Below W.heap.size W W') : FlAt W' b f := (hb.block b h.lt).trans h
theorem FlAt.cells {W : World} {b : Nat} {f : Fl} (h : FlAt W b f) : W.cell? ⟨b, 0, none⟩ = some (.string f.1) ∧ W.cell? ⟨b, 1, none⟩ = some (.string f.2.1) ∧ W.cell? ⟨b, 2, none⟩ = some (.int .i64 f.2.2.1) ∧ W.cell? ⟨b, 3, none⟩ = some (.int .i64 f.2.2.2.1) ∧ W.cell? ⟨b, 4, none⟩ = some (.int .i64 f.2.2.2.2.1) ∧ W.cell? ⟨b, 5, none⟩ = some (.int .i64 f.2.2.2.2.2) ∧ ∀ o, W.frozen? ⟨b, o, none⟩ = false := by
  unfold FlAt at h
  exact ⟨by rw [cell_of_row _ _ _ _ _ _ h]; rfl, by rw [cell_of_row _ _ _ _ _ _ h]; rfl, by rw [cell_of_row _ _ _ _ _ _ h]; rfl, by rw [cell_of_row _ _ _ _ _ _ h]; rfl, by rw [cell_of_row _ _ _ _ _ _ h]; rfl, by rw [cell_of_row _ _ _ _ _ _ h]; rfl, fun o => frozen_of_row _ _ _ _ _ h⟩
theorem FlAt.new (w : World) (f : Fl) : FlAt (w.alloc (.cells #[.string f.1, .string f.2.1, .int .i64 f.2.2.1, .int .i64 f.2.2.2.1, .int .i64 f.2.2.2.2.1, .int .i64 f.2.2.2.2.2] 23)) w.heap.size f := heap_alloc_new _ _

set_option maxRecDepth 100000 in
set_option maxHeartbeats 4000000 in
theorem fcheck_any (f : Fl) (w : World) (a : Nat → Addr) (h : EnvK w a) (h1 : f.1.size ≤ 100000) (h2 : f.2.1.size ≤ 100000) :
    Calls Tryz.prog 12 #[flV f] w fun e w' => e = .returned (errV a (fileE f)) ∧ Below w.heap.size w w' := by
  have hal : Below w.heap.size w (w.alloc (.cells #[.string f.1, .string f.2.1, .int .i64 f.2.2.1, .int .i64 f.2.2.2.1, .int .i64 f.2.2.2.2.1, .int .i64 f.2.2.2.2.2] 23)) := (Below.refl _ _).alloc (Nat.le_refl _) _
  have hfl := FlAt.new w f
  obtain ⟨p, q, n, lo, hi, seq⟩ := f
  dsimp only at h1 h2 hal
  have hnm := fnumber_n p _ a (h.below hal).env h1
  unfold flV
  dsimp only
  generalize hE : fileE (p, q, n, lo, hi, seq) = E
  have HE : Hid (fileE (p, q, n, lo, hi, seq) = E) := hE
  clear hE
  go_enter Tryz.func12, Tryz.ntmps12
  go_wp2_with fail
  generalize w.alloc (.cells #[.string p, .string q, .int .i64 n, .int .i64 lo, .int .i64 hi, .int .i64 seq] 23) = WA at hal hfl hnm ⊢
  refine hnm.mono ?_
  rintro e w1 ⟨rfl, hb1⟩
  clear hnm
  have hB1 : Below w.heap.size w w1 := hal.trans (hb1.mono hal.size)
  have hfl1 := hfl.below hb1
  obtain ⟨c0, c1, c2, c3, c4, c5, cf⟩ := hfl1.cells
  dsimp only at c0 c1 c2 c3 c4 c5
  clear hfl hfl1
  cases hp : pathO p.data.toList with
  | none =>
    have hEE : E = 5 := by rw [← HE.out]; unfold fileE; dsimp only; rw [hp]
    subst hEE
    rw [pathR_none hp]
    simp only [errV]
    clear hp c0 c1 c2 c3 c4 c5 cf
    go_wp2
    go_ret
    exact ⟨rfl, hB1⟩
  | some gn =>
    obtain ⟨g, k⟩ := gn
    rw [pathR_some hp]
    have HEE : Hid (E = if partB g q.data.toList then (if bndB (p, q, n, lo, hi, seq) then 0 else 2) else 4) := by
      show _ = _
      rw [← HE.out]; unfold fileE; dsimp only; rw [hp]
    simp only [errV]
    clear hp
    have hpo := partOf_any g q w1 (by unfold maxLen; omega)
    go_wp2_with fail
    refine hpo.mono ?_
    rintro e w2 ⟨rfl, hw2⟩
    rw [hw2]
    clear hpo hw2
    have ek := (h.below hB1).kind
    have eb := (h.below hB1).env.bound
    cases hpb : partB g q.data.toList with
    | false =>
      have hEE := HEE.out
      rw [hpb] at hEE
      simp only [Bool.false_eq_true, if_false] at hEE
      subst hEE
      clear hpb c0 c1 c2 c3 c4 c5 cf
      go_wp2
      go_ret
      exact ⟨rfl, hB1⟩
    | true =>
      have hEE := HEE.out
      rw [hpb, if_pos rfl] at hEE
      have HB : Hid (E = if bndB (p, q, n, lo, hi, seq) then 0 else 2) := hEE
      clear hEE hpb
      have bad : bndB (p, q, n, lo, hi, seq) = false → E = 2 := fun hb => by rw [HB.out, hb]; rfl
      have BAD : Hid (bndB (p, q, n, lo, hi, seq) = false → E = 2) := bad
      clear bad
      by_cases g1 : 1 ≤ n
      · by_cases g2 : n ≤ 40
        · have hL := fun W => inBounds_any lo W
          have hH := fun W => inBounds_any hi W
          cases g3 : inNum lo with
          | false =>
            obtain rfl := BAD.out (by simp [bndB, g3])
            rw [g3] at hL
            clear g3
            go_wp2_with (go_at_call 59; refine (hL _).mono ?_; rintro e w' ⟨rfl, rfl⟩)
            go_ret
            exact ⟨rfl, hB1⟩
          | true =>
            rw [g3] at hL
            cases g4 : inNum hi with
            | false =>
              obtain rfl := BAD.out (by simp [bndB, g4])
              rw [g4] at hH
              clear g3 g4
              go_wp2_with (first | (go_at_call 59; refine (hL _).mono ?_; rintro e w' ⟨rfl, rfl⟩) | (go_at_call 59; refine (hH _).mono ?_; rintro e w' ⟨rfl, rfl⟩))
              go_ret
              exact ⟨rfl, hB1⟩
            | true =>
              rw [g4] at hH
              by_cases g5 : lo ≤ hi
              · have g5' : ¬ hi < lo := by omega
                have hC := fun W => counts_any seq W
                cases g6 : cntB seq with
                | false =>
                  obtain rfl := BAD.out (by simp [bndB, g6])
                  rw [g6] at hC
                  clear g3 g4 g6
                  go_wp2_with (first | (go_at_call 59; refine (hL _).mono ?_; rintro e w' ⟨rfl, rfl⟩) | (go_at_call 59; refine (hH _).mono ?_; rintro e w' ⟨rfl, rfl⟩) | (go_at_call 60; refine (hC _).mono ?_; rintro e w' ⟨rfl, rfl⟩))
                  go_ret
                  exact ⟨rfl, hB1⟩
                | true =>
                  have hgood : E = 0 := by
                    rw [HB.out, if_pos]
                    simp [bndB, g1, g2, g3, g4, g5, g6]
                  subst hgood
                  rw [g6] at hC
                  clear g3 g4 g6
                  go_wp2_with (first | (go_at_call 59; refine (hL _).mono ?_; rintro e w' ⟨rfl, rfl⟩) | (go_at_call 59; refine (hH _).mono ?_; rintro e w' ⟨rfl, rfl⟩) | (go_at_call 60; refine (hC _).mono ?_; rintro e w' ⟨rfl, rfl⟩))
                  go_ret
                  exact ⟨rfl, hB1⟩
              · obtain rfl := BAD.out (by simp [bndB, g5])
                have g5' : hi < lo := by omega
                clear g3 g4
                go_wp2_with (first | (go_at_call 59; refine (hL _).mono ?_; rintro e w' ⟨rfl, rfl⟩) | (go_at_call 59; refine (hH _).mono ?_; rintro e w' ⟨rfl, rfl⟩))
                go_ret
                exact ⟨rfl, hB1⟩
        · obtain rfl := BAD.out (by simp [bndB, g2])
          have g2' : 40 < n := by omega
          go_wp2
          go_ret
          exact ⟨rfl, hB1⟩
      · obtain rfl := BAD.out (by simp [bndB, g1])
        have g1' : n < 1 := by omega
        go_wp2
        go_ret
        exact ⟨rfl, hB1⟩
end Go.Proofs.YtpkoefpdpoikkaaGreatDoor
