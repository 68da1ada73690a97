/-
  The contract of file.Check.
-/
import Derived.Test.YtpkoefpdpoikkaaGreatDoorPartRead
import Derived.Deep.RegionHeld3
import Derived.Lib.JoinLaws
import Derived.Maps.AppendAt
import Derived.Deep.Onto
import Derived.Test.YtpkoefpdpoikkaaGreatDoorSnapPure
import Derived.Handy
namespace Go.Proofs.YtpkoefpdpoikkaaGreatDoor
open Go.RowKit Go.Extern.Stop Go.Stop Go.Extern Go.Sort Go.Shelf Go.Lib

theorem holds_zero0 (w : World) (T : TypeId) (nd : Nat) (hs : nd ≤ 24) : Holds (fun (b : UInt8) => Value.int .u8 (b.toNat : Int)) (w.alloc (.cells Lib.zeros24 T)) w.heap.size 0 (Array.replicate nd (0 : UInt8)) := fun j hj => by
  have hj' : j < nd := by simpa using hj
  refine ⟨?_, World.frozen?_alloc_new _ _ _ _⟩
  rw [World.cell?_alloc_new, Lib.zeros24_at _ (by omega), getElem!_pos _ j hj]
  simp

theorem fin_pos0 (w : World) (o : Obj) (dk : Array UInt8) (k : Nat) : ∃ os, (putRow (fun (b : UInt8) => Value.int .u8 (b.toNat : Int)) (w.alloc o) w.heap.size 0 dk).drewN k = grow (w.drewN k) os := by
  rw [alloc_eq_grow]
  obtain ⟨os', _, e⟩ := putRow_grow_new (fun (b : UInt8) => Value.int .u8 (b.toNat : Int)) w #[o] w.heap.size 0 dk (Nat.le_refl _)
  exact ⟨os', by rw [e]; rfl⟩

theorem small_any (i : Nat) (hi : i < 100) (w : World) : Calls Tryz.prog 182 #[.int .i64 i] w fun e w' => e = .returned (.string ⟨(Lib.decDigits i).toArray⟩) ∧ w' = w :=
  Any.internal_strconv_small { Tryz.laysM171 with } i hi w

theorem numDigits_any (u : Nat) (h1 : 1 ≤ u) (h2 : u < 18446744073709551616) (w : World) (htab : Lib.TabIs Tryz.prog w "internal/strconv.uint64pow10" .u64 Lib.pow10Tab) :
    Calls Tryz.prog 183 #[.int .u64 u] w fun e w' => e = .returned (.int .i64 (Lib.nDigits u)) ∧ w' = w :=
  Any.internal_strconv_numDigits { Tryz.laysM171 with } u h1 h2 w htab

theorem base10_any (blk off cap : Nat) (u : Nat) (d : Array UInt8) (w : World) (hH : Holds (fun (b : UInt8) => Value.int .u8 (b.toNat : Int)) w blk off d) (hu : u < 10 ^ d.size) (hu64 : u < 18446744073709551616) (hsz : d.size < 4611686018427387904) :
    Calls Tryz.prog 184 #[.slice (some ⟨blk, off, none⟩) d.size cap, .int .u64 u] w fun e w' =>
      e = .returned (.tuple #[]) ∧ ∃ (n v' : Nat) (dk : Array UInt8), w' = (putRow (fun (b : UInt8) => Value.int .u8 (b.toNat : Int)) w blk off dk).drewN n ∧ FmtInv d.size u 0 v' dk :=
  Any.internal_strconv_formatBase10 { Tryz.laysM171 with } blk off cap u d w hH hu hu64 (by omega)

set_option maxHeartbeats 6400000 in
set_option maxRecDepth 100000 in
theorem fmtU_in (u : Nat) (hu64 : u < 18446744073709551616) (w : World) (htab : Lib.TabIs Tryz.prog w "internal/strconv.uint64pow10" .u64 Lib.pow10Tab) :
    Calls Tryz.prog 180 #[.int .u64 u, .int .i64 10] w fun e w' => e = .returned (.string ⟨(Lib.itoa u).toArray⟩) ∧ ∃ k os, w' = grow (w.drewN k) os := by
  by_cases hs : u < 100
  · have hsm := small_any u hs w
    have hi : (u : Int) < 100 := by omega
    have hwr : IntKind.i64.wrap (u : Int) = (u : Int) := IntWalk.i64_in _ (by omega)
    go_enter Tryz.func180, Tryz.ntmps180
    go_wp2_with fail
    refine hsm.mono ?_
    rintro e w' ⟨rfl, rfl⟩
    go_wp2
    go_ret
    refine ⟨?_, 0, #[], by simp [World.drewN_zero]⟩
    rw [Lib.itoa_nonneg]
    rfl
  · have hu1 : 1 ≤ u := by omega
    have hi : ¬ (u : Int) < 100 := by omega
    have hnd20 : Lib.nDigits u ≤ 20 := by have := Lib.numDigits_eq u hu1 hu64; split at this <;> omega
    have hal : Tryz.prog.arrayLen 221 = 24 := by simp [Program.arrayLen, Tryz.underlying221]
    have hsl1 : ∀ W, (Instr.sliceAt 221 (.pointer (some ⟨w.heap.size, 0, none⟩)) none (some (.int .i64 (Lib.nDigits u : Int))) none).run Tryz.prog W = .ok (.slice (some ⟨w.heap.size, 0, none⟩) (Lib.nDigits u) 24) W := fun W => by
      rw [run_sliceAt_array_h W 221 ⟨w.heap.size, 0, none⟩ (by simp [Program.arrayLen, Program.elem, Tryz.underlying221]) .i64 (Lib.nDigits u : Int) (by omega) (by rw [hal]; omega)]
      go_simp
    have hH0 := holds_zero0 w 221 (Lib.nDigits u) (by omega)
    have hfmt := base10_any w.heap.size 0 24 u (Array.replicate (Lib.nDigits u) 0) (w.alloc (.cells Lib.zeros24 221)) hH0 (by rw [Array.size_replicate]; exact Lib.lt_pow_nDigits u) hu64 (by rw [Array.size_replicate]; omega)
    rw [Array.size_replicate] at hfmt
    have hnd := numDigits_any u hu1 hu64 _ (Lib.tabIs_alloc htab (.cells Lib.zeros24 221))
    have HH0 := Lib.hid hH0
    clear hH0 hal
    go_enter Tryz.func180, Tryz.ntmps180
    go_wp2_with fail
    refine hnd.mono ?_
    rintro e w' ⟨rfl, rfl⟩
    go_wp2_with fail
    refine hfmt.mono ?_
    rintro e w' ⟨rfl, k, v', dk, rfl, hF⟩
    have hcv : (convert 81 9 (.slice (some ⟨w.heap.size, 0, none⟩) (Lib.nDigits u) 24)).run Tryz.prog ((putRow (fun (b : UInt8) => Value.int .u8 (b.toNat : Int)) (w.alloc (.cells Lib.zeros24 221)) w.heap.size 0 dk).drewN k) = .ok (.string ⟨(Lib.decDigits u).toArray⟩) ((putRow (fun (b : UInt8) => Value.int .u8 (b.toNat : Int)) (w.alloc (.cells Lib.zeros24 221)) w.heap.size 0 dk).drewN k) := by
      have h := run_convert_bytes_back (P := Tryz.prog) ((putRow (fun (b : UInt8) => Value.int .u8 (b.toNat : Int)) (w.alloc (.cells Lib.zeros24 221)) w.heap.size 0 dk).drewN k) 81 9 5 ⟨w.heap.size, 0, none⟩ 24 (Lib.decDigits u) Tryz.underlying81 Tryz.underlying5 Tryz.underlying9 (fun j hj => by
        rw [Lib.row_is_numeral hF j hj, Lib.add_plain, World.cell?_drewN]
        exact cell?_putRow (fun (b : UInt8) => Value.int .u8 (b.toNat : Int)) _ w.heap.size 0 _ dk HH0.out (by rw [hF.size, Array.size_replicate]) j (by rw [hF.size]; rw [Lib.decDigits_length] at hj; exact hj))
      rw [Lib.decDigits_length] at h
      exact h
    go_wp2
    go_ret
    obtain ⟨os, eo⟩ := fin_pos0 w (.cells Lib.zeros24 221) dk k
    refine ⟨?_, k, os, eo⟩
    rw [Lib.itoa_nonneg]
    rfl

set_option maxHeartbeats 1000000 in
theorem fmtU_any (u : Nat) (hu64 : u < 18446744073709551616) (w : World) (a : Nat → Addr) (h : Env0 w a) :
    Calls Tryz.prog 143 #[.int .u64 u, .int .i64 10] w fun e w' => e = .returned (.string (bytesOf (itoa u))) ∧ Below w.heap.size w w' := by
  have hin := fmtU_in u hu64 w h.tab
  go_enter Tryz.func143, Tryz.ntmps143
  go_wp2_with fail
  refine hin.mono ?_
  rintro e w' ⟨rfl, k, os, rfl⟩
  go_wp2
  go_ret
  exact ⟨rfl, grow_below k os⟩
end Go.Proofs.YtpkoefpdpoikkaaGreatDoor
namespace Go.Proofs.YtpkoefpdpoikkaaGreatDoor
open Go.RowKit Go.Extern.Stop Go.Stop Go.Extern Go.Sort Go.Shelf Go.Lib

theorem bytes_len (l : List UInt8) : (bytesOf l).size = l.length := by rw [← size_list]; simp [bytesOf]

end Go.Proofs.YtpkoefpdpoikkaaGreatDoor
namespace Go.Proofs.YtpkoefpdpoikkaaGreatDoor
open Go.RowKit Go.Extern.Stop Go.Stop Go.Extern Go.Sort Go.Shelf Go.Lib

theorem writeString_any (B b : Nat) (bs : List Value) (s : ByteArray) (w : World) (h : Lib.IsBuilder 130 5 B b bs w) (hlen : bs.length + s.size ≤ 140737488355328) (hBw : B ≤ w.heap.size) :
    Calls Tryz.prog 89 #[.pointer (some ⟨b, 0, none⟩), .string s] w fun e w' => e = .returned (.tuple #[.int .i64 s.size, .nilIface]) ∧ (Lib.BuilderAt 130 5 B b (.pointer (some ⟨b, 0, none⟩)) (bs ++ Lib.strCells s) w' ∧ Below B w w') := by
  first
  | exact Any.Builder_WriteString { Tryz.lays156 with } Tryz.Builder_Extra_156 B b bs s w h hlen hBw
  | exact Tryz.Builder_WriteString B b bs s w h hlen hBw

theorem isBuilder_below {T e : TypeId} {B b : Nat} {bs : List Value} {w w' : World} (h : Lib.IsBuilder T e B b bs w) (hb : Below w.heap.size w w') : Lib.IsBuilder T e B b bs w' := by
  rcases h with h | h
  · have hlt := h.lt
    obtain ⟨hB, v, hbk, hown, hne⟩ := h
    exact Or.inl ⟨hB, v, (hb.block b hlt).trans hbk, own_below hown hb, hne⟩
  · have hlt := h.lt
    obtain ⟨hB, v, hbk, hown, hne⟩ := h
    exact Or.inr ⟨hB, v, (hb.block b hlt).trans hbk, own_below hown hb, hne⟩

end Go.Proofs.YtpkoefpdpoikkaaGreatDoor
namespace Go.Proofs.YtpkoefpdpoikkaaGreatDoor
open Go.RowKit Go.Extern.Stop Go.Stop Go.Extern Go.Sort Go.Shelf Go.Lib

def strLen : Value → Nat
  | .string s => s.size
  | _ => 0

def stepE {β : Type} (k : FK β) (acc : List β) (l : List UInt8) : Nat := if (k.rd l).2 ≠ 0 then (k.rd l).2 else if acc ≠ [] ∧ k.bad (k.rd l).1 (acc.getLastD k.d) = true then 9 else 0

theorem rowsG_step {β : Type} (k : FK β) (l : List UInt8) (r : List (List UInt8)) (hr : r ≠ []) (at_ : Nat) (acc : List β) : rowsG k (l :: r) at_ acc = if stepE k acc l ≠ 0 then ([], stepE k acc l, at_) else rowsG k r (at_ + 1) (acc ++ [(k.rd l).1]) := by
  obtain ⟨l2, r2, rfl⟩ := List.exists_cons_of_ne_nil hr
  rw [rowsG_cons]
  unfold stepE
  by_cases h1 : (k.rd l).2 ≠ 0
  · simp only [if_pos h1]
  · simp only [if_neg h1]
    by_cases h2 : acc ≠ [] ∧ k.bad (k.rd l).1 (acc.getLastD k.d) = true
    · simp only [if_pos h2]; rfl
    · simp only [if_neg h2]; rfl

end Go.Proofs.YtpkoefpdpoikkaaGreatDoor
namespace Go.Proofs.YtpkoefpdpoikkaaGreatDoor
open Go.RowKit Go.Extern.Stop Go.Stop Go.Extern Go.Sort Go.Shelf Go.Lib

theorem own_next {W : World} {base : Nat} {e : TypeId} {size : Nat} {v : Value} {n : Nat} {xs : List Value} (h : W.ownsRow base e size v (n + 1) xs) : ∃ g c, v = .slice (some ⟨g, 0, none⟩) (n + 1) c := by
  rcases h.2 with ⟨_, h0⟩ | ⟨g, cap, cur, rfl, _⟩
  · omega
  · exact ⟨_, _, rfl⟩
theorem own_far {W : World} {base : Nat} {e : TypeId} {size : Nat} {v : Value} {n : Nat} {xs : List Value} (h : W.ownsRow base e size v n xs) {k : Nat} (hk : v.ownBlock = some k) : base ≤ k := (h.lt k hk).1
end Go.Proofs.YtpkoefpdpoikkaaGreatDoor
namespace Go.Proofs.YtpkoefpdpoikkaaGreatDoor
open Go.RowKit Go.Extern.Stop Go.Stop Go.Extern Go.Sort Go.Shelf Go.Lib

structure EnvN (w : World) (a : Nat → Addr) : Prop where
  base : EnvS w
  bound : w.cell? ⟨1, 0, none⟩ = some (.iface 289 (.pointer (some (a 1))))
  name : w.cell? ⟨3, 0, none⟩ = some (.iface 289 (.pointer (some (a 4))))

theorem EnvN.below {w w' : World} {a : Nat → Addr} (h : EnvN w a) (hb : Below w.heap.size w w') : EnvN w' a := ⟨h.base.below hb, below_keep hb h.bound, below_keep hb h.name⟩
theorem Env.n {w : World} {a : Nat → Addr} (h : Env w a) : EnvN w a := ⟨h.s, h.bound, h.name⟩

structure EnvK (w : World) (a : Nat → Addr) : Prop where
  env : EnvN w a
  kind : w.cell? ⟨0, 0, none⟩ = some (.iface 289 (.pointer (some (a 3))))

theorem EnvK.below {w w' : World} {a : Nat → Addr} (h : EnvK w a) (hb : Below w.heap.size w w') : EnvK w' a := ⟨h.env.below hb, below_keep hb h.kind⟩
structure EnvR (w : World) (a : Nat → Addr) : Prop where
  file : EnvK w a
  text : w.cell? ⟨2, 0, none⟩ = some (.iface 289 (.pointer (some (a 0))))

theorem EnvR.below {w w' : World} {a : Nat → Addr} (h : EnvR w a) (hb : Below w.heap.size w w') : EnvR w' a := ⟨h.file.below hb, below_keep hb h.text⟩
theorem EnvR.weak {w : World} {a : Nat → Addr} (h : EnvR w a) : Env0 w a := ⟨h.text, h.file.env.bound, h.file.env.base.maxl, h.file.env.base.syn, h.file.env.base.tab⟩
def flV (f : Fl) : Value := .agg #[.string f.1, .string f.2.1, .int .i64 f.2.2.1, .int .i64 f.2.2.2.1, .int .i64 f.2.2.2.2.1, .int .i64 f.2.2.2.2.2]

theorem counts_any (n : Int) (w : World) : Calls Tryz.prog 60 #[.int .i64 n] w fun e w' => e = .returned (.bool (cntB n)) ∧ w' = w := by
  by_cases h1 : 1 ≤ n
  · by_cases h2 : n ≤ 1073741824
    · have hr : cntB n = true := by simp [cntB, h1, h2]
      rw [hr]
      go_enter Tryz.func60, Tryz.ntmps60
      go_wp2
      go_ret
      exact ⟨rfl, rfl⟩
    · have hr : cntB n = false := by simp [cntB, h2]
      rw [hr]
      go_enter Tryz.func60, Tryz.ntmps60
      go_wp2
      go_ret
      exact ⟨rfl, rfl⟩
  · have hr : cntB n = false := by simp [cntB, h1]
    rw [hr]
    go_enter Tryz.func60, Tryz.ntmps60
    go_wp2
    go_ret
    exact ⟨rfl, rfl⟩

theorem pathR_none {s : List UInt8} (h : pathO s = none) : pathR s = ([], 0, 5) := by unfold pathR; rw [h]
theorem pathR_some {s : List UInt8} {g : Bool} {n : Int} (h : pathO s = some (g, n)) : pathR s = (kindL g, n, 0) := by unfold pathR; rw [h]

theorem bytes_data (l : List UInt8) : (bytesOf l).data.toList = l := by simp [bytesOf]

set_option maxRecDepth 100000 in
set_option maxHeartbeats 4000000 in
theorem fnumber_n (p : ByteArray) (w : World) (a : Nat → Addr) (h : EnvN w a) (hp : p.size ≤ 100000) :
    Calls Tryz.prog 15 #[.string p] w fun e w' => e = .returned (.tuple #[.string (bytesOf (pathR p.data.toList).1), .int .i64 (pathR p.data.toList).2.1, errV a (pathR p.data.toList).2.2]) ∧ Below w.heap.size w w' := by
  obtain ⟨m, hm⟩ := h.base.maxl
  have hcut := Tryz.strings_Cut p ⟨#[47]⟩ m w (by omega) hm
  have hpc := path_cut p.data.toList
  have hWs : (Lib.cut p.data.toList [47]).2.1.length ≤ p.size := by
    rw [← size_list]
    rcases cut_cases 47 p.data.toList with ⟨_, hc⟩ | ⟨x, y, hxy, _, hc⟩
    · rw [hc]; simp
    · rw [hc, hxy]; simp; omega
  have eK : (⟨(Lib.cut p.data.toList [47]).1.toArray⟩ : ByteArray) = bytesOf (Lib.cut p.data.toList [47]).1 := rfl
  have eW : (⟨(Lib.cut p.data.toList [47]).2.1.toArray⟩ : ByteArray) = bytesOf (Lib.cut p.data.toList [47]).2.1 := rfl
  dsimp only at hcut
  rw [eK, eW] at hcut
  clear eK eW hm
  generalize Lib.cut p.data.toList [47] = C at hcut hpc hWs
  obtain ⟨kL, wL, found⟩ := C
  dsimp only at hcut hpc hWs
  have hnum := fun W (hW : EnvS W) => number_s (bytesOf wL) W hW (by rw [bytes_len]; unfold maxLen; omega)
  rw [bytes_data] at hnum
  have hKd : (bytesOf kL).data.toList = kL := bytes_data kL
  generalize hkB : bytesOf kL = kB at hcut hKd
  have HKB : Hid (bytesOf kL = kB) := hkB
  clear hkB
  generalize bytesOf wL = wB at hcut hnum
  have HPC : Hid (pathO p.data.toList = if kL = kData then (pathN wL).map fun n => (false, n) else if kL = kGone then (pathN wL).map fun n => (true, n) else none) := hpc
  clear hpc hWs
  go_enter Tryz.func15, Tryz.ntmps15
  go_wp2_with fail
  refine hcut.mono ?_
  rintro e w1 ⟨rfl, q, rfl⟩
  clear hcut
  have hB1 : Below w.heap.size w (w.drewN q) := below_drewN (Below.refl _ _) q
  have hn1 := hnum _ (h.below hB1).base
  clear hnum
  have bad : ∀ (b : Bool), pathO p.data.toList = none → ∀ W, Below w.heap.size w W → (Ending.returned (.tuple #[.string ⟨#[]⟩, .int .i64 0, .iface 289 (.pointer (some (a 4)))]) = Ending.returned (.tuple #[.string (bytesOf (pathR p.data.toList).1), .int .i64 (pathR p.data.toList).2.1, errV a (pathR p.data.toList).2.2]) ∧ Below w.heap.size w W) := fun _ hp0 W hW => by
    rw [pathR_none hp0]; exact ⟨rfl, hW⟩
  have BAD : Hid (∀ (b : Bool), pathO p.data.toList = none → ∀ W, Below w.heap.size w W → (Ending.returned (.tuple #[.string ⟨#[]⟩, .int .i64 0, .iface 289 (.pointer (some (a 4)))]) = Ending.returned (.tuple #[.string (bytesOf (pathR p.data.toList).1), .int .i64 (pathR p.data.toList).2.1, errV a (pathR p.data.toList).2.2]) ∧ Below w.heap.size w W)) := bad
  clear bad
  by_cases hk : ∃ g, kL = kindL g
  · obtain ⟨g, hg⟩ := hk
    unfold numR at hn1
    have HP : Hid (pathO p.data.toList = (pathN wL).map fun n => (g, n)) := by
      show _ = _
      rw [HPC.out]
      cases g
      · rw [if_pos (show kL = kData from hg)]
      · rw [if_neg (by rw [hg]; decide), if_pos (show kL = kGone from hg)]
    cases hn : numO wL with
    | none =>
      rw [hn] at hn1
      dsimp only at hn1
      have HN : Hid (pathO p.data.toList = none) := by
        show _ = _
        rw [HP.out]; unfold pathN; rw [hn]; rfl
      clear hn
      go_wp2_with fail
      refine hn1.mono ?_
      rintro e w2 ⟨rfl, hb2⟩
      clear hn1
      have hB2 : Below w.heap.size w w2 := hB1.trans (hb2.mono hB1.size)
      have et := (h.below hB2).name
      cases g
      · have d1 := eqB_of (hKd.trans hg)
        simp only [kindL, Bool.false_eq_true, if_false, kData] at d1
        clear hg hKd
        go_wp2
        go_region
        go_wp2
        go_ret3
        exact BAD.out true HN.out _ hB2.drew
      · have d1 := neB_of (s := kB) (l := [100, 97, 116, 97]) (by rw [hKd, hg]; decide)
        have d2 := eqB_of (hKd.trans hg)
        simp only [kindL, if_true, kGone] at d2
        clear hg hKd
        go_wp2
        go_region
        go_wp2
        go_ret3
        exact BAD.out true HN.out _ hB2.drew
    | some n =>
      rw [hn] at hn1
      dsimp only at hn1
      have HN : Hid (numO wL = some n) := hn
      clear hn
      go_wp2_with fail
      refine hn1.mono ?_
      rintro e w2 ⟨rfl, hb2⟩
      clear hn1
      have hB2 : Below w.heap.size w w2 := hB1.trans (hb2.mono hB1.size)
      have et := (h.below hB2).name
      have hcn := counts_any n w2
      cases hc : cntB n with
      | false =>
        rw [hc] at hcn
        have HO : Hid (pathO p.data.toList = none) := by
          show _ = _
          rw [HP.out]; unfold pathN; rw [HN.out]; simp [hc]
        clear hc
        cases g
        · have d1 := eqB_of (hKd.trans hg)
          simp only [kindL, Bool.false_eq_true, if_false, kData] at d1
          clear hg hKd
          go_wp2_with (go_at_call 60; refine hcn.mono ?_; rintro e w' ⟨rfl, rfl⟩)
          go_region
          go_wp2
          go_ret3
          exact BAD.out true HO.out _ hB2.drew
        · have d1 := neB_of (s := kB) (l := [100, 97, 116, 97]) (by rw [hKd, hg]; decide)
          have d2 := eqB_of (hKd.trans hg)
          simp only [kindL, if_true, kGone] at d2
          clear hg hKd
          go_wp2_with (go_at_call 60; refine hcn.mono ?_; rintro e w' ⟨rfl, rfl⟩)
          go_region
          go_wp2
          go_ret3
          exact BAD.out true HO.out _ hB2.drew
      | true =>
        rw [hc] at hcn
        have HO : Hid (pathO p.data.toList = some (g, n)) := by
          show _ = _
          rw [HP.out]; unfold pathN; rw [HN.out]; simp [hc]
        have HKG : Hid (kB = bytesOf (kindL g)) := by
          show _ = _
          rw [← HKB.out, hg]
        clear hc
        cases g
        · have d1 := eqB_of (hKd.trans hg)
          simp only [kindL, Bool.false_eq_true, if_false, kData] at d1
          clear hg hKd
          go_wp2_with (go_at_call 60; refine hcn.mono ?_; rintro e w' ⟨rfl, rfl⟩)
          go_ret3
          exact ⟨by rw [pathR_some HO.out, HKG.out]; rfl, hB2⟩
        · have d1 := neB_of (s := kB) (l := [100, 97, 116, 97]) (by rw [hKd, hg]; decide)
          have d2 := eqB_of (hKd.trans hg)
          simp only [kindL, if_true, kGone] at d2
          clear hg hKd
          go_wp2_with (go_at_call 60; refine hcn.mono ?_; rintro e w' ⟨rfl, rfl⟩)
          go_ret3
          exact ⟨by rw [pathR_some HO.out, HKG.out]; rfl, hB2⟩
  · have hk1 : kL ≠ kData := fun e => hk ⟨false, e⟩
    have hk2 : kL ≠ kGone := fun e => hk ⟨true, e⟩
    have HN : Hid (pathO p.data.toList = none) := by
      show _ = _
      rw [HPC.out, if_neg hk1, if_neg hk2]
    have d1 := neB_of (s := kB) (l := [100, 97, 116, 97]) (by rw [hKd]; exact hk1)
    have d2 := neB_of (s := kB) (l := [103, 111, 110, 101]) (by rw [hKd]; exact hk2)
    clear hk hk1 hk2 hKd
    generalize numR wL = R at hn1
    obtain ⟨nv, bv⟩ := R
    dsimp only at hn1
    go_wp2_with fail
    refine hn1.mono ?_
    rintro e w2 ⟨rfl, hb2⟩
    clear hn1
    have hB2 : Below w.heap.size w w2 := hB1.trans (hb2.mono hB1.size)
    have et := (h.below hB2).name
    go_wp2
    go_region
    go_wp2
    go_ret3
    exact BAD.out true HN.out _ hB2.drew

set_option maxRecDepth 100000 in
set_option maxHeartbeats 2000000 in
theorem partOf_any (g : Bool) (q : ByteArray) (w : World) (hq : q.size ≤ maxLen) :
    Calls Tryz.prog 58 #[.string (bytesOf (kindL g)), .string q] w fun e w' => e = .returned (.bool (partB g q.data.toList)) ∧ w' = w := by
  cases g
  · have hw : Calls Tryz.prog 115 #[.string q, .int .i64 12] w fun e w' => e = .returned (.bool (partB false q.data.toList)) ∧ w' = w := word_any q 12 w hq (by omega)
    generalize partB false q.data.toList = r at hw ⊢
    have d1 := neB_of (s := bytesOf (kindL false)) (l := [103, 111, 110, 101]) (by rw [bytes_data]; decide)
    generalize bytesOf (kindL false) = kB at d1
    go_enter Tryz.func58, Tryz.ntmps58
    go_wp2_with (go_at_call 115; refine hw.mono ?_; rintro e w' ⟨rfl, rfl⟩)
    go_ret
    exact ⟨rfl, rfl⟩
  · have d1 := eqB_of (s := bytesOf (kindL true)) (l := [103, 111, 110, 101]) (by rw [bytes_data]; rfl)
    generalize bytesOf (kindL true) = kB at d1
    by_cases h : q.data.toList = [45]
    · have hr : partB true q.data.toList = true := by simp [partB, h]
      rw [hr]
      have d2 := eqB_of h
      clear hr h
      go_enter Tryz.func58, Tryz.ntmps58
      go_wp2
      go_ret
      exact ⟨rfl, rfl⟩
    · have hr : partB true q.data.toList = false := by simp [partB, h]
      rw [hr]
      have d2 := neB_of h
      clear hr h
      go_enter Tryz.func58, Tryz.ntmps58
      go_wp2
      go_ret
      exact ⟨rfl, rfl⟩

end Go.Proofs.YtpkoefpdpoikkaaGreatDoor
namespace Go.Proofs.YtpkoefpdpoikkaaGreatDoor
open Go.RowKit Go.Extern.Stop Go.Stop Go.Extern Go.Sort Go.Shelf Go.Lib

def FlAt (W : World) (b : Nat) (f : Fl) : Prop := W.heap[b]? = some (.cells #[.string f.1, .string f.2.1, .int .i64 f.2.2.1, .int .i64 f.2.2.2.1, .int .i64 f.2.2.2.2.1, .int .i64 f.2.2.2.2.2] 23 (0, 0))

theorem FlAt.lt {W : World} {b : Nat} {f : Fl} (h : FlAt W b f) : b < W.heap.size := lt_of_block h
theorem FlAt.below {W W' : World} {b : Nat} {f : Fl} (h : FlAt W b f) (hb : Below W.heap.size W W') : FlAt W' b f := (hb.block b h.lt).trans h
theorem FlAt.cells {W : World} {b : Nat} {f : Fl} (h : FlAt W b f) : W.cell? ⟨b, 0, none⟩ = some (.string f.1) ∧ W.cell? ⟨b, 1, none⟩ = some (.string f.2.1) ∧ W.cell? ⟨b, 2, none⟩ = some (.int .i64 f.2.2.1) ∧ W.cell? ⟨b, 3, none⟩ = some (.int .i64 f.2.2.2.1) ∧ W.cell? ⟨b, 4, none⟩ = some (.int .i64 f.2.2.2.2.1) ∧ W.cell? ⟨b, 5, none⟩ = some (.int .i64 f.2.2.2.2.2) ∧ ∀ o, W.frozen? ⟨b, o, none⟩ = false := by
  unfold FlAt at h
  exact ⟨by rw [cell_of_row _ _ _ _ _ _ h]; rfl, by rw [cell_of_row _ _ _ _ _ _ h]; rfl, by rw [cell_of_row _ _ _ _ _ _ h]; rfl, by rw [cell_of_row _ _ _ _ _ _ h]; rfl, by rw [cell_of_row _ _ _ _ _ _ h]; rfl, by rw [cell_of_row _ _ _ _ _ _ h]; rfl, fun o => frozen_of_row _ _ _ _ _ h⟩
theorem FlAt.new (w : World) (f : Fl) : FlAt (w.alloc (.cells #[.string f.1, .string f.2.1, .int .i64 f.2.2.1, .int .i64 f.2.2.2.1, .int .i64 f.2.2.2.2.1, .int .i64 f.2.2.2.2.2] 23)) w.heap.size f := heap_alloc_new _ _

set_option maxRecDepth 100000 in
set_option maxHeartbeats 4000000 in
theorem fcheck_any (f : Fl) (w : World) (a : Nat → Addr) (h : EnvK w a) (h1 : f.1.size ≤ 100000) (h2 : f.2.1.size ≤ 100000) :
    Calls Tryz.prog 12 #[flV f] w fun e w' => e = .returned (errV a (fileE f)) ∧ Below w.heap.size w w' := by
  have hal : Below w.heap.size w (w.alloc (.cells #[.string f.1, .string f.2.1, .int .i64 f.2.2.1, .int .i64 f.2.2.2.1, .int .i64 f.2.2.2.2.1, .int .i64 f.2.2.2.2.2] 23)) := (Below.refl _ _).alloc (Nat.le_refl _) _
  have hfl := FlAt.new w f
  obtain ⟨p, q, n, lo, hi, seq⟩ := f
  dsimp only at h1 h2 hal
  have hnm := fnumber_n p _ a (h.below hal).env h1
  unfold flV
  dsimp only
  generalize hE : fileE (p, q, n, lo, hi, seq) = E
  have HE : Hid (fileE (p, q, n, lo, hi, seq) = E) := hE
  clear hE
  go_enter Tryz.func12, Tryz.ntmps12
  go_wp2_with fail
  generalize w.alloc (.cells #[.string p, .string q, .int .i64 n, .int .i64 lo, .int .i64 hi, .int .i64 seq] 23) = WA at hal hfl hnm ⊢
  refine hnm.mono ?_
  rintro e w1 ⟨rfl, hb1⟩
  clear hnm
  have hB1 : Below w.heap.size w w1 := hal.trans (hb1.mono hal.size)
  have hfl1 := hfl.below hb1
  obtain ⟨c0, c1, c2, c3, c4, c5, cf⟩ := hfl1.cells
  dsimp only at c0 c1 c2 c3 c4 c5
  clear hfl hfl1
  cases hp : pathO p.data.toList with
  | none =>
    have hEE : E = 5 := by rw [← HE.out]; unfold fileE; dsimp only; rw [hp]
    subst hEE
    rw [pathR_none hp]
    simp only [errV]
    clear hp c0 c1 c2 c3 c4 c5 cf
    go_wp2
    go_ret
    exact ⟨rfl, hB1⟩
  | some gn =>
    obtain ⟨g, k⟩ := gn
    rw [pathR_some hp]
    have HEE : Hid (E = if partB g q.data.toList then (if bndB (p, q, n, lo, hi, seq) then 0 else 2) else 4) := by
      show _ = _
      rw [← HE.out]; unfold fileE; dsimp only; rw [hp]
    simp only [errV]
    clear hp
    have hpo := partOf_any g q w1 (by unfold maxLen; omega)
    go_wp2_with fail
    refine hpo.mono ?_
    rintro e w2 ⟨rfl, hw2⟩
    rw [hw2]
    clear hpo hw2
    have ek := (h.below hB1).kind
    have eb := (h.below hB1).env.bound
    cases hpb : partB g q.data.toList with
    | false =>
      have hEE := HEE.out
      rw [hpb] at hEE
      simp only [Bool.false_eq_true, if_false] at hEE
      subst hEE
      clear hpb c0 c1 c2 c3 c4 c5 cf
      go_wp2
      go_ret
      exact ⟨rfl, hB1⟩
    | true =>
      have hEE := HEE.out
      rw [hpb, if_pos rfl] at hEE
      have HB : Hid (E = if bndB (p, q, n, lo, hi, seq) then 0 else 2) := hEE
      clear hEE hpb
      have bad : bndB (p, q, n, lo, hi, seq) = false → E = 2 := fun hb => by rw [HB.out, hb]; rfl
      have BAD : Hid (bndB (p, q, n, lo, hi, seq) = false → E = 2) := bad
      clear bad
      by_cases g1 : 1 ≤ n
      · by_cases g2 : n ≤ 40
        · have hL := fun W => inBounds_any lo W
          have hH := fun W => inBounds_any hi W
          cases g3 : inNum lo with
          | false =>
            obtain rfl := BAD.out (by simp [bndB, g3])
            rw [g3] at hL
            clear g3
            go_wp2_with (go_at_call 59; refine (hL _).mono ?_; rintro e w' ⟨rfl, rfl⟩)
            go_ret
            exact ⟨rfl, hB1⟩
          | true =>
            rw [g3] at hL
            cases g4 : inNum hi with
            | false =>
              obtain rfl := BAD.out (by simp [bndB, g4])
              rw [g4] at hH
              clear g3 g4
              go_wp2_with (first | (go_at_call 59; refine (hL _).mono ?_; rintro e w' ⟨rfl, rfl⟩) | (go_at_call 59; refine (hH _).mono ?_; rintro e w' ⟨rfl, rfl⟩))
              go_ret
              exact ⟨rfl, hB1⟩
            | true =>
              rw [g4] at hH
              by_cases g5 : lo ≤ hi
              · have g5' : ¬ hi < lo := by omega
                have hC := fun W => counts_any seq W
                cases g6 : cntB seq with
                | false =>
                  obtain rfl := BAD.out (by simp [bndB, g6])
                  rw [g6] at hC
                  clear g3 g4 g6
                  go_wp2_with (first | (go_at_call 59; refine (hL _).mono ?_; rintro e w' ⟨rfl, rfl⟩) | (go_at_call 59; refine (hH _).mono ?_; rintro e w' ⟨rfl, rfl⟩) | (go_at_call 60; refine (hC _).mono ?_; rintro e w' ⟨rfl, rfl⟩))
                  go_ret
                  exact ⟨rfl, hB1⟩
                | true =>
                  have hgood : E = 0 := by
                    rw [HB.out, if_pos]
                    simp [bndB, g1, g2, g3, g4, g5, g6]
                  subst hgood
                  rw [g6] at hC
                  clear g3 g4 g6
                  go_wp2_with (first | (go_at_call 59; refine (hL _).mono ?_; rintro e w' ⟨rfl, rfl⟩) | (go_at_call 59; refine (hH _).mono ?_; rintro e w' ⟨rfl, rfl⟩) | (go_at_call 60; refine (hC _).mono ?_; rintro e w' ⟨rfl, rfl⟩))
                  go_ret
                  exact ⟨rfl, hB1⟩
              · obtain rfl := BAD.out (by simp [bndB, g5])
                have g5' : hi < lo := by omega
                clear g3 g4
                go_wp2_with (first | (go_at_call 59; refine (hL _).mono ?_; rintro e w' ⟨rfl, rfl⟩) | (go_at_call 59; refine (hH _).mono ?_; rintro e w' ⟨rfl, rfl⟩))
                go_ret
                exact ⟨rfl, hB1⟩
        · obtain rfl := BAD.out (by simp [bndB, g2])
          have g2' : 40 < n := by omega
          go_wp2
          go_ret
          exact ⟨rfl, hB1⟩
      · obtain rfl := BAD.out (by simp [bndB, g1])
        have g1' : n < 1 := by omega
        go_wp2
        go_ret
        exact ⟨rfl, hB1⟩
end Go.Proofs.YtpkoefpdpoikkaaGreatDoor
