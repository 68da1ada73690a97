/-
  The contract of strconv.FormatUint at base 10: a number's numeral.
-/
import Derived.Test.YtpkoefpdpoikkaaGreatDoorRowNums
import Derived.BigRegion
import Derived.Test.YtpkoefpdpoikkaaGreatDoorDataShelf
import Derived.Lib.QuietBelow
namespace Go.Proofs.YtpkoefpdpoikkaaGreatDoor
open Go.RowKit Go.Extern.Stop Go.Stop Go.Extern Go.Sort Go.Shelf Go.Lib

def rowV (x : Rw) : Value := .agg #[.string x.1, .int .i64 x.2.1, .int .i64 x.2.2]

theorem readO_other {l : List UInt8} (h : (words l).length ≠ 3) : readO l = ((bytesOf [], 0, 0), 1) := by
  unfold readO
  split
  · rename_i p k v e; rw [e] at h; simp at h
  · rfl

theorem readO_three {l p k v : List UInt8} (h : words l = [p, k, v]) : readO l = (match numO k, numO v with
    | some a, some b => if rowE (bytesOf p, a, b) = 0 then ((bytesOf p, a, b), 0) else ((bytesOf [], 0, 0), rowE (bytesOf p, a, b))
    | _, _ => ((bytesOf [], 0, 0), 1)) := by
  unfold readO
  rw [h]
  rfl

set_option maxRecDepth 100000 in
set_option maxHeartbeats 2000000 in
theorem read_any (s : ByteArray) (w : World) (a : Nat → Addr) (h : Env w a) (hs : s.size < 4294967281) :
    Calls Tryz.prog 166 #[.string s] w fun e w' => e = .returned (.tuple #[rowV (readO s.data.toList).1, errV a (readO s.data.toList).2]) ∧ Below w.heap.size w w' := by
  generalize hR : readO s.data.toList = R
  have HR : Hid (readO s.data.toList = R) := hR
  clear hR
  have hb0 : Below w.heap.size w (w.alloc (.cells #[.string ⟨#[]⟩, .int .i64 0, .int .i64 0] 41)) := (Below.refl _ _).alloc (Nat.le_refl _) _
  go_enter Tryz.func166, Tryz.ntmps166
  go_wp2_with fail
  refine (splitTx_any s _ a (h.below hb0).weak hs).mono ?_
  rintro e w1 ⟨v, ts, rfl, hT, hmap, hb1⟩
  obtain ⟨b, rfl, hcells⟩ := hT
  have z0 : w1.cell? ⟨w.heap.size, 0, none⟩ = some (.string ⟨#[]⟩) := below_keep hb1 (by simp)
  have z1 : w1.cell? ⟨w.heap.size, 1, none⟩ = some (.int .i64 0) := below_keep hb1 (by simp)
  have z2 : w1.cell? ⟨w.heap.size, 2, none⟩ = some (.int .i64 0) := below_keep hb1 (by simp)
  have fz : ∀ o, w1.frozen? ⟨w.heap.size, o, none⟩ = false := fun o => by rw [hb1.frozen (p := ⟨w.heap.size, o, none⟩) (by simp)]; simp
  have hB1 : Below w.heap.size w w1 := hb0.trans (hb1.mono hb0.size)
  have hlen : ts.length = (words s.data.toList).length := by rw [← hmap, List.length_map]
  have hlenW := words_len s.data.toList
  by_cases h3 : ts.length = 3
  · obtain ⟨P, K, V, rfl⟩ : ∃ P K V, ts = [P, K, V] := by
      match ts, h3 with
      | [P, K, V], _ => exact ⟨P, K, V, rfl⟩
    simp only [List.map_cons, List.map_nil] at hmap
    have c0 : w1.cell? ⟨b, 0, none⟩ = some (.string P) := hcells 0 (by simp)
    have c1 : w1.cell? ⟨b, 1, none⟩ = some (.string K) := hcells 1 (by simp)
    have c2 : w1.cell? ⟨b, 2, none⟩ = some (.string V) := hcells 2 (by simp)
    have hsK : K.size ≤ maxLen := by
      have := hlenW K.data.toList (by rw [← hmap]; simp)
      rw [size_list, size_list] at this
      unfold maxLen; omega
    have hsV : V.size ≤ maxLen := by
      have := hlenW V.data.toList (by rw [← hmap]; simp)
      rw [size_list, size_list] at this
      unfold maxLen; omega
    have hsP : P.size ≤ maxLen := by
      have := hlenW P.data.toList (by rw [← hmap]; simp)
      rw [size_list, size_list] at this
      unfold maxLen; omega
    have hr := readO_three hmap.symm
    rw [bytesOf_data] at hr
    have HRR := HR.out.symm.trans hr
    clear HR hr hmap hlen hlenW hcells h3
    simp only [List.length_cons, List.length_nil, Nat.zero_add, Nat.reduceAdd] at ⊢
    have HE : Hid (R = match numO K.data.toList, numO V.data.toList with
      | some a, some b => if rowE (P, a, b) = 0 then ((P, a, b), 0) else ((bytesOf [], 0, 0), rowE (P, a, b))
      | _, _ => ((bytesOf [], 0, 0), 1)) := HRR
    clear HRR
    go_wp2_with fail
    refine (numbers_any b 1 2 [K, V] w1 a (h.below hB1).weak (fun j hj => by
      match j, hj with
      | 0, _ => exact c1
      | 1, _ => exact c2) (fun t ht => by
      simp only [List.mem_cons, List.not_mem_nil, or_false] at ht
      rcases ht with rfl | rfl
      · exact hsK
      · exact hsV) (by simp)).mono ?_
    rintro e w2 ⟨hN0, hb2⟩
    have hN : (∃ x y g, numO K.data.toList = some x ∧ numO V.data.toList = some y ∧ e = .returned (.tuple #[.slice (some ⟨g, 0, none⟩) 2 2, .bool true]) ∧ w2.cell? ⟨g, 0, none⟩ = some (.int .i64 x) ∧ w2.cell? ⟨g, 1, none⟩ = some (.int .i64 y)) ∨ ((numO K.data.toList = none ∨ numO V.data.toList = none) ∧ e = .returned (.tuple #[.slice none 0 0, .bool false])) := by
      rcases hN0 with ⟨zs, g, hzl, hzn, he, hzc⟩ | ⟨j, t, ht, hno, he⟩
      · match zs, hzl, hzn, hzc with
        | [x, y], _, hzn, hzc => exact Or.inl ⟨x, y, g, hzn 0 K rfl, hzn 1 V rfl, he, hzc 0 (by simp), hzc 1 (by simp)⟩
      · refine Or.inr ⟨?_, he⟩
        match j, ht with
        | 0, ht => left; rw [Option.some.inj ht]; exact hno
        | 1, ht => right; rw [Option.some.inj ht]; exact hno
    clear hN0
    have hB2 : Below w.heap.size w w2 := hB1.trans (hb2.mono hB1.size)
    have y0 := below_keep hb2 z0
    have y1 := below_keep hb2 z1
    have y2 := below_keep hb2 z2
    have d0 := below_keep hb2 c0
    have hz1 : w.heap.size < w1.heap.size := cell_lt z0
    have fy : ∀ o, w2.frozen? ⟨w.heap.size, o, none⟩ = false := fun o => by rw [hb2.frozen (p := ⟨w.heap.size, o, none⟩) hz1]; exact fz o
    have hz2 : w.heap.size < w2.heap.size := cell_lt y0
    clear z0 z1 z2 fz c0 c1 c2 hz1
    have HE' := HE.out
    clear HE
    rcases hN with ⟨x, y, g, hx, hy, rfl, k0, k1⟩ | ⟨hno, rfl⟩
    · rw [hx, hy] at HE'
      dsimp only at HE'
      have hbR : Below w2.heap.size w2 (w2.alloc (.cells #[.string P, .int .i64 x, .int .i64 y] 41)).drew := ((Below.refl _ _).alloc (Nat.le_refl _) _).drew
      have hBR : Below w.heap.size w (w2.alloc (.cells #[.string P, .int .i64 x, .int .i64 y] 41)).drew := hB2.trans (hbR.mono hB2.size)
      have hck := check_any (P, x, y) ((w2.alloc (.cells #[.string P, .int .i64 x, .int .i64 y] 41)).drew) a (h.below hBR) hsP
      dsimp only at hck
      have q0 := below_keep hbR y0
      have q1 := below_keep hbR y1
      have q2 := below_keep hbR y2
      have r0 : (w2.alloc (.cells #[.string P, .int .i64 x, .int .i64 y] 41)).drew.cell? ⟨w2.heap.size, 0, none⟩ = some (.string P) := by simp
      have r1 : (w2.alloc (.cells #[.string P, .int .i64 x, .int .i64 y] 41)).drew.cell? ⟨w2.heap.size, 1, none⟩ = some (.int .i64 x) := by simp
      have r2 : (w2.alloc (.cells #[.string P, .int .i64 x, .int .i64 y] 41)).drew.cell? ⟨w2.heap.size, 2, none⟩ = some (.int .i64 y) := by simp
      have hbZ : Below w2.heap.size w2 (w2.alloc (.cells #[.string ⟨#[]⟩, .int .i64 0, .int .i64 0] 41)) := (Below.refl _ _).alloc (Nat.le_refl _) _
      have j0 := below_keep hbZ k0
      have j1 := below_keep hbZ k1
      have j2 := below_keep hbZ d0
      have l0 := below_keep hbZ.drew k0
      have l1 := below_keep hbZ.drew k1
      have l2 := below_keep hbZ.drew d0
      have m0 := below_keep (Below.refl w2.heap.size w2).drew k0
      have m1 := below_keep (Below.refl w2.heap.size w2).drew k1
      have m2 := below_keep (Below.refl w2.heap.size w2).drew d0
      by_cases he : rowE (P, x, y) = 0
      · rw [if_pos he] at HE'
        subst HE'
        rw [he] at hck
        simp only [errV] at hck ⊢
        clear he
        go_wp2
        go_region
        all_goals go_wp2_with fail
        refine hck.mono ?_
        rintro e w5 ⟨rfl, hb5⟩
        have g0 := below_keep hb5 q0
        have g1 := below_keep hb5 q1
        have g2 := below_keep hb5 q2
        have u0 := below_keep hb5 r0
        have u1 := below_keep hb5 r1
        have u2 := below_keep hb5 r2
        have hB5 : Below w.heap.size w w5 := hBR.trans (hb5.mono hBR.size)
        have f5 : ∀ o, w5.frozen? ⟨w.heap.size, o, none⟩ = false := fun o => by
          rw [hb5.frozen (p := ⟨w.heap.size, o, none⟩) (by simp; omega), hbR.frozen (p := ⟨w.heap.size, o, none⟩) hz2]; exact fy o
        clear hck q0 q1 q2 r0 r1 r2 y0 y1 y2 fy
        go_wp2
        refine bodyPost_ret (v := .tuple #[.agg #[.string P, .int .i64 x, .int .i64 y], .nilIface]) (by simp [results, Tryz.results166, go_sem, g0, g1, g2]) rfl ⟨rfl, ?_⟩
        exact ((hB5.setCell (by simp) _).setCell (by simp) _).setCell (by simp) _
      · rw [if_neg he] at HE'
        obtain ⟨j, hj⟩ : ∃ j, rowE (P, x, y) = j + 1 := ⟨rowE (P, x, y) - 1, by omega⟩
        rw [hj] at hck HE'
        subst HE'
        simp only [errV] at hck ⊢
        clear he hj
        go_wp2
        go_region
        all_goals go_wp2_with fail
        refine hck.mono ?_
        rintro e w5 ⟨rfl, hb5⟩
        have g0 := below_keep hb5 q0
        have g1 := below_keep hb5 q1
        have g2 := below_keep hb5 q2
        have hB5 : Below w.heap.size w w5 := hBR.trans (hb5.mono hBR.size)
        have f5 : ∀ o, w5.frozen? ⟨w.heap.size, o, none⟩ = false := fun o => by
          rw [hb5.frozen (p := ⟨w.heap.size, o, none⟩) (by simp; omega), hbR.frozen (p := ⟨w.heap.size, o, none⟩) hz2]; exact fy o
        have s0 := setCell_self g0
        have s1 := setCell_self g1
        have s2 := setCell_self g2
        clear hck q0 q1 q2 r0 r1 r2 y0 y1 y2 fy
        go_wp2
        exact bodyPost_ret (v := .tuple #[.agg #[.string ⟨#[]⟩, .int .i64 0, .int .i64 0], .iface 289 (.pointer (some (a j)))]) (by simp [results, Tryz.results166, go_sem, g0, g1, g2]) rfl ⟨rfl, hB5⟩
    · have hbadR : R = ((bytesOf [], 0, 0), 1) := by
        rw [HE']
        rcases hno with e | e
        · rw [e]
        · rw [e]; split <;> simp_all
      subst hbadR
      clear HE' hno
      have et := (h.below hB2).text
      simp only
      have s0 := setCell_self y0
      have s1 := setCell_self y1
      have s2 := setCell_self y2
      go_wp2
      go_region
      all_goals go_wp2
      all_goals exact bodyPost_ret (v := .tuple #[.agg #[.string ⟨#[]⟩, .int .i64 0, .int .i64 0], .iface 289 (.pointer (some (a 0)))]) (by simp [results, Tryz.results166, go_sem, y0, y1, y2]) rfl ⟨rfl, hB2.drew⟩
  · have hr := readO_other (l := s.data.toList) (by omega)
    have hRR := HR.out.symm.trans hr
    subst hRR
    generalize ts.length = L at h3 ⊢
    have hne : ¬ (L : Int) = 3 := by omega
    clear hr hmap hlen hlenW hcells HR h3
    have s0 := setCell_self z0
    have s1 := setCell_self z1
    have s2 := setCell_self z2
    have et := (h.below hB1).text
    simp only
    go_wp2
    go_region
    all_goals go_wp2
    all_goals exact bodyPost_ret (v := .tuple #[.agg #[.string ⟨#[]⟩, .int .i64 0, .int .i64 0], .iface 289 (.pointer (some (a 0)))]) (by simp [results, Tryz.results166, go_sem, z0, z1, z2]) rfl ⟨rfl, hB1.drew⟩
end Go.Proofs.YtpkoefpdpoikkaaGreatDoor
namespace Go.Proofs.YtpkoefpdpoikkaaGreatDoor
open Go.RowKit Go.Extern.Stop Go.Stop Go.Extern Go.Sort Go.Shelf Go.Lib

theorem leR_trans (x y z : Rw) (h1 : (!(ltOf cfR) y x) = true) (h2 : (!(ltOf cfR) z y) = true) : (!(ltOf cfR) z x) = true := by
  simp only [Bool.not_eq_true'] at *
  exact swoR.ntrans z y x h2 h1

theorem leR_total (x y : Rw) : ((!(ltOf cfR) y x) || (!(ltOf cfR) x y)) = true := by
  cases h : ltOf cfR y x
  · rfl
  · cases h' : ltOf cfR x y
    · rfl
    · have := swoR.trans x y x h' h
      rw [swoR.irrefl] at this
      cases this

theorem sortR_sorted (xs : List Rw) : (sortR xs).Pairwise fun x y => (!(ltOf cfR) y x) = true :=
  List.pairwise_mergeSort leR_trans leR_total xs

def okKey (x : Rw) : Prop := -9223372036854775808 ≤ x.2.1 ∧ x.2.1 ≤ 9223372036854775807

theorem textB_ok (x : Rw) (h : rowE x = 0) : (textB x).data.toList = textL x := by
  unfold textB
  rw [if_pos h]
  simp [textL, sp, bytesOf, ByteArray.data_append]

end Go.Proofs.YtpkoefpdpoikkaaGreatDoor
namespace Go.Proofs.YtpkoefpdpoikkaaGreatDoor
open Go.RowKit Go.Extern.Stop Go.Stop Go.Extern Go.Sort Go.Shelf Go.Lib

theorem RowsAt.form {w : World} {v : Value} {xs : List Rw} (h : RowsAt w v xs) : ∃ p c, v = .slice p xs.length c := by
  rcases h with ⟨p, c, rfl, rfl⟩ | ⟨b, o, cap, rfl, _⟩
  · exact ⟨_, _, rfl⟩
  · exact ⟨_, _, rfl⟩
theorem KeysAt.form {w : World} {v : Value} {zs : List Int} (h : KeysAt w v zs) : ∃ p c, v = .slice p zs.length c := by
  rcases h with ⟨p, c, rfl, rfl⟩ | ⟨b, o, cap, rfl, _⟩
  · exact ⟨_, _, rfl⟩
  · exact ⟨_, _, rfl⟩

end Go.Proofs.YtpkoefpdpoikkaaGreatDoor
namespace Go.Proofs.YtpkoefpdpoikkaaGreatDoor
open Go.RowKit Go.Extern.Stop Go.Stop Go.Extern Go.Sort Go.Shelf Go.Lib

theorem itoa_below (n : Int) (w : World) (a : Nat → Addr) (h : Env0 w a) (h0 : -9223372036854775808 ≤ n) (h1 : n ≤ 9223372036854775807) :
    Calls Tryz.prog 61 #[.int .i64 n] w fun e w' => e = .returned (.string (bytesOf (itoa n))) ∧ Below w.heap.size w w' :=
  (itoa_any n w h.tab h0 h1).mono fun e w' ⟨he, k, os, hw⟩ => ⟨he, by subst hw; exact grow_below k os⟩

theorem eqB_of {s : ByteArray} {l : List UInt8} (h : s.data.toList = l) : (s.toList == l) = true := by
  rw [ByteArray.toList_eq]; simpa using h
theorem neB_of {s : ByteArray} {l : List UInt8} (h : s.data.toList ≠ l) : (s.toList == l) = false := by
  rw [ByteArray.toList_eq]; simpa using h

end Go.Proofs.YtpkoefpdpoikkaaGreatDoor
namespace Go.Proofs.YtpkoefpdpoikkaaGreatDoor
open Go.RowKit Go.Extern.Stop Go.Stop Go.Extern Go.Sort Go.Shelf Go.Lib

theorem holds_zero0 (w : World) (T : TypeId) (nd : Nat) (hs : nd ≤ 24) : Holds (fun (b : UInt8) => Value.int .u8 (b.toNat : Int)) (w.alloc (.cells Lib.zeros24 T)) w.heap.size 0 (Array.replicate nd (0 : UInt8)) := fun j hj => by
  have hj' : j < nd := by simpa using hj
  refine ⟨?_, World.frozen?_alloc_new _ _ _ _⟩
  rw [World.cell?_alloc_new, Lib.zeros24_at _ (by omega), getElem!_pos _ j hj]
  simp

theorem fin_pos0 (w : World) (o : Obj) (dk : Array UInt8) (k : Nat) : ∃ os, (putRow (fun (b : UInt8) => Value.int .u8 (b.toNat : Int)) (w.alloc o) w.heap.size 0 dk).drewN k = grow (w.drewN k) os := by
  rw [alloc_eq_grow]
  obtain ⟨os', _, e⟩ := putRow_grow_new (fun (b : UInt8) => Value.int .u8 (b.toNat : Int)) w #[o] w.heap.size 0 dk (Nat.le_refl _)
  exact ⟨os', by rw [e]; rfl⟩

theorem small_any (i : Nat) (hi : i < 100) (w : World) : Calls Tryz.prog 182 #[.int .i64 i] w fun e w' => e = .returned (.string ⟨(Lib.decDigits i).toArray⟩) ∧ w' = w :=
  Any.internal_strconv_small { Tryz.laysM171 with } i hi w

theorem numDigits_any (u : Nat) (h1 : 1 ≤ u) (h2 : u < 18446744073709551616) (w : World) (htab : Lib.TabIs Tryz.prog w "internal/strconv.uint64pow10" .u64 Lib.pow10Tab) :
    Calls Tryz.prog 183 #[.int .u64 u] w fun e w' => e = .returned (.int .i64 (Lib.nDigits u)) ∧ w' = w :=
  Any.internal_strconv_numDigits { Tryz.laysM171 with } u h1 h2 w htab

theorem base10_any (blk off cap : Nat) (u : Nat) (d : Array UInt8) (w : World) (hH : Holds (fun (b : UInt8) => Value.int .u8 (b.toNat : Int)) w blk off d) (hu : u < 10 ^ d.size) (hu64 : u < 18446744073709551616) (hsz : d.size < 4611686018427387904) :
    Calls Tryz.prog 184 #[.slice (some ⟨blk, off, none⟩) d.size cap, .int .u64 u] w fun e w' =>
      e = .returned (.tuple #[]) ∧ ∃ (n v' : Nat) (dk : Array UInt8), w' = (putRow (fun (b : UInt8) => Value.int .u8 (b.toNat : Int)) w blk off dk).drewN n ∧ FmtInv d.size u 0 v' dk :=
  Any.internal_strconv_formatBase10 { Tryz.laysM171 with } blk off cap u d w hH hu hu64 (by omega)

set_option maxHeartbeats 6400000 in
set_option maxRecDepth 100000 in
theorem fmtU_in (u : Nat) (hu64 : u < 18446744073709551616) (w : World) (htab : Lib.TabIs Tryz.prog w "internal/strconv.uint64pow10" .u64 Lib.pow10Tab) :
    Calls Tryz.prog 180 #[.int .u64 u, .int .i64 10] w fun e w' => e = .returned (.string ⟨(Lib.itoa u).toArray⟩) ∧ ∃ k os, w' = grow (w.drewN k) os := by
  by_cases hs : u < 100
  · have hsm := small_any u hs w
    have hi : (u : Int) < 100 := by omega
    have hwr : IntKind.i64.wrap (u : Int) = (u : Int) := IntWalk.i64_in _ (by omega)
    go_enter Tryz.func180, Tryz.ntmps180
    go_wp2_with fail
    refine hsm.mono ?_
    rintro e w' ⟨rfl, rfl⟩
    go_wp2
    go_ret
    refine ⟨?_, 0, #[], by simp [World.drewN_zero]⟩
    rw [Lib.itoa_nonneg]
    rfl
  · have hu1 : 1 ≤ u := by omega
    have hi : ¬ (u : Int) < 100 := by omega
    have hnd20 : Lib.nDigits u ≤ 20 := by have := Lib.numDigits_eq u hu1 hu64; split at this <;> omega
    have hal : Tryz.prog.arrayLen 221 = 24 := by simp [Program.arrayLen, Tryz.underlying221]
    have hsl1 : ∀ W, (Instr.sliceAt 221 (.pointer (some ⟨w.heap.size, 0, none⟩)) none (some (.int .i64 (Lib.nDigits u : Int))) none).run Tryz.prog W = .ok (.slice (some ⟨w.heap.size, 0, none⟩) (Lib.nDigits u) 24) W := fun W => by
      rw [run_sliceAt_array_h W 221 ⟨w.heap.size, 0, none⟩ (by simp [Program.arrayLen, Program.elem, Tryz.underlying221]) .i64 (Lib.nDigits u : Int) (by omega) (by rw [hal]; omega)]
      go_simp
    have hH0 := holds_zero0 w 221 (Lib.nDigits u) (by omega)
    have hfmt := base10_any w.heap.size 0 24 u (Array.replicate (Lib.nDigits u) 0) (w.alloc (.cells Lib.zeros24 221)) hH0 (by rw [Array.size_replicate]; exact Lib.lt_pow_nDigits u) hu64 (by rw [Array.size_replicate]; omega)
    rw [Array.size_replicate] at hfmt
    have hnd := numDigits_any u hu1 hu64 _ (Lib.tabIs_alloc htab (.cells Lib.zeros24 221))
    have HH0 := Lib.hid hH0
    clear hH0 hal
    go_enter Tryz.func180, Tryz.ntmps180
    go_wp2_with fail
    refine hnd.mono ?_
    rintro e w' ⟨rfl, rfl⟩
    go_wp2_with fail
    refine hfmt.mono ?_
    rintro e w' ⟨rfl, k, v', dk, rfl, hF⟩
    have hcv : (convert 81 9 (.slice (some ⟨w.heap.size, 0, none⟩) (Lib.nDigits u) 24)).run Tryz.prog ((putRow (fun (b : UInt8) => Value.int .u8 (b.toNat : Int)) (w.alloc (.cells Lib.zeros24 221)) w.heap.size 0 dk).drewN k) = .ok (.string ⟨(Lib.decDigits u).toArray⟩) ((putRow (fun (b : UInt8) => Value.int .u8 (b.toNat : Int)) (w.alloc (.cells Lib.zeros24 221)) w.heap.size 0 dk).drewN k) := by
      have h := run_convert_bytes_back (P := Tryz.prog) ((putRow (fun (b : UInt8) => Value.int .u8 (b.toNat : Int)) (w.alloc (.cells Lib.zeros24 221)) w.heap.size 0 dk).drewN k) 81 9 5 ⟨w.heap.size, 0, none⟩ 24 (Lib.decDigits u) Tryz.underlying81 Tryz.underlying5 Tryz.underlying9 (fun j hj => by
        rw [Lib.row_is_numeral hF j hj, Lib.add_plain, World.cell?_drewN]
        exact cell?_putRow (fun (b : UInt8) => Value.int .u8 (b.toNat : Int)) _ w.heap.size 0 _ dk HH0.out (by rw [hF.size, Array.size_replicate]) j (by rw [hF.size]; rw [Lib.decDigits_length] at hj; exact hj))
      rw [Lib.decDigits_length] at h
      exact h
    go_wp2
    go_ret
    obtain ⟨os, eo⟩ := fin_pos0 w (.cells Lib.zeros24 221) dk k
    refine ⟨?_, k, os, eo⟩
    rw [Lib.itoa_nonneg]
    rfl

set_option maxHeartbeats 1000000 in
theorem fmtU_any (u : Nat) (hu64 : u < 18446744073709551616) (w : World) (a : Nat → Addr) (h : Env0 w a) :
    Calls Tryz.prog 143 #[.int .u64 u, .int .i64 10] w fun e w' => e = .returned (.string (bytesOf (itoa u))) ∧ Below w.heap.size w w' := by
  have hin := fmtU_in u hu64 w h.tab
  go_enter Tryz.func143, Tryz.ntmps143
  go_wp2_with fail
  refine hin.mono ?_
  rintro e w' ⟨rfl, k, os, rfl⟩
  go_wp2
  go_ret
  exact ⟨rfl, grow_below k os⟩
end Go.Proofs.YtpkoefpdpoikkaaGreatDoor
