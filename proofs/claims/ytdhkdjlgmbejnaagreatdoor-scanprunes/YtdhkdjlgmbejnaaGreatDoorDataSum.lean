/-
  The contracts of data.Sum and of the document's own SumOf: a text's sum.
-/
import Derived.Test.YtdhkdjlgmbejnaaGreatDoorRowText
import Derived.Lib.AtoiErrMem
import Derived.Lib.LaidTab
import Derived.Laws.BitsAll
import Derived.Laws.BitsAllLaws
import Derived.Laws.Rows
import Derived.Laws.CopyRow
import Derived.Laws.Tables
namespace Go.Proofs.YtdhkdjlgmbejnaaGreatDoor
open Go.RowKit Go.Extern.Stop Go.Stop Go.Extern Go.Sort Go.Shelf Go.Lib

structure Env (w : World) (a : Nat → Addr) : Prop where
  text : w.cell? ⟨5, 0, none⟩ = some (.iface 327 (.pointer (some (a 0))))
  bound : w.cell? ⟨2, 0, none⟩ = some (.iface 327 (.pointer (some (a 1))))
  name : w.cell? ⟨6, 0, none⟩ = some (.iface 327 (.pointer (some (a 4))))
  maxl : ∃ m, w.cell? ⟨13, 0, none⟩ = some (.int .i64 m)
  syn : ∃ te pe, w.cell? ⟨17, 0, none⟩ = some (.iface te pe)
  tab : Lib.TabIs Tryz.prog w "internal/strconv.uint64pow10" .u64 Lib.pow10Tab

theorem tab_below {w w' : World} {n : String} {k : IntKind} {zs : List Int} (h : Lib.TabIs Tryz.prog w n k zs) (hb : Below w.heap.size w w') : Lib.TabIs Tryz.prog w' n k zs := by
  unfold Lib.TabIs World.var? at *
  cases hg : Tryz.prog.globalNamed n with
  | none => rw [hg] at h; simp at h
  | some g =>
    rw [hg] at h
    simp only [Option.bind_some] at h ⊢
    have hlt : g < w.heap.size := by
      rcases Nat.lt_or_ge g w.heap.size with h' | h'
      · exact h'
      · simp [Array.getElem?_eq_none h'] at h
    rw [hb.block g hlt]; exact h

theorem Env.below {w w' : World} {a : Nat → Addr} (h : Env w a) (hb : Below w.heap.size w w') : Env w' a where
  text := below_keep hb h.text
  bound := below_keep hb h.bound
  name := below_keep hb h.name
  maxl := let ⟨m, hm⟩ := h.maxl; ⟨m, below_keep hb hm⟩
  syn := let ⟨t, p, hm⟩ := h.syn; ⟨t, p, below_keep hb hm⟩
  tab := tab_below h.tab hb

structure Env0 (w : World) (a : Nat → Addr) : Prop where
  text : w.cell? ⟨5, 0, none⟩ = some (.iface 327 (.pointer (some (a 0))))
  bound : w.cell? ⟨2, 0, none⟩ = some (.iface 327 (.pointer (some (a 1))))
  maxl : ∃ m, w.cell? ⟨13, 0, none⟩ = some (.int .i64 m)
  syn : ∃ te pe, w.cell? ⟨17, 0, none⟩ = some (.iface te pe)
  tab : Lib.TabIs Tryz.prog w "internal/strconv.uint64pow10" .u64 Lib.pow10Tab

theorem Env0.below {w w' : World} {a : Nat → Addr} (h : Env0 w a) (hb : Below w.heap.size w w') : Env0 w' a where
  text := below_keep hb h.text
  bound := below_keep hb h.bound
  maxl := let ⟨m, hm⟩ := h.maxl; ⟨m, below_keep hb hm⟩
  syn := let ⟨t, p, hm⟩ := h.syn; ⟨t, p, below_keep hb hm⟩
  tab := tab_below h.tab hb

theorem Env.weak {w : World} {a : Nat → Addr} (h : Env w a) : Env0 w a := ⟨h.text, h.bound, h.maxl, h.syn, h.tab⟩

structure EnvS (w : World) : Prop where
  maxl : ∃ m, w.cell? ⟨13, 0, none⟩ = some (.int .i64 m)
  syn : ∃ te pe, w.cell? ⟨17, 0, none⟩ = some (.iface te pe)
  tab : Lib.TabIs Tryz.prog w "internal/strconv.uint64pow10" .u64 Lib.pow10Tab

theorem EnvS.below {w w' : World} (h : EnvS w) (hb : Below w.heap.size w w') : EnvS w' where
  maxl := let ⟨m, hm⟩ := h.maxl; ⟨m, below_keep hb hm⟩
  syn := let ⟨t, p, hm⟩ := h.syn; ⟨t, p, below_keep hb hm⟩
  tab := tab_below h.tab hb
theorem Env0.s {w : World} {a : Nat → Addr} (h : Env0 w a) : EnvS w := ⟨h.maxl, h.syn, h.tab⟩
theorem Env.s {w : World} {a : Nat → Addr} (h : Env w a) : EnvS w := ⟨h.maxl, h.syn, h.tab⟩

def errV (a : Nat → Addr) : Nat → Value
  | 0 => .nilIface
  | n + 1 => .iface 327 (.pointer (some (a n)))

set_option maxHeartbeats 1000000 in
theorem check_any (x : Rw) (w : World) (a : Nat → Addr) (h : Env w a) (hs : x.1.size ≤ maxLen) :
    Calls Tryz.prog 127 #[.agg #[.string x.1, .int .i64 x.2.1, .int .i64 x.2.2]] w fun e w' => e = .returned (errV a (rowE x)) ∧ Below w.heap.size w w' := by
  obtain ⟨p, k, v⟩ := x
  dsimp only at hs ⊢
  have hb : Below w.heap.size w (w.alloc (.cells #[.string p, .int .i64 k, .int .i64 v] 54)) := (Below.refl _ _).alloc (Nat.le_refl _) _
  have hn := name_any p (w.alloc (.cells #[.string p, .int .i64 k, .int .i64 v] 54)) hs
  have e1 := (h.below hb).name
  have e2 := (h.below hb).bound
  unfold rowE
  dsimp only
  cases h1 : nameB p.data.toList
  · rw [h1] at hn
    simp only [Bool.false_eq_true, if_false]
    clear h1
    go_enter Tryz.func127, Tryz.ntmps127
    go_wp2_with (go_at_call 177; refine hn.mono ?_; rintro e w' ⟨rfl, rfl⟩)
    go_ret
    exact ⟨rfl, hb⟩
  · rw [h1] at hn
    clear h1
    have hB := fun n W => inBounds_any n W
    cases h2 : inNum k
    · simp only [if_true, Bool.false_and, Bool.false_eq_true, if_false]
      go_enter Tryz.func127, Tryz.ntmps127
      go_wp2_with (first | (go_at_call 177; refine hn.mono ?_; rintro e w' ⟨rfl, rfl⟩) | (go_at_call 61; refine (hB _ _).mono ?_; rintro e w' ⟨rfl, rfl⟩))
      go_ret
      exact ⟨rfl, hb⟩
    · cases h3 : inNum v
      · simp only [if_true, Bool.true_and, Bool.false_eq_true, if_false]
        go_enter Tryz.func127, Tryz.ntmps127
        go_wp2_with (first | (go_at_call 177; refine hn.mono ?_; rintro e w' ⟨rfl, rfl⟩) | (go_at_call 61; refine (hB _ _).mono ?_; rintro e w' ⟨rfl, rfl⟩))
        go_ret
        exact ⟨rfl, hb⟩
      · simp only [if_true, Bool.true_and]
        go_enter Tryz.func127, Tryz.ntmps127
        go_wp2_with (first | (go_at_call 177; refine hn.mono ?_; rintro e w' ⟨rfl, rfl⟩) | (go_at_call 61; refine (hB _ _).mono ?_; rintro e w' ⟨rfl, rfl⟩))
        go_ret
        exact ⟨rfl, hb⟩

theorem grow_below {w : World} (k : Nat) (os : Array Obj) : Below w.heap.size w (grow (w.drewN k) os) :=
  (below_drewN (Below.refl _ _) k).trans (show Below w.heap.size (w.drewN k) _ from below_grow (w := w.drewN k) os)

theorem itoa_any (n : Int) (w : World) (ht : Lib.TabIs Tryz.prog w "internal/strconv.uint64pow10" .u64 Lib.pow10Tab) (h0 : -9223372036854775808 ≤ n) (h1 : n ≤ 9223372036854775807) :
    Calls Tryz.prog 64 #[.int .i64 n] w fun e w' => e = .returned (.string (bytesOf (itoa n))) ∧ ∃ k os, w' = grow (w.drewN k) os :=
  Tryz.strconv_Itoa n h0 h1 w ht

def numR (s : List UInt8) : Value × Bool := match numO s with
  | some n => (.int .i64 n, true)
  | none => (.int .i64 0, false)

set_option maxHeartbeats 1000000 in
theorem number_s (s : ByteArray) (w : World) (h : EnvS w) (hs : s.size ≤ maxLen) :
    Calls Tryz.prog 172 #[.string s] w fun e w' => e = .returned (.tuple #[(numR s.data.toList).1, .bool (numR s.data.toList).2]) ∧ Below w.heap.size w w' := by
  unfold maxLen at hs
  have hsz := size_list s
  by_cases hl : 11 < s.size
  · have hr : numR s.data.toList = (.int .i64 0, false) := by
      unfold numR numO
      rw [if_neg (by omega)]
    rw [hr]
    clear hr hsz
    go_enter Tryz.func172, Tryz.ntmps172
    go_wp2
    go_ret2
    exact ⟨rfl, Below.refl _ _⟩
  · cases ha : atoi s.data.toList with
    | none =>
      have hr : numR s.data.toList = (.int .i64 0, false) := by
        unfold numR numO
        rw [if_pos (by omega), ha]
      rw [hr]
      obtain ⟨te, pe, hv⟩ := h.syn
      have hc := Tryz.strconv_Atoi_err s (by omega) ha (.iface te pe) w hv (Or.inr ⟨te, pe, rfl⟩)
      clear hr hsz ha hv
      go_enter Tryz.func172, Tryz.ntmps172
      go_wp2_with (go_at_call 208; refine hc.mono ?_; rintro e w' ⟨N, rfl, _, _, hb⟩)
      go_ret2
      exact ⟨rfl, hb⟩
    | some n =>
      have hc := Tryz.strconv_Atoi s n (by omega) ha w
      have hbd := atoi_bound ha (by omega)
      by_cases he : itoa n = s.data.toList
      · have hr : numR s.data.toList = (.int .i64 n, true) := by
          unfold numR numO
          rw [if_pos (by omega), ha]
          simp [he]
        rw [hr]
        have hse : bytesOf (itoa n) = s := by rw [he]; exact bytesOf_data s
        clear hr hsz ha he
        go_enter Tryz.func172, Tryz.ntmps172
        go_wp2_with (first
          | (go_at_call 208; refine hc.mono ?_; rintro e w1 ⟨rfl, t, rfl⟩)
          | (go_at_call 64; refine (itoa_any n _ (tab_below h.tab (bytesWorld_below w _ t)) (by omega) (by omega)).mono ?_; rintro e w2 ⟨rfl, k, os, rfl⟩; rw [hse]))
        go_ret2
        exact ⟨rfl, (bytesWorld_below w _ t).trans ((grow_below k os).mono (bytesWorld_below w _ t).size)⟩
      · have hr : numR s.data.toList = (.int .i64 0, false) := by
          unfold numR numO
          rw [if_pos (by omega), ha]
          simp [he]
        rw [hr]
        have hne : ((bytesOf (itoa n)).toList == s.toList) = false := by
          rw [ByteArray.toList_eq, ByteArray.toList_eq]
          simpa [bytesOf] using he
        clear hr hsz ha he
        go_enter Tryz.func172, Tryz.ntmps172
        go_wp2_with (first
          | (go_at_call 208; refine hc.mono ?_; rintro e w1 ⟨rfl, t, rfl⟩)
          | (go_at_call 64; refine (itoa_any n _ (tab_below h.tab (bytesWorld_below w _ t)) (by omega) (by omega)).mono ?_; rintro e w2 ⟨rfl, k, os, rfl⟩))
        go_ret2
        exact ⟨rfl, (bytesWorld_below w _ t).trans ((grow_below k os).mono (bytesWorld_below w _ t).size)⟩

theorem number_any (s : ByteArray) (w : World) (a : Nat → Addr) (h : Env0 w a) (hs : s.size ≤ maxLen) :
    Calls Tryz.prog 172 #[.string s] w fun e w' => e = .returned (.tuple #[(numR s.data.toList).1, .bool (numR s.data.toList).2]) ∧ Below w.heap.size w w' :=
  number_s s w h.s hs

def textB (x : Rw) : ByteArray := if rowE x = 0 then x.1 ++ sp ++ bytesOf (itoa x.2.1) ++ sp ++ bytesOf (itoa x.2.2) else bytesOf []

set_option maxHeartbeats 1000000 in
theorem text_any (x : Rw) (w : World) (a : Nat → Addr) (h : Env w a) (hs : x.1.size ≤ maxLen) :
    Calls Tryz.prog 130 #[.agg #[.string x.1, .int .i64 x.2.1, .int .i64 x.2.2]] w fun e w' => e = .returned (.string (textB x)) ∧ Below w.heap.size w w' := by
  have hb : Below w.heap.size w (w.alloc (.cells #[.string x.1, .int .i64 x.2.1, .int .i64 x.2.2] 54)) := (Below.refl _ _).alloc (Nat.le_refl _) _
  have hc := check_any x _ a (h.below hb) hs
  unfold textB
  by_cases he : rowE x = 0
  · rw [if_pos he]
    rw [he] at hc
    have hbd : inNum x.2.1 = true ∧ inNum x.2.2 = true := by
      unfold rowE at he
      split at he
      · split at he
        · rename_i h'; simpa using h'
        · omega
      · omega
    obtain ⟨p, k, v⟩ := x
    dsimp only at *
    simp only [errV] at hc
    have hp8 : p.size ≤ 8 := by
      unfold rowE at he
      split at he
      · rename_i h'
        simp only [nameB, Bool.and_eq_true, decide_eq_true_eq] at h'
        rw [size_list] at h'
        exact h'.1.2
      · omega
    clear he hs
    have sk : (bytesOf (itoa k)).size ≤ 11 := by
      have := hbd.1
      simp only [inNum, Bool.and_eq_true, decide_eq_true_eq] at this
      simpa [bytesOf, ByteArray.size] using itoa_len k this.1 this.2
    have sv : (bytesOf (itoa v)).size ≤ 11 := by
      have := hbd.2
      simp only [inNum, Bool.and_eq_true, decide_eq_true_eq] at this
      simpa [bytesOf, ByteArray.size] using itoa_len v this.1 this.2
    unfold sp
    have hk1 : inNum k = true := hbd.1
    have hv1 : inNum v = true := hbd.2
    have hm : Tryz.prog.follows .mixedOrders = true := by kernel_rfl
    clear hbd
    go_enter Tryz.func130, Tryz.ntmps130
    go_wp2_with (go_at_call 127; refine hc.mono ?_; rintro e w1 ⟨rfl, hb1⟩)
    have c0 : w1.cell? ⟨w.heap.size, 0, none⟩ = some (.string p) := below_keep hb1 (by simp)
    have c1 : w1.cell? ⟨w.heap.size, 1, none⟩ = some (.int .i64 k) := below_keep hb1 (by simp)
    have c2 : w1.cell? ⟨w.heap.size, 2, none⟩ = some (.int .i64 v) := below_keep hb1 (by simp)
    have d0 := fun n os => cell_grown (cell_lt c0) c0 n os
    have d1 := fun n os => cell_grown (cell_lt c1) c1 n os
    have d2 := fun n os => cell_grown (cell_lt c2) c2 n os
    have hB : Below w.heap.size w w1 := hb.trans (hb1.mono hb.size)
    have htab := tab_below h.tab hB
    have hI : ∀ m : Int, inNum m = true → ∀ n os, Calls Tryz.prog 64 #[.int .i64 m] (grow (w1.drewN n) os) fun e w' => e = .returned (.string (bytesOf (itoa m))) ∧ ∃ q os', w' = grow ((grow (w1.drewN n) os).drewN q) os' := fun m hm n os => by
      simp only [inNum, Bool.and_eq_true, decide_eq_true_eq] at hm
      exact itoa_any m _ (tab_below htab (grow_below n os)) (by omega) (by omega)
    clear c0 c1 c2 htab hc
    have n1 : ¬ 9223372036854775807 < p.size + 1 := by omega
    have n2 : ¬ 9223372036854775807 < p.size + 1 + (bytesOf (itoa k)).size := by omega
    have n3 : ¬ 9223372036854775807 < p.size + 1 + (bytesOf (itoa k)).size + 1 := by omega
    have n4 : ¬ 9223372036854775807 < p.size + 1 + (bytesOf (itoa k)).size + 1 + (bytesOf (itoa v)).size := by omega
    have m1 : ¬ 9223372036854775806 < p.size := by omega
    have m3 : ¬ 9223372036854775806 < p.size + 1 + (bytesOf (itoa k)).size := by omega
    go_quiet_grown ((go_at_call 64; exact Calls.grown_of (hI _ (by assumption) _ _)))
    go_wp2
    go_ret
    exact ⟨rfl, hB.trans ((grow_below nq osq).mono hB.size)⟩
  · rw [if_neg he]
    obtain ⟨m, hm⟩ : ∃ m, rowE x = m + 1 := ⟨rowE x - 1, by omega⟩
    rw [hm] at hc
    simp only [errV] at hc
    obtain ⟨p, k, v⟩ := x
    dsimp only at *
    clear he hs hm
    go_enter Tryz.func130, Tryz.ntmps130
    go_wp2_with (go_at_call 127; refine hc.mono ?_; rintro e w1 ⟨rfl, hb1⟩)
    go_ret
    exact ⟨rfl, hb.trans (hb1.mono hb.size)⟩
end Go.Proofs.YtdhkdjlgmbejnaaGreatDoor
namespace Go.Proofs.YtdhkdjlgmbejnaaGreatDoor
open Go.RowKit Go.Extern.Stop Go.Stop Go.Extern Go.Sort Go.Shelf Go.Lib

def tabA (n : Nat) : Array Value := (Array.range 256).map fun i => .int .u32 (if i < n then (crcF8 i : Int) else 0)

theorem tabA_size (n : Nat) : (tabA n).size = 256 := by simp [tabA]
theorem tabA_at (n i : Nat) (h : i < 256) : (tabA n)[i]? = some (.int .u32 (if i < n then (crcF8 i : Int) else 0)) := by
  simp [tabA, h]
theorem tabA_set (n : Nat) (h : n < 256) : (tabA n).setIfInBounds n (.int .u32 (crcF8 n : Int)) = tabA (n + 1) := by
  apply Array.ext_getElem?
  intro i
  rw [Array.getElem?_setIfInBounds]
  by_cases hi : i < 256
  · rw [tabA_at _ _ hi, tabA_at _ _ hi, tabA_size]
    by_cases e : n = i
    · subst e; simp [h]
    · rw [if_neg e]
      by_cases h2 : i < n
      · rw [if_pos h2, if_pos (by omega)]
      · rw [if_neg h2, if_neg (by omega)]
  · have h1 : ∀ k, (tabA k)[i]? = none := fun k => Array.getElem?_eq_none (by rw [tabA_size]; omega)
    rw [h1, h1, tabA_size]
    by_cases e : n = i
    · subst e; omega
    · rw [if_neg e]
theorem tabA_zero : tabA 0 = Array.replicate 256 (.int .u32 0) := by
  apply Array.ext_getElem?
  intro i
  by_cases hi : i < 256
  · rw [tabA_at _ _ hi]; simp [hi]
  · rw [Array.getElem?_eq_none (by rw [tabA_size]; omega), Array.getElem?_eq_none (by simp; omega)]

def crcI (j : Nat) (x : Nat) : Nat := Nat.repeat crcF j x
theorem crcI_succ (j x : Nat) : crcI (j + 1) x = crcF (crcI j x) := rfl
theorem crcI_lt (j : Nat) {x : Nat} (h : x < 4294967296) : crcI j x < 4294967296 := by
  induction j with
  | zero => exact h
  | succ j ih => rw [crcI_succ]; exact crcF_lt ih
theorem crcI_eight (x : Nat) : crcI 8 x = crcF8 x := rfl

theorem Tryz.zeroTab : Tryz.zeroCells237 = tabA 0 := by rw [tabA_zero]; kernel_rfl
theorem Tryz.sizeTab : (Tryz.prog.info? 237).map (·.size) = some 256 := by kernel_rfl

theorem tabA_all (n : Nat) : (tabA n).all (·.oneCell') = true := by
  rw [Array.all_eq_true]
  intro i hi
  have h := tabA_at n i (by rw [tabA_size] at hi; exact hi)
  rw [Array.getElem?_eq_getElem hi] at h
  rw [Option.some.inj h]
  rfl

theorem below_setRow {B : Nat} {a w : World} (h : Below B a w) (g : Nat) (hg : B ≤ g) (cs : Array Value) : Below B a (w.setRow g cs) := by
  refine ⟨h.os, h.tape, h.output, by rw [size_setRow]; exact h.size, fun k hk => ?_⟩
  have e : (w.setRow g cs).heap[k]? = w.heap[k]? := by
    unfold World.setRow
    simp only [Array.getElem?_modify]
    rw [if_neg (by omega)]
  rw [e]
  exact h.block k hk

set_option maxRecDepth 100000 in
set_option maxHeartbeats 2000000 in
theorem byteSums_any (w : World) : Calls Tryz.prog 169 #[] w fun e w' => e = .returned (.agg (tabA 256)) ∧ Below w.heap.size w w' := by
  have hz := Tryz.zeroTab
  have hal : Below w.heap.size w ((w.alloc (.cells (tabA 0) 237)).alloc (.cells (tabA 0) 237)) := ((Below.refl _ _).alloc (Nat.le_refl _) _).alloc (by simp) _
  have hA := heap_alloc2_old w (.cells (tabA 0) 237) (.cells (tabA 0) 237)
  have hB := heap_alloc2_new w (.cells (tabA 0) 237) (.cells (tabA 0) 237)
  go_enter Tryz.func169, Tryz.ntmps169
  go_wp2
  clear hz
  go_loopw [5] (fun k wr => ∃ n : Nat, n ≤ 256 ∧ k = .int .i64 n ∧ Below w.heap.size w wr ∧ wr.heap[w.heap.size]? = some (.cells (tabA 0) 237 (0, 0)) ∧ wr.heap[w.heap.size + 1]? = some (.cells (tabA n) 237 (0, 0))) (fun k _ => 256 - (intOf k).toNat)
  case atStart => exact ⟨0, by omega, rfl, hal, hA, hB⟩
  case round =>
    clear hA hB hal
    obtain ⟨n, hn, rfl, hb, h0, h1⟩ := hrel
    have H0 : Hid (wr.heap[w.heap.size]? = some (.cells (tabA 0) 237 (0, 0))) := h0
    have H1 : Hid (wr.heap[w.heap.size + 1]? = some (.cells (tabA n) 237 (0, 0))) := h1
    clear h0 h1
    by_cases hlt : n < 256
    · have hi : (n : Int) < 256 := by omega
      have hi0 : (0 : Int) ≤ (n : Int) := by omega
      have hcell : wr.cell? ⟨w.heap.size + 1, n, none⟩ = some (.int .u32 0) := by rw [cell_of_row _ _ _ _ _ _ H1.out, tabA_at _ _ hlt, if_neg (by omega)]
      have hfz : wr.frozen? ⟨w.heap.size + 1, n, none⟩ = false := frozen_of_row _ _ _ _ _ H1.out
      have hw0 : IntKind.u32.wrap (n : Int) = (n : Int) := by rw [IntKind.wrap_u32']; omega
      go_wp2
      go_loop [3, 10] (fun s j => ∃ m : Nat, m ≤ 8 ∧ j = .int .i64 m ∧ s = .int .u32 (crcI m n : Nat)) (fun _ j => 8 - (intOf j).toNat)
      case atStart => exact ⟨0, by omega, rfl, rfl⟩
      case round =>
        obtain ⟨m, hm, rfl, rfl⟩ := hrel
        by_cases hmlt : m < 8
        · have hmi : (m : Int) < 8 := by omega
          have hcl := crcI_lt m (x := n) (by omega)
          have HS := crcI_succ m n
          generalize crcI m n = c at hcl HS ⊢
          have HS' : Hid (crcI (m + 1) n = crcF c) := HS
          clear HS
          have hand : bits .and .u32 (c : Int) 1 = ((c % 2 : Nat) : Int) := by
            have := u32_and_nat c 1 hcl (by decide)
            rw [nat_mask1] at this
            exact this
          by_cases hpar : c % 2 = 1
          · have hbit : (bits .and .u32 (c : Int) 1 == 1) = true := by rw [hand, hpar]; rfl
            have hx : bits .xor .u32 ((c : Int) / 2) 3988292384 = ((c / 2 ^^^ 3988292384 : Nat) : Int) := by
              have := u32_xor_nat (c / 2) 3988292384 (by omega) (by decide)
              simpa using this
            clear hand
            go_wp2
            go_round
            case rel => exact ⟨m + 1, by omega, by go_num, by rw [HS'.out]; unfold crcF; rw [if_pos hpar]⟩
            case measure => simp [intOf]; omega
          · have hbit : (bits .and .u32 (c : Int) 1 == 1) = false := by rw [hand, show c % 2 = 0 by omega]; rfl
            clear hand
            go_wp2
            go_round
            case rel => exact ⟨m + 1, by omega, by go_num, by rw [HS'.out]; unfold crcF; rw [if_neg hpar]; simp⟩
            case measure => simp [intOf]; omega
        · obtain rfl : m = 8 := by omega
          rw [crcI_eight]
          have hset := heap_setCell_same wr (w.heap.size + 1) n (tabA n) 237 (.int .u32 (crcF8 n : Nat)) H1.out
          have hsame := heap_setCell_other wr ⟨w.heap.size + 1, n, none⟩ w.heap.size (.int .u32 (crcF8 n : Nat)) (by simp)
          have HSET : Hid ((wr.setCell ⟨w.heap.size + 1, n, none⟩ (.int .u32 (crcF8 n : Nat))).heap[w.heap.size + 1]? = some (.cells (tabA (n + 1)) 237 (0, 0))) := by
            show _ = _
            rw [hset, tabA_set n hlt]
          have HSAME : Hid ((wr.setCell ⟨w.heap.size + 1, n, none⟩ (.int .u32 (crcF8 n : Nat))).heap[w.heap.size]? = some (.cells (tabA 0) 237 (0, 0))) := by
            show _ = _
            rw [hsame]; exact H0.out
          have hbS : Below w.heap.size w (wr.setCell ⟨w.heap.size + 1, n, none⟩ (.int .u32 (crcF8 n : Nat))) := hb.setCell (by simp) _
          clear hset hsame
          go_wp2
          go_roundw
          case rel => exact ⟨n + 1, by omega, by go_num, hbS, HSAME.out, HSET.out⟩
          case measure => simp [intOf]; omega
    · obtain rfl : n = 256 := by omega
      go_wp2_with (first
        | (refine wpList_load_row rfl 237 _ rfl (w.heap.size + 1) rfl 237 (tabA 256) (0, 0) _ H1.out Tryz.underlying237 rfl (by rw [tabA_size]; exact Tryz.sizeTab) ?_)
        | (refine wpList_store_row rfl 237 _ _ rfl w.heap.size (tabA 256) rfl rfl 237 (tabA 0) H0.out (by rw [tabA_size]; exact Tryz.sizeTab) (by rw [tabA_size, tabA_size]) (tabA_all _) ?_))
      refine bodyPost_ret (results_cell_row rfl _ _ w.heap.size 237 (tabA 256) (0, 0) _ rfl (setRow_heap wr w.heap.size (tabA 0) _ _ _ H0.out) Tryz.underlying237 rfl (by rw [tabA_size]; exact Tryz.sizeTab)) rfl ⟨rfl, ?_⟩
      exact below_setRow hb _ (Nat.le_refl _) _

set_option maxRecDepth 100000 in
set_option maxHeartbeats 2000000 in
theorem sum_any (s : ByteArray) (w : World) (hs : s.size ≤ maxLen) : Calls Tryz.prog 117 #[.string s] w fun e w' => e = .returned (.int .u32 (sumL s.data.toList : Nat)) ∧ Below w.heap.size w w' := by
  unfold maxLen at hs
  have hz := Tryz.zeroTab
  have hbs := byteSums_any w
  go_enter Tryz.func117, Tryz.ntmps117
  go_wp2_with fail
  refine hbs.mono ?_
  rintro e w1 ⟨rfl, hb1⟩
  clear hbs
  have hA := heap_alloc_new w1 (.cells (tabA 0) 237)
  have hbA : Below w.heap.size w (w1.alloc (.cells (tabA 0) 237)) := hb1.alloc hb1.size _
  go_wp2_with (refine wpList_store_row rfl 237 _ _ rfl w1.heap.size (tabA 256) rfl rfl 237 (tabA 0) hA (by rw [tabA_size]; exact Tryz.sizeTab) (by rw [tabA_size, tabA_size]) (tabA_all _) ?_)
  clear hz
  have hS := setRow_heap (w1.alloc (.cells (tabA 0) 237)) w1.heap.size (tabA 0) (tabA 256) _ _ hA
  have hbS : Below w.heap.size w ((w1.alloc (.cells (tabA 0) 237)).setRow w1.heap.size (tabA 256)) := below_setRow hbA _ hb1.size _
  generalize w1.heap.size = g at hS hbS ⊢
  generalize (w1.alloc (.cells (tabA 0) 237)).setRow g (tabA 256) = W2 at hS hbS ⊢
  have HC : Hid (∀ i, i < 256 → W2.cell? ⟨g, i, none⟩ = some (.int .u32 (crcF8 i : Nat))) := fun i hi => by
    rw [cell_of_row _ _ _ _ _ _ hS, tabA_at _ _ hi, if_pos hi]
  clear hA hbA hS
  go_loop [4, 5] (fun c k => ∃ n : Nat, n ≤ s.size ∧ k = .int .i64 n ∧ c = .int .u32 (crcL (s.data.toList.take n) : Nat)) (fun _ k => s.size - (intOf k).toNat)
  case atStart => exact ⟨0, Nat.zero_le _, rfl, rfl⟩
  case round =>
    obtain ⟨n, hn, rfl, rfl⟩ := hrel
    have hlt4 := crcL_lt (s.data.toList.take n)
    by_cases hlt : n < s.size
    · have hi : (n : Int) < (s.size : Int) := by omega
      have hi0 : (0 : Int) ≤ (n : Int) := by omega
      have htk : s.data.toList.take (n + 1) = s.data.toList.take n ++ [s[n]] := by
        rw [List.take_succ_eq_append_getElem (by simpa using hlt)]; rfl
      have HN : Hid (crcL (s.data.toList.take (n + 1)) = crcB (crcL (s.data.toList.take n)) s[n]) := by
        show _ = _
        rw [htk, crcL_snoc]
      clear htk
      have HT := crcB_table (crcL (s.data.toList.take n)) s[n]
      generalize crcL (s.data.toList.take n) = C at hlt4 HN HT ⊢
      have hb256 := s[n].toNat_lt
      obtain ⟨I, hI⟩ : ∃ I, (C ^^^ s[n].toNat) % 256 = I := ⟨_, rfl⟩
      have hI256 : I < 256 := by omega
      have hidx : bits .xor .u8 ((C : Int) % 256) (s[n].toNat : Int) = (I : Int) := by
        have h1 := u8_xor_nat (C % 256) s[n].toNat (by omega) (by omega)
        have h2 := Nat.xor_mod_two_pow (a := C) (b := s[n].toNat) (n := 8)
        rw [show (2 : Nat) ^ 8 = 256 from rfl, Nat.mod_eq_of_lt (a := s[n].toNat) (by omega)] at h2
        rw [← h2, hI] at h1
        simpa using h1
      have hcell := HC.out I hI256
      have hFl := crcF8_lt (x := I) (by omega)
      have hx : bits .xor .u32 (crcF8 I : Int) ((C : Int) / 256) = ((crcF8 I ^^^ C / 256 : Nat) : Int) := by
        have := u32_xor_nat (crcF8 I) (C / 256) hFl (by omega)
        simpa using this
      rw [hI] at HT
      have HT' : Hid (crcB C s[n] = crcF8 I ^^^ C / 256) := HT
      clear HT hI hFl
      generalize crcF8 I = FI at hcell hx HT'
      have hI1 : (I : Int) < 256 := by omega
      have hI0 : (0 : Int) ≤ (I : Int) := by omega
      go_wp2
      go_round
      case rel => exact ⟨n + 1, by omega, by go_num, by rw [HN.out, HT'.out]⟩
      case measure => simp [intOf]; omega
    · obtain rfl : n = s.size := by omega
      have hta : s.data.toList.take s.size = s.data.toList := List.take_of_length_le (by rw [size_list]; exact Nat.le_refl _)
      rw [hta] at hlt4 ⊢
      have hx : bits .xor .u32 IntKind.u32.max (crcL s.data.toList : Int) = ((sumL s.data.toList : Nat) : Int) := by
        have e : IntKind.u32.max = 4294967295 := by decide
        rw [e]
        have := u32_xor_nat 4294967295 (crcL s.data.toList) (by decide) hlt4
        unfold sumL
        rw [Nat.xor_comm]
        exact this
      clear hta
      go_wp2
      go_ret
      exact ⟨rfl, hbS⟩
end Go.Proofs.YtdhkdjlgmbejnaaGreatDoor
