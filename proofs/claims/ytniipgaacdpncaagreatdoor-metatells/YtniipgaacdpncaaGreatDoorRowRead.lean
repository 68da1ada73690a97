/-
  The contracts of row.Name, row.Check, row.Number, row.Text and row.Read.
  The contracts of row.Check, row.Number, row.Text and row.Read.
-/
import Derived.Test.YtniipgaacdpncaaGreatDoorRowMem
import Derived.Test.YtniipgaacdpncaaGreatDoorTextPure
import Derived.Shelf.SlSortCmp.QuietGrown
import Derived.Lib.AtoiErrMem
import Derived.Lib.LaidTab
namespace Go.Proofs.YtniipgaacdpncaaGreatDoor
open Go.RowKit Go.Extern.Stop Go.Stop Go.Extern Go.Sort Go.Shelf Go.Lib

theorem size_list (s : ByteArray) : s.data.toList.length = s.size := by cases s; simp [ByteArray.size]

theorem byte_list (s : ByteArray) (k : Nat) (h : k < s.size) : s.data.toList[k]? = some s[k] := by
  cases s with | mk d => simp [ByteArray.size] at h; simp [h]; rfl

theorem all_succ {s : ByteArray} {n : Nat} (h : ∀ j c, j < n → s.data.toList[j]? = some c → nbI c.toNat = true) (hn : n < s.size) (e : nbI s[n].toNat = true) : ∀ j c, j < n + 1 → s.data.toList[j]? = some c → nbI c.toNat = true := fun j c hj hc => by
  rcases Nat.lt_or_ge j n with h' | h'
  · exact h j c h' hc
  · obtain rfl : j = n := by omega
    rw [byte_list s j hn] at hc
    rw [← Option.some.inj hc]; exact e

end Go.Proofs.YtniipgaacdpncaaGreatDoor
namespace Go.Proofs.YtniipgaacdpncaaGreatDoor
open Go.RowKit Go.Extern.Stop Go.Stop Go.Extern Go.Sort Go.Shelf Go.Lib

/-- What the package-level variables hold that the rows' functions read: a 0, a 1, a 4: the errors for text, bound and name. -/
structure Env (w : World) (a : Nat → Addr) : Prop where
  text : w.cell? ⟨2, 0, none⟩ = some (.iface 159 (.pointer (some (a 0))))
  bound : w.cell? ⟨3, 0, none⟩ = some (.iface 159 (.pointer (some (a 1))))
  name : w.cell? ⟨6, 0, none⟩ = some (.iface 159 (.pointer (some (a 4))))
  maxl : ∃ m, w.cell? ⟨14, 0, none⟩ = some (.int .i64 m)
  syn : ∃ te pe, w.cell? ⟨17, 0, none⟩ = some (.iface te pe)
  tab : Lib.TabIs Tryz.prog w "internal/strconv.uint64pow10" .u64 Lib.pow10Tab

theorem tab_below {w w' : World} {n : String} {k : IntKind} {zs : List Int} (h : Lib.TabIs Tryz.prog w n k zs) (hb : Below w.heap.size w w') : Lib.TabIs Tryz.prog w' n k zs := by
  unfold Lib.TabIs World.var? at *
  cases hg : Tryz.prog.globalNamed n with
  | none => rw [hg] at h; simp at h
  | some g =>
    rw [hg] at h
    simp only [Option.bind_some] at h ⊢
    have hlt : g < w.heap.size := by
      rcases Nat.lt_or_ge g w.heap.size with h' | h'
      · exact h'
      · simp [Array.getElem?_eq_none h'] at h
    rw [hb.block g hlt]; exact h

theorem Env.below {w w' : World} {a : Nat → Addr} (h : Env w a) (hb : Below w.heap.size w w') : Env w' a where
  text := below_keep hb h.text
  bound := below_keep hb h.bound
  name := below_keep hb h.name
  maxl := let ⟨m, hm⟩ := h.maxl; ⟨m, below_keep hb hm⟩
  syn := let ⟨t, p, hm⟩ := h.syn; ⟨t, p, below_keep hb hm⟩
  tab := tab_below h.tab hb

/-- The same without the error for a name. -/
structure Env0 (w : World) (a : Nat → Addr) : Prop where
  text : w.cell? ⟨2, 0, none⟩ = some (.iface 159 (.pointer (some (a 0))))
  bound : w.cell? ⟨3, 0, none⟩ = some (.iface 159 (.pointer (some (a 1))))
  maxl : ∃ m, w.cell? ⟨14, 0, none⟩ = some (.int .i64 m)
  syn : ∃ te pe, w.cell? ⟨17, 0, none⟩ = some (.iface te pe)
  tab : Lib.TabIs Tryz.prog w "internal/strconv.uint64pow10" .u64 Lib.pow10Tab

theorem Env0.below {w w' : World} {a : Nat → Addr} (h : Env0 w a) (hb : Below w.heap.size w w') : Env0 w' a where
  text := below_keep hb h.text
  bound := below_keep hb h.bound
  maxl := let ⟨m, hm⟩ := h.maxl; ⟨m, below_keep hb hm⟩
  syn := let ⟨t, p, hm⟩ := h.syn; ⟨t, p, below_keep hb hm⟩
  tab := tab_below h.tab hb

theorem Env.weak {w : World} {a : Nat → Addr} (h : Env w a) : Env0 w a := ⟨h.text, h.bound, h.maxl, h.syn, h.tab⟩

/-- What reading and writing a number wants. -/
structure EnvS (w : World) : Prop where
  maxl : ∃ m, w.cell? ⟨14, 0, none⟩ = some (.int .i64 m)
  syn : ∃ te pe, w.cell? ⟨17, 0, none⟩ = some (.iface te pe)
  tab : Lib.TabIs Tryz.prog w "internal/strconv.uint64pow10" .u64 Lib.pow10Tab

theorem EnvS.below {w w' : World} (h : EnvS w) (hb : Below w.heap.size w w') : EnvS w' where
  maxl := let ⟨m, hm⟩ := h.maxl; ⟨m, below_keep hb hm⟩
  syn := let ⟨t, p, hm⟩ := h.syn; ⟨t, p, below_keep hb hm⟩
  tab := tab_below h.tab hb
theorem Env0.s {w : World} {a : Nat → Addr} (h : Env0 w a) : EnvS w := ⟨h.maxl, h.syn, h.tab⟩
theorem Env.s {w : World} {a : Nat → Addr} (h : Env w a) : EnvS w := ⟨h.maxl, h.syn, h.tab⟩

/-- The value of the error of a number. -/
def errV (a : Nat → Addr) : Nat → Value
  | 0 => .nilIface
  | n + 1 => .iface 159 (.pointer (some (a n)))

theorem grow_below {w : World} (k : Nat) (os : Array Obj) : Below w.heap.size w (grow (w.drewN k) os) :=
  (below_drewN (Below.refl _ _) k).trans (show Below w.heap.size (w.drewN k) _ from below_grow (w := w.drewN k) os)

theorem itoa_any (n : Int) (w : World) (ht : Lib.TabIs Tryz.prog w "internal/strconv.uint64pow10" .u64 Lib.pow10Tab) (h0 : -9223372036854775808 ≤ n) (h1 : n ≤ 9223372036854775807) :
    Calls Tryz.prog 21 #[.int .i64 n] w fun e w' => e = .returned (.string (bytesOf (itoa n))) ∧ ∃ k os, w' = grow (w.drewN k) os :=
  Tryz.strconv_Itoa n h0 h1 w ht

def numR (s : List UInt8) : Value × Bool := match numO s with
  | some n => (.int .i64 n, true)
  | none => (.int .i64 0, false)

set_option maxHeartbeats 1000000 in
theorem number_s (s : ByteArray) (w : World) (h : EnvS w) (hs : s.size ≤ maxLen) :
    Calls Tryz.prog 43 #[.string s] w fun e w' => e = .returned (.tuple #[(numR s.data.toList).1, .bool (numR s.data.toList).2]) ∧ Below w.heap.size w w' := by
  unfold maxLen at hs
  have hsz := size_list s
  by_cases hl : 11 < s.size
  · have hr : numR s.data.toList = (.int .i64 0, false) := by
      unfold numR numO
      rw [if_neg (by omega)]
    rw [hr]
    clear hr hsz
    go_enter Tryz.func43, Tryz.ntmps43
    go_wp2
    go_ret2
    exact ⟨rfl, Below.refl _ _⟩
  · cases ha : atoi s.data.toList with
    | none =>
      have hr : numR s.data.toList = (.int .i64 0, false) := by
        unfold numR numO
        rw [if_pos (by omega), ha]
      rw [hr]
      obtain ⟨te, pe, hv⟩ := h.syn
      have hc := Tryz.strconv_Atoi_err s (by omega) ha (.iface te pe) w hv (Or.inr ⟨te, pe, rfl⟩)
      clear hr hsz ha hv
      go_enter Tryz.func43, Tryz.ntmps43
      go_wp2_with (go_at_call 61; refine hc.mono ?_; rintro e w' ⟨N, rfl, _, _, hb⟩)
      go_ret2
      exact ⟨rfl, hb⟩
    | some n =>
      have hc := Tryz.strconv_Atoi s n (by omega) ha w
      have hbd := atoi_bound ha (by omega)
      by_cases he : itoa n = s.data.toList
      · have hr : numR s.data.toList = (.int .i64 n, true) := by
          unfold numR numO
          rw [if_pos (by omega), ha]
          simp [he]
        rw [hr]
        have hse : bytesOf (itoa n) = s := by rw [he]; exact bytesOf_data s
        clear hr hsz ha he
        go_enter Tryz.func43, Tryz.ntmps43
        go_wp2_with (first
          | (go_at_call 61; refine hc.mono ?_; rintro e w1 ⟨rfl, t, rfl⟩)
          | (go_at_call 21; refine (itoa_any n _ (tab_below h.tab (bytesWorld_below w _ t)) (by omega) (by omega)).mono ?_; rintro e w2 ⟨rfl, k, os, rfl⟩; rw [hse]))
        go_ret2
        exact ⟨rfl, (bytesWorld_below w _ t).trans ((grow_below k os).mono (bytesWorld_below w _ t).size)⟩
      · have hr : numR s.data.toList = (.int .i64 0, false) := by
          unfold numR numO
          rw [if_pos (by omega), ha]
          simp [he]
        rw [hr]
        have hne : ((bytesOf (itoa n)).toList == s.toList) = false := by
          rw [ByteArray.toList_eq, ByteArray.toList_eq]
          simpa [bytesOf] using he
        clear hr hsz ha he
        go_enter Tryz.func43, Tryz.ntmps43
        go_wp2_with (first
          | (go_at_call 61; refine hc.mono ?_; rintro e w1 ⟨rfl, t, rfl⟩)
          | (go_at_call 21; refine (itoa_any n _ (tab_below h.tab (bytesWorld_below w _ t)) (by omega) (by omega)).mono ?_; rintro e w2 ⟨rfl, k, os, rfl⟩))
        go_ret2
        exact ⟨rfl, (bytesWorld_below w _ t).trans ((grow_below k os).mono (bytesWorld_below w _ t).size)⟩

theorem itoa_s (n : Int) (w : World) (h : EnvS w) (h0 : -9223372036854775808 ≤ n) (h1 : n ≤ 9223372036854775807) :
    Calls Tryz.prog 21 #[.int .i64 n] w fun e w' => e = .returned (.string (bytesOf (itoa n))) ∧ Below w.heap.size w w' :=
  (itoa_any n w h.tab h0 h1).mono fun e w' ⟨he, k, os, hw⟩ => ⟨he, by subst hw; exact grow_below k os⟩

theorem number_any (s : ByteArray) (w : World) (a : Nat → Addr) (h : Env0 w a) (hs : s.size ≤ maxLen) :
    Calls Tryz.prog 43 #[.string s] w fun e w' => e = .returned (.tuple #[(numR s.data.toList).1, .bool (numR s.data.toList).2]) ∧ Below w.heap.size w w' :=
  number_s s w h.s hs

/-- A row's text, or none. -/
def textB (x : Rw) : ByteArray := if rowE x = 0 then x.1 ++ sp ++ bytesOf (itoa x.2.1) ++ sp ++ bytesOf (itoa x.2.2) else bytesOf []

end Go.Proofs.YtniipgaacdpncaaGreatDoor
