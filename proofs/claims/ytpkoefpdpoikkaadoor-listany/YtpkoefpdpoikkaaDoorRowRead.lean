/-
  The contracts of row.Check, row.Number, row.Text and row.Read.
-/
import Derived.Test.YtpkoefpdpoikkaaDoorRowMem
import Derived.Test.YtpkoefpdpoikkaaDoorTextPure
import Derived.Shelf.SlSortCmp.QuietGrown
import Derived.Lib.AtoiErrMem
import Derived.Lib.LaidTab
namespace Go.Proofs.YtpkoefpdpoikkaaDoor
open Go.RowKit Go.Extern.Stop Go.Stop Go.Extern Go.Sort Go.Shelf Go.Lib

theorem nameByte_any (n : Int) (w : World) : Calls Tryd.prog 46 #[.int .u8 n] w fun e w' => e = .returned (.bool (nbI n)) ∧ w' = w := by
  by_cases h1 : 97 ≤ n
  · by_cases h2 : n ≤ 122
    · have hr : nbI n = true := by simp [nbI, h1, h2]
      rw [hr]
      go_enter Tryd.func46, Tryd.ntmps46
      go_wp2
      go_ret
      exact ⟨rfl, rfl⟩
    · have hr : nbI n = false := by simp [nbI]; omega
      rw [hr]
      have h3 : (48 : Int) ≤ n := by omega
      have h4 : ¬ n ≤ 57 := by omega
      go_enter Tryd.func46, Tryd.ntmps46
      go_wp2
      go_ret
      exact ⟨rfl, rfl⟩
  · by_cases h3 : 48 ≤ n
    · by_cases h4 : n ≤ 57
      · have hr : nbI n = true := by simp [nbI, h3, h4]
        rw [hr]
        go_enter Tryd.func46, Tryd.ntmps46
        go_wp2
        go_ret
        exact ⟨rfl, rfl⟩
      · have hr : nbI n = false := by simp [nbI]; omega
        rw [hr]
        go_enter Tryd.func46, Tryd.ntmps46
        go_wp2
        go_ret
        exact ⟨rfl, rfl⟩
    · have hr : nbI n = false := by simp [nbI]; omega
      rw [hr]
      go_enter Tryd.func46, Tryd.ntmps46
      go_wp2
      go_ret
      exact ⟨rfl, rfl⟩

theorem inBounds_any (n : Int) (w : World) : Calls Tryd.prog 26 #[.int .i64 n] w fun e w' => e = .returned (.bool (inNum n)) ∧ w' = w := by
  by_cases h1 : -1073741824 ≤ n
  · by_cases h2 : n ≤ 1073741824
    · have hr : inNum n = true := by simp [inNum, h1, h2]
      rw [hr]
      go_enter Tryd.func26, Tryd.ntmps26
      go_wp2
      go_ret
      exact ⟨rfl, rfl⟩
    · have hr : inNum n = false := by simp [inNum, h2]
      rw [hr]
      go_enter Tryd.func26, Tryd.ntmps26
      go_wp2
      go_ret
      exact ⟨rfl, rfl⟩
  · have hr : inNum n = false := by simp [inNum, h1]
    rw [hr]
    go_enter Tryd.func26, Tryd.ntmps26
    go_wp2
    go_ret
    exact ⟨rfl, rfl⟩

theorem size_list (s : ByteArray) : s.data.toList.length = s.size := by cases s; simp [ByteArray.size]

theorem byte_list (s : ByteArray) (k : Nat) (h : k < s.size) : s.data.toList[k]? = some s[k] := by
  cases s with | mk d => simp [ByteArray.size] at h; simp [h]; rfl

theorem all_succ {s : ByteArray} {n : Nat} (h : ∀ j c, j < n → s.data.toList[j]? = some c → nbI c.toNat = true) (hn : n < s.size) (e : nbI s[n].toNat = true) : ∀ j c, j < n + 1 → s.data.toList[j]? = some c → nbI c.toNat = true := fun j c hj hc => by
  rcases Nat.lt_or_ge j n with h' | h'
  · exact h j c h' hc
  · obtain rfl : j = n := by omega
    rw [byte_list s j hn] at hc
    rw [← Option.some.inj hc]; exact e

set_option maxHeartbeats 1000000 in
theorem word_any (s : ByteArray) (m : Nat) (w : World) (hs : s.size ≤ maxLen) (hm : m ≤ 1000) : Calls Tryd.prog 37 #[.string s, .int .i64 m] w fun e w' => e = .returned (.bool (wordB m s.data.toList)) ∧ w' = w := by
  unfold maxLen at hs
  have hsz := size_list s
  by_cases h1 : s.size < 1
  · have hr : wordB m s.data.toList = false := by simp only [wordB, hsz]; simp; omega
    rw [hr]
    clear hsz hr
    go_enter Tryd.func37, Tryd.ntmps37
    go_wp2
    go_ret
    exact ⟨rfl, rfl⟩
  · by_cases h2 : m < s.size
    · have hr : wordB m s.data.toList = false := by simp only [wordB, hsz]; simp; omega
      rw [hr]
      clear hsz hr
      go_enter Tryd.func37, Tryd.ntmps37
      go_wp2
      go_ret
      exact ⟨rfl, rfl⟩
    · generalize hr : wordB m s.data.toList = r
      have HR : Hid (wordB m s.data.toList = r) := hr
      have HS : Hid (s.data.toList.length = s.size) := hsz
      clear hr hsz
      go_enter Tryd.func37, Tryd.ntmps37
      go_wp2
      go_loop [5] (fun k => ∃ n : Nat, n ≤ s.size ∧ (∀ j c, j < n → s.data.toList[j]? = some c → nbI c.toNat = true) ∧ k = .int .i64 n) (fun k => s.size - (intOf k).toNat)
      case atStart => exact ⟨0, by omega, by omega, rfl⟩
      case round =>
        obtain ⟨n, hn, ht, rfl⟩ := hrel
        have HT : Hid (∀ j c, j < n → s.data.toList[j]? = some c → nbI c.toNat = true) := ht
        clear ht
        by_cases hlt : n < s.size
        · have hi : (n : Int) < (s.size : Int) := by omega
          have hb := nameByte_any (s[n].toNat : Int) w
          cases hv : nbI (s[n].toNat : Int)
          · rw [hv] at hb
            have hr : r = false := by
              rw [← HR.out]
              simp only [wordB, Bool.and_eq_false_iff]
              right
              rw [List.all_eq_false]
              exact ⟨s[n], List.mem_of_getElem? (byte_list s n hlt), by rw [hv]; simp⟩
            subst hr
            clear hv
            go_wp2_with (go_at_call 46; refine hb.mono ?_; rintro e w' ⟨rfl, rfl⟩)
            go_ret
            exact ⟨rfl, rfl⟩
          · rw [hv] at hb
            have HV : Hid (nbI (s[n].toNat : Int) = true) := hv
            clear hv
            go_wp2_with (go_at_call 46; refine hb.mono ?_; rintro e w' ⟨rfl, rfl⟩)
            go_round
            case rel => exact ⟨n + 1, by omega, all_succ HT.out hlt HV.out, by go_num⟩
            case measure => simp [intOf]; omega
        · have hr : r = true := by
            rw [← HR.out]
            simp only [wordB, Bool.and_eq_true, decide_eq_true_eq, List.all_eq_true]
            have := HS.out
            refine ⟨⟨by omega, by omega⟩, fun c hc => ?_⟩
            obtain ⟨k, hk⟩ := List.mem_iff_getElem?.1 hc
            have hk' : k < s.data.toList.length := by
              rcases Nat.lt_or_ge k s.data.toList.length with h | h
              · exact h
              · rw [List.getElem?_eq_none h] at hk; cases hk
            exact HT.out k c (by omega) hk
          subst hr
          have hn' : n = s.size := by omega
          subst hn'
          go_wp2
          go_ret
          exact ⟨rfl, rfl⟩

end Go.Proofs.YtpkoefpdpoikkaaDoor
namespace Go.Proofs.YtpkoefpdpoikkaaDoor
open Go.RowKit Go.Extern.Stop Go.Stop Go.Extern Go.Sort Go.Shelf Go.Lib

theorem tab_below {w w' : World} {n : String} {k : IntKind} {zs : List Int} (h : Lib.TabIs Tryd.prog w n k zs) (hb : Below w.heap.size w w') : Lib.TabIs Tryd.prog w' n k zs := by
  unfold Lib.TabIs World.var? at *
  cases hg : Tryd.prog.globalNamed n with
  | none => rw [hg] at h; simp at h
  | some g =>
    rw [hg] at h
    simp only [Option.bind_some] at h ⊢
    have hlt : g < w.heap.size := by
      rcases Nat.lt_or_ge g w.heap.size with h' | h'
      · exact h'
      · simp [Array.getElem?_eq_none h'] at h
    rw [hb.block g hlt]; exact h

structure EnvS (w : World) : Prop where
  maxl : ∃ m, w.cell? ⟨7, 0, none⟩ = some (.int .i64 m)
  syn : ∃ te pe, w.cell? ⟨9, 0, none⟩ = some (.iface te pe)
  tab : Lib.TabIs Tryd.prog w "internal/strconv.uint64pow10" .u64 Lib.pow10Tab

theorem EnvS.below {w w' : World} (h : EnvS w) (hb : Below w.heap.size w w') : EnvS w' where
  maxl := let ⟨m, hm⟩ := h.maxl; ⟨m, below_keep hb hm⟩
  syn := let ⟨t, p, hm⟩ := h.syn; ⟨t, p, below_keep hb hm⟩
  tab := tab_below h.tab hb
def errV (a : Nat → Addr) : Nat → Value
  | 0 => .nilIface
  | n + 1 => .iface 117 (.pointer (some (a n)))

theorem grow_below {w : World} (k : Nat) (os : Array Obj) : Below w.heap.size w (grow (w.drewN k) os) :=
  (below_drewN (Below.refl _ _) k).trans (show Below w.heap.size (w.drewN k) _ from below_grow (w := w.drewN k) os)

theorem itoa_any (n : Int) (w : World) (ht : Lib.TabIs Tryd.prog w "internal/strconv.uint64pow10" .u64 Lib.pow10Tab) (h0 : -9223372036854775808 ≤ n) (h1 : n ≤ 9223372036854775807) :
    Calls Tryd.prog 33 #[.int .i64 n] w fun e w' => e = .returned (.string (bytesOf (itoa n))) ∧ ∃ k os, w' = grow (w.drewN k) os :=
  Tryd.strconv_Itoa n h0 h1 w ht

def numR (s : List UInt8) : Value × Bool := match numO s with
  | some n => (.int .i64 n, true)
  | none => (.int .i64 0, false)

set_option maxHeartbeats 1000000 in
theorem number_s (s : ByteArray) (w : World) (h : EnvS w) (hs : s.size ≤ maxLen) :
    Calls Tryd.prog 36 #[.string s] w fun e w' => e = .returned (.tuple #[(numR s.data.toList).1, .bool (numR s.data.toList).2]) ∧ Below w.heap.size w w' := by
  unfold maxLen at hs
  have hsz := size_list s
  by_cases hl : 11 < s.size
  · have hr : numR s.data.toList = (.int .i64 0, false) := by
      unfold numR numO
      rw [if_neg (by omega)]
    rw [hr]
    clear hr hsz
    go_enter Tryd.func36, Tryd.ntmps36
    go_wp2
    go_ret2
    exact ⟨rfl, Below.refl _ _⟩
  · cases ha : atoi s.data.toList with
    | none =>
      have hr : numR s.data.toList = (.int .i64 0, false) := by
        unfold numR numO
        rw [if_pos (by omega), ha]
      rw [hr]
      obtain ⟨te, pe, hv⟩ := h.syn
      have hc := Tryd.strconv_Atoi_err s (by omega) ha (.iface te pe) w hv (Or.inr ⟨te, pe, rfl⟩)
      clear hr hsz ha hv
      go_enter Tryd.func36, Tryd.ntmps36
      go_wp2_with (go_at_call 45; refine hc.mono ?_; rintro e w' ⟨N, rfl, _, _, hb⟩)
      go_ret2
      exact ⟨rfl, hb⟩
    | some n =>
      have hc := Tryd.strconv_Atoi s n (by omega) ha w
      have hbd := atoi_bound ha (by omega)
      by_cases he : itoa n = s.data.toList
      · have hr : numR s.data.toList = (.int .i64 n, true) := by
          unfold numR numO
          rw [if_pos (by omega), ha]
          simp [he]
        rw [hr]
        have hse : bytesOf (itoa n) = s := by rw [he]; exact bytesOf_data s
        clear hr hsz ha he
        go_enter Tryd.func36, Tryd.ntmps36
        go_wp2_with (first
          | (go_at_call 45; refine hc.mono ?_; rintro e w1 ⟨rfl, t, rfl⟩)
          | (go_at_call 33; refine (itoa_any n _ (tab_below h.tab (bytesWorld_below w _ t)) (by omega) (by omega)).mono ?_; rintro e w2 ⟨rfl, k, os, rfl⟩; rw [hse]))
        go_ret2
        exact ⟨rfl, (bytesWorld_below w _ t).trans ((grow_below k os).mono (bytesWorld_below w _ t).size)⟩
      · have hr : numR s.data.toList = (.int .i64 0, false) := by
          unfold numR numO
          rw [if_pos (by omega), ha]
          simp [he]
        rw [hr]
        have hne : ((bytesOf (itoa n)).toList == s.toList) = false := by
          rw [ByteArray.toList_eq, ByteArray.toList_eq]
          simpa [bytesOf] using he
        clear hr hsz ha he
        go_enter Tryd.func36, Tryd.ntmps36
        go_wp2_with (first
          | (go_at_call 45; refine hc.mono ?_; rintro e w1 ⟨rfl, t, rfl⟩)
          | (go_at_call 33; refine (itoa_any n _ (tab_below h.tab (bytesWorld_below w _ t)) (by omega) (by omega)).mono ?_; rintro e w2 ⟨rfl, k, os, rfl⟩))
        go_ret2
        exact ⟨rfl, (bytesWorld_below w _ t).trans ((grow_below k os).mono (bytesWorld_below w _ t).size)⟩

theorem itoa_s (n : Int) (w : World) (h : EnvS w) (h0 : -9223372036854775808 ≤ n) (h1 : n ≤ 9223372036854775807) :
    Calls Tryd.prog 33 #[.int .i64 n] w fun e w' => e = .returned (.string (bytesOf (itoa n))) ∧ Below w.heap.size w w' :=
  (itoa_any n w h.tab h0 h1).mono fun e w' ⟨he, k, os, hw⟩ => ⟨he, by subst hw; exact grow_below k os⟩

end Go.Proofs.YtpkoefpdpoikkaaDoor
