/-
  The contracts of row.Check, row.Number, row.Text and row.Read.
-/
import Derived.Test.YtpkoefpdpoikkaaGreatDoorRowCut
import Derived.Test.YtpkoefpdpoikkaaGreatDoorTextPure
import Derived.Shelf.SlSortCmp.QuietGrown
import Derived.Lib.AtoiErrMem
import Derived.Lib.LaidTab
namespace Go.Proofs
open Go.Shelf
def Tryz.lays169_ren : Go.Shelf.Ren := ⟨fun | 169 => 90 | n => n, fun | 70 => 128 | 9 => 9 | 0 => 0 | 72 => 130 | 37 => 81 | 127 => 178 | 3 => 3 | 5 => 5 | n => n, fun | n => n⟩
theorem Tryz.lays169 : Go.Proofs.Lays.n169 Tryz.prog Tryz.lays169_ren := {
  mixed := by kernel_rfl
  f169 := Tryz.func90.trans (congrArg some (by kernel_rfl))
  t0 := Tryz.underlying0
  a0 := Tryz.isAgg0
  z0 := Tryz.sizeOf0
  v0 := Tryz.zeroValue0
  t3 := Tryz.underlying3
  a3 := Tryz.isAgg3
  z3 := Tryz.sizeOf3
  v3 := Tryz.zeroValue3
  t9 := Tryz.underlying9
  a9 := Tryz.isAgg9
  z9 := Tryz.sizeOf9
  v9 := Tryz.zeroValue9
  t37 := Tryz.underlying81
  a37 := Tryz.isAgg81
  z37 := Tryz.sizeOf81
  v37 := Tryz.zeroValue81
  t70 := Tryz.underlying128
  a70 := Tryz.isAgg128
  z70 := Tryz.sizeOf128
  v70 := Tryz.zeroValue128
  t72 := Tryz.underlying130
  a72 := Tryz.isAgg130
  z72 := Tryz.sizeOf130
  v72 := Tryz.zeroValue130
  t127 := Tryz.underlying178
  a127 := Tryz.isAgg178
  z127 := Tryz.sizeOf178
  v127 := Tryz.zeroValue178 }
theorem Tryz.Builder_Extra_169 : Builder.Extra Tryz.prog Tryz.lays169_ren := {
  sizeBuilder := by kernel_rfl
  liesBuilder := by kernel_rfl
  t5 := Tryz.underlying5
  a5 := Tryz.isAgg5
  z5 := Tryz.sizeOf5
  v5 := Tryz.zeroValue5
  infoByte := by kernel_rfl
  cellsByte := by kernel_rfl
  sizeByte := by kernel_rfl
  neB5 := by decide }
open Go.RowKit in
theorem Tryz.Builder_String_any (B b : Nat) (l : List UInt8) (w : World) (h : Lib.IsBuilder 130 5 B b (Lib.byteCells l) w) (hBw : B ≤ w.heap.size) :
    Calls Tryz.prog 90 #[.pointer (some ⟨b, 0, none⟩)] w fun e w' => e = .returned (.string ⟨l.toArray⟩) ∧ Below B w w' := Any.Builder_String_any Tryz.lays169 Tryz.Builder_Extra_169 B b l w h hBw
def Tryz.lays156_ren : Go.Shelf.Ren := ⟨fun | 156 => 62 | 165 => 117 | 166 => 89 | 169 => 90 | 240 => 136 | 241 => 151 | 276 => 176 | 277 => 186 | n => n, fun | 31 => 97 | 9 => 9 | 3 => 3 | 4 => 4 | 0 => 0 | 20 => 20 | 72 => 130 | 76 => 131 | 70 => 128 | 37 => 81 | 75 => 29 | 127 => 178 | 164 => 203 | 5 => 5 | 80 => 133 | n => n, fun | n => n⟩
theorem Tryz.lays156 : Go.Proofs.Lays.n156 Tryz.prog Tryz.lays156_ren := {
  mixed := by kernel_rfl
  f156 := Tryz.func62.trans (congrArg some (by kernel_rfl))
  f165 := Tryz.func117.trans (congrArg some (by kernel_rfl))
  f166 := Tryz.func89.trans (congrArg some (by kernel_rfl))
  f169 := Tryz.func90.trans (congrArg some (by kernel_rfl))
  f240 := Tryz.func136.trans (congrArg some (by kernel_rfl))
  f241 := Tryz.func151.trans (congrArg some (by kernel_rfl))
  f276 := Tryz.func176.trans (congrArg some (by kernel_rfl))
  f277 := Tryz.func186.trans (congrArg some (by kernel_rfl))
  t0 := Tryz.underlying0
  a0 := Tryz.isAgg0
  z0 := Tryz.sizeOf0
  v0 := Tryz.zeroValue0
  t3 := Tryz.underlying3
  a3 := Tryz.isAgg3
  z3 := Tryz.sizeOf3
  v3 := Tryz.zeroValue3
  t4 := Tryz.underlying4
  a4 := Tryz.isAgg4
  z4 := Tryz.sizeOf4
  v4 := Tryz.zeroValue4
  t9 := Tryz.underlying9
  a9 := Tryz.isAgg9
  z9 := Tryz.sizeOf9
  v9 := Tryz.zeroValue9
  t20 := Tryz.underlying20
  a20 := Tryz.isAgg20
  z20 := Tryz.sizeOf20
  v20 := Tryz.zeroValue20
  t31 := Tryz.underlying97
  a31 := Tryz.isAgg97
  z31 := Tryz.sizeOf97
  v31 := Tryz.zeroValue97
  t37 := Tryz.underlying81
  a37 := Tryz.isAgg81
  z37 := Tryz.sizeOf81
  v37 := Tryz.zeroValue81
  t70 := Tryz.underlying128
  a70 := Tryz.isAgg128
  z70 := Tryz.sizeOf128
  v70 := Tryz.zeroValue128
  t72 := Tryz.underlying130
  a72 := Tryz.isAgg130
  z72 := Tryz.sizeOf130
  v72 := Tryz.zeroValue130
  t75 := Tryz.underlying29
  a75 := Tryz.isAgg29
  z75 := Tryz.sizeOf29
  v75 := Tryz.zeroValue29
  t76 := Tryz.underlying131
  a76 := Tryz.isAgg131
  z76 := Tryz.sizeOf131
  v76 := Tryz.zeroValue131
  t127 := Tryz.underlying178
  a127 := Tryz.isAgg178
  z127 := Tryz.sizeOf178
  v127 := Tryz.zeroValue178
  t164 := Tryz.underlying203
  a164 := Tryz.isAgg203
  z164 := Tryz.sizeOf203
  v164 := Tryz.zeroValue203 }
theorem Tryz.Builder_Extra_156 : Builder.Extra Tryz.prog Tryz.lays156_ren := {
  sizeBuilder := by kernel_rfl
  liesBuilder := by kernel_rfl
  t5 := Tryz.underlying5
  a5 := Tryz.isAgg5
  z5 := Tryz.sizeOf5
  v5 := Tryz.zeroValue5
  infoByte := by kernel_rfl
  cellsByte := by kernel_rfl
  sizeByte := by kernel_rfl
  neB5 := by decide }
open Go.RowKit in
theorem Tryz.strings_Join (bk o c : Nat) (xs : List ByteArray) (sep : ByteArray) (w : World) (hcells : ∀ (j : Nat) x, xs[j]? = some x → w.cell? ⟨bk, o + j, none⟩ = some (.string x)) (hbk : bk < w.heap.size) (hN : xs.length ≤ 140737488355328) (hcap : xs.length ≤ c) (hlen : (Lib.join (xs.map (·.data.toList)) sep.data.toList).length ≤ 140737488355328) :
    Calls Tryz.prog 62 #[.slice (some ⟨bk, o, none⟩) xs.length c, .string sep] w fun e w' => e = .returned (.string ⟨(Lib.join (xs.map (·.data.toList)) sep.data.toList).toArray⟩) ∧ Below w.heap.size w w' := Any.strings_Join Tryz.lays156 Tryz.Builder_Extra_156 bk o c xs sep w hcells hbk hN hcap hlen
end Go.Proofs
namespace Go.Proofs.YtpkoefpdpoikkaaGreatDoor
open Go.RowKit Go.Extern.Stop Go.Stop Go.Extern Go.Sort Go.Shelf Go.Lib

theorem nameByte_any (n : Int) (w : World) : Calls Tryz.prog 149 #[.int .u8 n] w fun e w' => e = .returned (.bool (nbI n)) ∧ w' = w := by
  by_cases h1 : 97 ≤ n
  · by_cases h2 : n ≤ 122
    · have hr : nbI n = true := by simp [nbI, h1, h2]
      rw [hr]
      go_enter Tryz.func149, Tryz.ntmps149
      go_wp2
      go_ret
      exact ⟨rfl, rfl⟩
    · have hr : nbI n = false := by simp [nbI]; omega
      rw [hr]
      have h3 : (48 : Int) ≤ n := by omega
      have h4 : ¬ n ≤ 57 := by omega
      go_enter Tryz.func149, Tryz.ntmps149
      go_wp2
      go_ret
      exact ⟨rfl, rfl⟩
  · by_cases h3 : 48 ≤ n
    · by_cases h4 : n ≤ 57
      · have hr : nbI n = true := by simp [nbI, h3, h4]
        rw [hr]
        go_enter Tryz.func149, Tryz.ntmps149
        go_wp2
        go_ret
        exact ⟨rfl, rfl⟩
      · have hr : nbI n = false := by simp [nbI]; omega
        rw [hr]
        go_enter Tryz.func149, Tryz.ntmps149
        go_wp2
        go_ret
        exact ⟨rfl, rfl⟩
    · have hr : nbI n = false := by simp [nbI]; omega
      rw [hr]
      go_enter Tryz.func149, Tryz.ntmps149
      go_wp2
      go_ret
      exact ⟨rfl, rfl⟩

theorem inBounds_any (n : Int) (w : World) : Calls Tryz.prog 59 #[.int .i64 n] w fun e w' => e = .returned (.bool (inNum n)) ∧ w' = w := by
  by_cases h1 : -1073741824 ≤ n
  · by_cases h2 : n ≤ 1073741824
    · have hr : inNum n = true := by simp [inNum, h1, h2]
      rw [hr]
      go_enter Tryz.func59, Tryz.ntmps59
      go_wp2
      go_ret
      exact ⟨rfl, rfl⟩
    · have hr : inNum n = false := by simp [inNum, h2]
      rw [hr]
      go_enter Tryz.func59, Tryz.ntmps59
      go_wp2
      go_ret
      exact ⟨rfl, rfl⟩
  · have hr : inNum n = false := by simp [inNum, h1]
    rw [hr]
    go_enter Tryz.func59, Tryz.ntmps59
    go_wp2
    go_ret
    exact ⟨rfl, rfl⟩

theorem size_list (s : ByteArray) : s.data.toList.length = s.size := by cases s; simp [ByteArray.size]

theorem byte_list (s : ByteArray) (k : Nat) (h : k < s.size) : s.data.toList[k]? = some s[k] := by
  cases s with | mk d => simp [ByteArray.size] at h; simp [h]; rfl

theorem all_succ {s : ByteArray} {n : Nat} (h : ∀ j c, j < n → s.data.toList[j]? = some c → nbI c.toNat = true) (hn : n < s.size) (e : nbI s[n].toNat = true) : ∀ j c, j < n + 1 → s.data.toList[j]? = some c → nbI c.toNat = true := fun j c hj hc => by
  rcases Nat.lt_or_ge j n with h' | h'
  · exact h j c h' hc
  · obtain rfl : j = n := by omega
    rw [byte_list s j hn] at hc
    rw [← Option.some.inj hc]; exact e

set_option maxHeartbeats 1000000 in
theorem word_any (s : ByteArray) (m : Nat) (w : World) (hs : s.size ≤ maxLen) (hm : m ≤ 1000) : Calls Tryz.prog 115 #[.string s, .int .i64 m] w fun e w' => e = .returned (.bool (wordB m s.data.toList)) ∧ w' = w := by
  unfold maxLen at hs
  have hsz := size_list s
  by_cases h1 : s.size < 1
  · have hr : wordB m s.data.toList = false := by simp only [wordB, hsz]; simp; omega
    rw [hr]
    clear hsz hr
    go_enter Tryz.func115, Tryz.ntmps115
    go_wp2
    go_ret
    exact ⟨rfl, rfl⟩
  · by_cases h2 : m < s.size
    · have hr : wordB m s.data.toList = false := by simp only [wordB, hsz]; simp; omega
      rw [hr]
      clear hsz hr
      go_enter Tryz.func115, Tryz.ntmps115
      go_wp2
      go_ret
      exact ⟨rfl, rfl⟩
    · generalize hr : wordB m s.data.toList = r
      have HR : Hid (wordB m s.data.toList = r) := hr
      have HS : Hid (s.data.toList.length = s.size) := hsz
      clear hr hsz
      go_enter Tryz.func115, Tryz.ntmps115
      go_wp2
      go_loop [5] (fun k => ∃ n : Nat, n ≤ s.size ∧ (∀ j c, j < n → s.data.toList[j]? = some c → nbI c.toNat = true) ∧ k = .int .i64 n) (fun k => s.size - (intOf k).toNat)
      case atStart => exact ⟨0, by omega, by omega, rfl⟩
      case round =>
        obtain ⟨n, hn, ht, rfl⟩ := hrel
        have HT : Hid (∀ j c, j < n → s.data.toList[j]? = some c → nbI c.toNat = true) := ht
        clear ht
        by_cases hlt : n < s.size
        · have hi : (n : Int) < (s.size : Int) := by omega
          have hb := nameByte_any (s[n].toNat : Int) w
          cases hv : nbI (s[n].toNat : Int)
          · rw [hv] at hb
            have hr : r = false := by
              rw [← HR.out]
              simp only [wordB, Bool.and_eq_false_iff]
              right
              rw [List.all_eq_false]
              exact ⟨s[n], List.mem_of_getElem? (byte_list s n hlt), by rw [hv]; simp⟩
            subst hr
            clear hv
            go_wp2_with (go_at_call 149; refine hb.mono ?_; rintro e w' ⟨rfl, rfl⟩)
            go_ret
            exact ⟨rfl, rfl⟩
          · rw [hv] at hb
            have HV : Hid (nbI (s[n].toNat : Int) = true) := hv
            clear hv
            go_wp2_with (go_at_call 149; refine hb.mono ?_; rintro e w' ⟨rfl, rfl⟩)
            go_round
            case rel => exact ⟨n + 1, by omega, all_succ HT.out hlt HV.out, by go_num⟩
            case measure => simp [intOf]; omega
        · have hr : r = true := by
            rw [← HR.out]
            simp only [wordB, Bool.and_eq_true, decide_eq_true_eq, List.all_eq_true]
            have := HS.out
            refine ⟨⟨by omega, by omega⟩, fun c hc => ?_⟩
            obtain ⟨k, hk⟩ := List.mem_iff_getElem?.1 hc
            have hk' : k < s.data.toList.length := by
              rcases Nat.lt_or_ge k s.data.toList.length with h | h
              · exact h
              · rw [List.getElem?_eq_none h] at hk; cases hk
            exact HT.out k c (by omega) hk
          subst hr
          have hn' : n = s.size := by omega
          subst hn'
          go_wp2
          go_ret
          exact ⟨rfl, rfl⟩

theorem name_any (s : ByteArray) (w : World) (hs : s.size ≤ maxLen) : Calls Tryz.prog 121 #[.string s] w fun e w' => e = .returned (.bool (nameB s.data.toList)) ∧ w' = w := by
  have hw : Calls Tryz.prog 115 #[.string s, .int .i64 8] w fun e w' => e = .returned (.bool (nameB s.data.toList)) ∧ w' = w := word_any s 8 w hs (by omega)
  go_enter Tryz.func121, Tryz.ntmps121
  go_wp2_with (go_at_call 115; refine hw.mono ?_; rintro e w' ⟨rfl, rfl⟩)
  go_ret
  exact ⟨rfl, rfl⟩
end Go.Proofs.YtpkoefpdpoikkaaGreatDoor
namespace Go.Proofs.YtpkoefpdpoikkaaGreatDoor
open Go.RowKit Go.Extern.Stop Go.Stop Go.Extern Go.Sort Go.Shelf Go.Lib

structure Env (w : World) (a : Nat → Addr) : Prop where
  text : w.cell? ⟨2, 0, none⟩ = some (.iface 289 (.pointer (some (a 0))))
  bound : w.cell? ⟨1, 0, none⟩ = some (.iface 289 (.pointer (some (a 1))))
  name : w.cell? ⟨3, 0, none⟩ = some (.iface 289 (.pointer (some (a 4))))
  maxl : ∃ m, w.cell? ⟨13, 0, none⟩ = some (.int .i64 m)
  syn : ∃ te pe, w.cell? ⟨15, 0, none⟩ = some (.iface te pe)
  tab : Lib.TabIs Tryz.prog w "internal/strconv.uint64pow10" .u64 Lib.pow10Tab

theorem tab_below {w w' : World} {n : String} {k : IntKind} {zs : List Int} (h : Lib.TabIs Tryz.prog w n k zs) (hb : Below w.heap.size w w') : Lib.TabIs Tryz.prog w' n k zs := by
  unfold Lib.TabIs World.var? at *
  cases hg : Tryz.prog.globalNamed n with
  | none => rw [hg] at h; simp at h
  | some g =>
    rw [hg] at h
    simp only [Option.bind_some] at h ⊢
    have hlt : g < w.heap.size := by
      rcases Nat.lt_or_ge g w.heap.size with h' | h'
      · exact h'
      · simp [Array.getElem?_eq_none h'] at h
    rw [hb.block g hlt]; exact h

theorem Env.below {w w' : World} {a : Nat → Addr} (h : Env w a) (hb : Below w.heap.size w w') : Env w' a where
  text := below_keep hb h.text
  bound := below_keep hb h.bound
  name := below_keep hb h.name
  maxl := let ⟨m, hm⟩ := h.maxl; ⟨m, below_keep hb hm⟩
  syn := let ⟨t, p, hm⟩ := h.syn; ⟨t, p, below_keep hb hm⟩
  tab := tab_below h.tab hb

structure Env0 (w : World) (a : Nat → Addr) : Prop where
  text : w.cell? ⟨2, 0, none⟩ = some (.iface 289 (.pointer (some (a 0))))
  bound : w.cell? ⟨1, 0, none⟩ = some (.iface 289 (.pointer (some (a 1))))
  maxl : ∃ m, w.cell? ⟨13, 0, none⟩ = some (.int .i64 m)
  syn : ∃ te pe, w.cell? ⟨15, 0, none⟩ = some (.iface te pe)
  tab : Lib.TabIs Tryz.prog w "internal/strconv.uint64pow10" .u64 Lib.pow10Tab

theorem Env0.below {w w' : World} {a : Nat → Addr} (h : Env0 w a) (hb : Below w.heap.size w w') : Env0 w' a where
  text := below_keep hb h.text
  bound := below_keep hb h.bound
  maxl := let ⟨m, hm⟩ := h.maxl; ⟨m, below_keep hb hm⟩
  syn := let ⟨t, p, hm⟩ := h.syn; ⟨t, p, below_keep hb hm⟩
  tab := tab_below h.tab hb

structure EnvS (w : World) : Prop where
  maxl : ∃ m, w.cell? ⟨13, 0, none⟩ = some (.int .i64 m)
  syn : ∃ te pe, w.cell? ⟨15, 0, none⟩ = some (.iface te pe)
  tab : Lib.TabIs Tryz.prog w "internal/strconv.uint64pow10" .u64 Lib.pow10Tab

theorem EnvS.below {w w' : World} (h : EnvS w) (hb : Below w.heap.size w w') : EnvS w' where
  maxl := let ⟨m, hm⟩ := h.maxl; ⟨m, below_keep hb hm⟩
  syn := let ⟨t, p, hm⟩ := h.syn; ⟨t, p, below_keep hb hm⟩
  tab := tab_below h.tab hb
theorem Env0.s {w : World} {a : Nat → Addr} (h : Env0 w a) : EnvS w := ⟨h.maxl, h.syn, h.tab⟩
theorem Env.s {w : World} {a : Nat → Addr} (h : Env w a) : EnvS w := ⟨h.maxl, h.syn, h.tab⟩

def errV (a : Nat → Addr) : Nat → Value
  | 0 => .nilIface
  | n + 1 => .iface 289 (.pointer (some (a n)))

set_option maxHeartbeats 1000000 in
theorem check_any (x : Rw) (w : World) (a : Nat → Addr) (h : Env w a) (hs : x.1.size ≤ maxLen) :
    Calls Tryz.prog 68 #[.agg #[.string x.1, .int .i64 x.2.1, .int .i64 x.2.2]] w fun e w' => e = .returned (errV a (rowE x)) ∧ Below w.heap.size w w' := by
  obtain ⟨p, k, v⟩ := x
  dsimp only at hs ⊢
  have hb : Below w.heap.size w (w.alloc (.cells #[.string p, .int .i64 k, .int .i64 v] 41)) := (Below.refl _ _).alloc (Nat.le_refl _) _
  have hn := name_any p (w.alloc (.cells #[.string p, .int .i64 k, .int .i64 v] 41)) hs
  have e1 := (h.below hb).name
  have e2 := (h.below hb).bound
  unfold rowE
  dsimp only
  cases h1 : nameB p.data.toList
  · rw [h1] at hn
    simp only [Bool.false_eq_true, if_false]
    clear h1
    go_enter Tryz.func68, Tryz.ntmps68
    go_wp2_with (go_at_call 121; refine hn.mono ?_; rintro e w' ⟨rfl, rfl⟩)
    go_ret
    exact ⟨rfl, hb⟩
  · rw [h1] at hn
    clear h1
    have hB := fun n W => inBounds_any n W
    cases h2 : inNum k
    · simp only [if_true, Bool.false_and, Bool.false_eq_true, if_false]
      go_enter Tryz.func68, Tryz.ntmps68
      go_wp2_with (first | (go_at_call 121; refine hn.mono ?_; rintro e w' ⟨rfl, rfl⟩) | (go_at_call 59; refine (hB _ _).mono ?_; rintro e w' ⟨rfl, rfl⟩))
      go_ret
      exact ⟨rfl, hb⟩
    · cases h3 : inNum v
      · simp only [if_true, Bool.true_and, Bool.false_eq_true, if_false]
        go_enter Tryz.func68, Tryz.ntmps68
        go_wp2_with (first | (go_at_call 121; refine hn.mono ?_; rintro e w' ⟨rfl, rfl⟩) | (go_at_call 59; refine (hB _ _).mono ?_; rintro e w' ⟨rfl, rfl⟩))
        go_ret
        exact ⟨rfl, hb⟩
      · simp only [if_true, Bool.true_and]
        go_enter Tryz.func68, Tryz.ntmps68
        go_wp2_with (first | (go_at_call 121; refine hn.mono ?_; rintro e w' ⟨rfl, rfl⟩) | (go_at_call 59; refine (hB _ _).mono ?_; rintro e w' ⟨rfl, rfl⟩))
        go_ret
        exact ⟨rfl, hb⟩

theorem grow_below {w : World} (k : Nat) (os : Array Obj) : Below w.heap.size w (grow (w.drewN k) os) :=
  (below_drewN (Below.refl _ _) k).trans (show Below w.heap.size (w.drewN k) _ from below_grow (w := w.drewN k) os)

theorem itoa_any (n : Int) (w : World) (ht : Lib.TabIs Tryz.prog w "internal/strconv.uint64pow10" .u64 Lib.pow10Tab) (h0 : -9223372036854775808 ≤ n) (h1 : n ≤ 9223372036854775807) :
    Calls Tryz.prog 61 #[.int .i64 n] w fun e w' => e = .returned (.string (bytesOf (itoa n))) ∧ ∃ k os, w' = grow (w.drewN k) os :=
  Tryz.strconv_Itoa n h0 h1 w ht

def numR (s : List UInt8) : Value × Bool := match numO s with
  | some n => (.int .i64 n, true)
  | none => (.int .i64 0, false)

set_option maxHeartbeats 1000000 in
theorem number_s (s : ByteArray) (w : World) (h : EnvS w) (hs : s.size ≤ maxLen) :
    Calls Tryz.prog 67 #[.string s] w fun e w' => e = .returned (.tuple #[(numR s.data.toList).1, .bool (numR s.data.toList).2]) ∧ Below w.heap.size w w' := by
  unfold maxLen at hs
  have hsz := size_list s
  by_cases hl : 11 < s.size
  · have hr : numR s.data.toList = (.int .i64 0, false) := by
      unfold numR numO
      rw [if_neg (by omega)]
    rw [hr]
    clear hr hsz
    go_enter Tryz.func67, Tryz.ntmps67
    go_wp2
    go_ret2
    exact ⟨rfl, Below.refl _ _⟩
  · cases ha : atoi s.data.toList with
    | none =>
      have hr : numR s.data.toList = (.int .i64 0, false) := by
        unfold numR numO
        rw [if_pos (by omega), ha]
      rw [hr]
      obtain ⟨te, pe, hv⟩ := h.syn
      have hc := Tryz.strconv_Atoi_err s (by omega) ha (.iface te pe) w hv (Or.inr ⟨te, pe, rfl⟩)
      clear hr hsz ha hv
      go_enter Tryz.func67, Tryz.ntmps67
      go_wp2_with (go_at_call 120; refine hc.mono ?_; rintro e w' ⟨N, rfl, _, _, hb⟩)
      go_ret2
      exact ⟨rfl, hb⟩
    | some n =>
      have hc := Tryz.strconv_Atoi s n (by omega) ha w
      have hbd := atoi_bound ha (by omega)
      by_cases he : itoa n = s.data.toList
      · have hr : numR s.data.toList = (.int .i64 n, true) := by
          unfold numR numO
          rw [if_pos (by omega), ha]
          simp [he]
        rw [hr]
        have hse : bytesOf (itoa n) = s := by rw [he]; exact bytesOf_data s
        clear hr hsz ha he
        go_enter Tryz.func67, Tryz.ntmps67
        go_wp2_with (first
          | (go_at_call 120; refine hc.mono ?_; rintro e w1 ⟨rfl, t, rfl⟩)
          | (go_at_call 61; refine (itoa_any n _ (tab_below h.tab (bytesWorld_below w _ t)) (by omega) (by omega)).mono ?_; rintro e w2 ⟨rfl, k, os, rfl⟩; rw [hse]))
        go_ret2
        exact ⟨rfl, (bytesWorld_below w _ t).trans ((grow_below k os).mono (bytesWorld_below w _ t).size)⟩
      · have hr : numR s.data.toList = (.int .i64 0, false) := by
          unfold numR numO
          rw [if_pos (by omega), ha]
          simp [he]
        rw [hr]
        have hne : ((bytesOf (itoa n)).toList == s.toList) = false := by
          rw [ByteArray.toList_eq, ByteArray.toList_eq]
          simpa [bytesOf] using he
        clear hr hsz ha he
        go_enter Tryz.func67, Tryz.ntmps67
        go_wp2_with (first
          | (go_at_call 120; refine hc.mono ?_; rintro e w1 ⟨rfl, t, rfl⟩)
          | (go_at_call 61; refine (itoa_any n _ (tab_below h.tab (bytesWorld_below w _ t)) (by omega) (by omega)).mono ?_; rintro e w2 ⟨rfl, k, os, rfl⟩))
        go_ret2
        exact ⟨rfl, (bytesWorld_below w _ t).trans ((grow_below k os).mono (bytesWorld_below w _ t).size)⟩

theorem itoa_s (n : Int) (w : World) (h : EnvS w) (h0 : -9223372036854775808 ≤ n) (h1 : n ≤ 9223372036854775807) :
    Calls Tryz.prog 61 #[.int .i64 n] w fun e w' => e = .returned (.string (bytesOf (itoa n))) ∧ Below w.heap.size w w' :=
  (itoa_any n w h.tab h0 h1).mono fun e w' ⟨he, k, os, hw⟩ => ⟨he, by subst hw; exact grow_below k os⟩

theorem number_any (s : ByteArray) (w : World) (a : Nat → Addr) (h : Env0 w a) (hs : s.size ≤ maxLen) :
    Calls Tryz.prog 67 #[.string s] w fun e w' => e = .returned (.tuple #[(numR s.data.toList).1, .bool (numR s.data.toList).2]) ∧ Below w.heap.size w w' :=
  number_s s w h.s hs

end Go.Proofs.YtpkoefpdpoikkaaGreatDoor
