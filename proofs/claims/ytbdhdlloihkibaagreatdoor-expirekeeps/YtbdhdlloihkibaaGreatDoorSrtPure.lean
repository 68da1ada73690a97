/-
  Texts in order: where one belongs among rising ones.
-/
import Derived.Test.YtbdhdlloihkibaaGreatDoorRowMem
import Derived.Test.YtbdhdlloihkibaaGreatDoorTextPure
import Derived.Shelf.SlSortCmp.QuietGrown
import Derived.Lib.AtoiErrMem
import Derived.Lib.LaidTab
import Derived.Shelf.GgSortFunc.RowK
import Derived.Lib.OwnBridge
import Derived.Shelf.Abstract
import Derived.Laws.Rows
import Derived.Deep.OwnRows
import Derived.OneCell
import Derived.BigRegion
namespace Go.Proofs.YtbdhdlloihkibaaGreatDoor
open Go.RowKit Go.Extern.Stop Go.Stop Go.Extern Go.Sort Go.Shelf Go.Lib

theorem nameByte_any (n : Int) (w : World) : Calls Tryz.prog 125 #[.int .u8 n] w fun e w' => e = .returned (.bool (nbI n)) ∧ w' = w := by
  by_cases h1 : 97 ≤ n
  · by_cases h2 : n ≤ 122
    · have hr : nbI n = true := by simp [nbI, h1, h2]
      rw [hr]
      go_enter Tryz.func125, Tryz.ntmps125
      go_wp2
      go_ret
      exact ⟨rfl, rfl⟩
    · have hr : nbI n = false := by simp [nbI]; omega
      rw [hr]
      have h3 : (48 : Int) ≤ n := by omega
      have h4 : ¬ n ≤ 57 := by omega
      go_enter Tryz.func125, Tryz.ntmps125
      go_wp2
      go_ret
      exact ⟨rfl, rfl⟩
  · by_cases h3 : 48 ≤ n
    · by_cases h4 : n ≤ 57
      · have hr : nbI n = true := by simp [nbI, h3, h4]
        rw [hr]
        go_enter Tryz.func125, Tryz.ntmps125
        go_wp2
        go_ret
        exact ⟨rfl, rfl⟩
      · have hr : nbI n = false := by simp [nbI]; omega
        rw [hr]
        go_enter Tryz.func125, Tryz.ntmps125
        go_wp2
        go_ret
        exact ⟨rfl, rfl⟩
    · have hr : nbI n = false := by simp [nbI]; omega
      rw [hr]
      go_enter Tryz.func125, Tryz.ntmps125
      go_wp2
      go_ret
      exact ⟨rfl, rfl⟩

theorem inBounds_any (n : Int) (w : World) : Calls Tryz.prog 59 #[.int .i64 n] w fun e w' => e = .returned (.bool (inNum n)) ∧ w' = w := by
  by_cases h1 : -1073741824 ≤ n
  · by_cases h2 : n ≤ 1073741824
    · have hr : inNum n = true := by simp [inNum, h1, h2]
      rw [hr]
      go_enter Tryz.func59, Tryz.ntmps59
      go_wp2
      go_ret
      exact ⟨rfl, rfl⟩
    · have hr : inNum n = false := by simp [inNum, h2]
      rw [hr]
      go_enter Tryz.func59, Tryz.ntmps59
      go_wp2
      go_ret
      exact ⟨rfl, rfl⟩
  · have hr : inNum n = false := by simp [inNum, h1]
    rw [hr]
    go_enter Tryz.func59, Tryz.ntmps59
    go_wp2
    go_ret
    exact ⟨rfl, rfl⟩

theorem size_list (s : ByteArray) : s.data.toList.length = s.size := by cases s; simp [ByteArray.size]

theorem byte_list (s : ByteArray) (k : Nat) (h : k < s.size) : s.data.toList[k]? = some s[k] := by
  cases s with | mk d => simp [ByteArray.size] at h; simp [h]; rfl

theorem all_succ {s : ByteArray} {n : Nat} (h : ∀ j c, j < n → s.data.toList[j]? = some c → nbI c.toNat = true) (hn : n < s.size) (e : nbI s[n].toNat = true) : ∀ j c, j < n + 1 → s.data.toList[j]? = some c → nbI c.toNat = true := fun j c hj hc => by
  rcases Nat.lt_or_ge j n with h' | h'
  · exact h j c h' hc
  · obtain rfl : j = n := by omega
    rw [byte_list s j hn] at hc
    rw [← Option.some.inj hc]; exact e

set_option maxHeartbeats 1000000 in
theorem word_any (s : ByteArray) (m : Nat) (w : World) (hs : s.size ≤ maxLen) (hm : m ≤ 1000) : Calls Tryz.prog 115 #[.string s, .int .i64 m] w fun e w' => e = .returned (.bool (wordB m s.data.toList)) ∧ w' = w := by
  unfold maxLen at hs
  have hsz := size_list s
  by_cases h1 : s.size < 1
  · have hr : wordB m s.data.toList = false := by simp only [wordB, hsz]; simp; omega
    rw [hr]
    clear hsz hr
    go_enter Tryz.func115, Tryz.ntmps115
    go_wp2
    go_ret
    exact ⟨rfl, rfl⟩
  · by_cases h2 : m < s.size
    · have hr : wordB m s.data.toList = false := by simp only [wordB, hsz]; simp; omega
      rw [hr]
      clear hsz hr
      go_enter Tryz.func115, Tryz.ntmps115
      go_wp2
      go_ret
      exact ⟨rfl, rfl⟩
    · generalize hr : wordB m s.data.toList = r
      have HR : Hid (wordB m s.data.toList = r) := hr
      have HS : Hid (s.data.toList.length = s.size) := hsz
      clear hr hsz
      go_enter Tryz.func115, Tryz.ntmps115
      go_wp2
      go_loop [5] (fun k => ∃ n : Nat, n ≤ s.size ∧ (∀ j c, j < n → s.data.toList[j]? = some c → nbI c.toNat = true) ∧ k = .int .i64 n) (fun k => s.size - (intOf k).toNat)
      case atStart => exact ⟨0, by omega, by omega, rfl⟩
      case round =>
        obtain ⟨n, hn, ht, rfl⟩ := hrel
        have HT : Hid (∀ j c, j < n → s.data.toList[j]? = some c → nbI c.toNat = true) := ht
        clear ht
        by_cases hlt : n < s.size
        · have hi : (n : Int) < (s.size : Int) := by omega
          have hb := nameByte_any (s[n].toNat : Int) w
          cases hv : nbI (s[n].toNat : Int)
          · rw [hv] at hb
            have hr : r = false := by
              rw [← HR.out]
              simp only [wordB, Bool.and_eq_false_iff]
              right
              rw [List.all_eq_false]
              exact ⟨s[n], List.mem_of_getElem? (byte_list s n hlt), by rw [hv]; simp⟩
            subst hr
            clear hv
            go_wp2_with (go_at_call 125; refine hb.mono ?_; rintro e w' ⟨rfl, rfl⟩)
            go_ret
            exact ⟨rfl, rfl⟩
          · rw [hv] at hb
            have HV : Hid (nbI (s[n].toNat : Int) = true) := hv
            clear hv
            go_wp2_with (go_at_call 125; refine hb.mono ?_; rintro e w' ⟨rfl, rfl⟩)
            go_round
            case rel => exact ⟨n + 1, by omega, all_succ HT.out hlt HV.out, by go_num⟩
            case measure => simp [intOf]; omega
        · have hr : r = true := by
            rw [← HR.out]
            simp only [wordB, Bool.and_eq_true, decide_eq_true_eq, List.all_eq_true]
            have := HS.out
            refine ⟨⟨by omega, by omega⟩, fun c hc => ?_⟩
            obtain ⟨k, hk⟩ := List.mem_iff_getElem?.1 hc
            have hk' : k < s.data.toList.length := by
              rcases Nat.lt_or_ge k s.data.toList.length with h | h
              · exact h
              · rw [List.getElem?_eq_none h] at hk; cases hk
            exact HT.out k c (by omega) hk
          subst hr
          have hn' : n = s.size := by omega
          subst hn'
          go_wp2
          go_ret
          exact ⟨rfl, rfl⟩

end Go.Proofs.YtbdhdlloihkibaaGreatDoor
namespace Go.Proofs.YtbdhdlloihkibaaGreatDoor
open Go.RowKit Go.Extern.Stop Go.Stop Go.Extern Go.Sort Go.Shelf Go.Lib

theorem tab_below {w w' : World} {n : String} {k : IntKind} {zs : List Int} (h : Lib.TabIs Tryz.prog w n k zs) (hb : Below w.heap.size w w') : Lib.TabIs Tryz.prog w' n k zs := by
  unfold Lib.TabIs World.var? at *
  cases hg : Tryz.prog.globalNamed n with
  | none => rw [hg] at h; simp at h
  | some g =>
    rw [hg] at h
    simp only [Option.bind_some] at h ⊢
    have hlt : g < w.heap.size := by
      rcases Nat.lt_or_ge g w.heap.size with h' | h'
      · exact h'
      · simp [Array.getElem?_eq_none h'] at h
    rw [hb.block g hlt]; exact h

def errV (a : Nat → Addr) : Nat → Value
  | 0 => .nilIface
  | n + 1 => .iface 201 (.pointer (some (a n)))

theorem grow_below {w : World} (k : Nat) (os : Array Obj) : Below w.heap.size w (grow (w.drewN k) os) :=
  (below_drewN (Below.refl _ _) k).trans (show Below w.heap.size (w.drewN k) _ from below_grow (w := w.drewN k) os)

theorem itoa_any (n : Int) (w : World) (ht : Lib.TabIs Tryz.prog w "internal/strconv.uint64pow10" .u64 Lib.pow10Tab) (h0 : -9223372036854775808 ≤ n) (h1 : n ≤ 9223372036854775807) :
    Calls Tryz.prog 29 #[.int .i64 n] w fun e w' => e = .returned (.string (bytesOf (itoa n))) ∧ ∃ k os, w' = grow (w.drewN k) os :=
  Tryz.strconv_Itoa n h0 h1 w ht

end Go.Proofs.YtbdhdlloihkibaaGreatDoor
namespace Go.Proofs.YtbdhdlloihkibaaGreatDoor
open Go.RowKit Go.Extern.Stop Go.Stop Go.Extern Go.Sort Go.Shelf Go.Lib

def KeysAt (w : World) (v : Value) (zs : List Int) : Prop :=
  (∃ p c, v = .slice p 0 c ∧ zs = []) ∨ ∃ b o cap, v = .slice (some ⟨b, o, none⟩) zs.length cap ∧ ∀ j (h : j < zs.length), w.cell? ⟨b, o + j, none⟩ = some (.int .i64 zs[j])

theorem KeysAt.below {w w' : World} {v : Value} {zs : List Int} (h : KeysAt w v zs) (hb : Below w.heap.size w w') : KeysAt w' v zs := by
  rcases h with h | ⟨b, o, cap, hv, hc⟩
  · exact Or.inl h
  · exact Or.inr ⟨b, o, cap, hv, fun j hj => below_keep hb (hc j hj)⟩

theorem getD_of {zs : List Int} {j : Nat} (h : j < zs.length) : zs.getD j 0 = zs[j] := by simp [List.getD, List.getElem?_eq_getElem h]

end Go.Proofs.YtbdhdlloihkibaaGreatDoor
namespace Go.Proofs.YtbdhdlloihkibaaGreatDoor
open Go.RowKit Go.Extern.Stop Go.Stop Go.Extern Go.Sort Go.Shelf Go.Lib

theorem ne_succ_at {zs : List Int} {n : Nat} {x : Int} (h : ∀ j (h : j < zs.length), j < n → zs[j] ≠ x) (hn : n < zs.length) (e : zs[n] ≠ x) : ∀ j (h : j < zs.length), j < n + 1 → zs[j] ≠ x := fun j hj hjn => by
  rcases Nat.lt_or_ge j n with h' | h'
  · exact h j hj h'
  · obtain rfl : j = n := by omega
    exact e

set_option maxHeartbeats 1000000 in
theorem inInts_any (v : Value) (zs : List Int) (x : Int) (w : World) (h : KeysAt w v zs) (hl : zs.length ≤ maxLen) :
    Calls Tryz.prog 20 #[.int .i64 x, v] w fun e w' => e = .returned (.bool (zs.contains x)) ∧ w' = w := by
  unfold maxLen at hl
  rcases h with ⟨p, c, rfl, rfl⟩ | ⟨b, o, cap, rfl, hc⟩
  · clear hl
    go_enter Tryz.func20, Tryz.ntmps20
    go_wp2
    refine wp_loop_rounds 1 ?_
    rw [rounds_succ]
    go_wp2
    go_ret
    exact ⟨rfl, rfl⟩
  · generalize hL : zs.length = L at hl ⊢
    have HL : Hid (zs.length = L) := hL
    clear hL
    generalize hr : zs.contains x = r
    have HR : Hid (zs.contains x = r) := hr
    clear hr
    go_enter Tryz.func20, Tryz.ntmps20
    go_wp2
    go_loop [5] (fun k => ∃ n : Nat, n ≤ L ∧ (∀ j (h : j < zs.length), j < n → zs[j] ≠ x) ∧ k = .int .i64 n) (fun k => L - (intOf k).toNat)
    case atStart => exact ⟨0, by omega, by omega, rfl⟩
    case round =>
      obtain ⟨n, hn, ht, rfl⟩ := hrel
      have HT : Hid (∀ j (h : j < zs.length), j < n → zs[j] ≠ x) := ht
      clear ht
      by_cases hlt : n < L
      · have hlt' : n < zs.length := by rw [HL.out]; exact hlt
        have c1 := hc n hlt'
        generalize hp : zs[n] = y at c1
        have HP : Hid (zs[n] = y) := hp
        clear hp hc
        have hi : (n : Int) < (L : Int) := by omega
        by_cases e : y = x
        · have hr : r = true := by
            rw [← HR.out]
            simp only [List.contains_iff_mem]
            rw [← e, ← HP.out]; exact List.getElem_mem _
          subst hr e
          go_wp2
          go_ret
          exact ⟨rfl, rfl⟩
        · have e' : (y == x) = false := by simpa using e
          have E : Hid (¬ y = x) := e
          clear e
          go_wp2
          go_round
          case rel => exact ⟨n + 1, by omega, ne_succ_at HT.out hlt' (by rw [HP.out]; exact E.out), by go_num⟩
          case measure => simp [intOf]; omega
      · have hr : r = false := by
          rw [← HR.out]
          rw [Bool.eq_false_iff]
          intro hm
          rw [List.contains_iff_mem] at hm
          obtain ⟨j, hj, e⟩ := List.mem_iff_getElem.1 hm
          exact HT.out j hj (by rw [HL.out] at hj; omega) e
        subst hr
        have hn' : n = L := by omega
        subst hn'
        go_wp2
        go_ret
        exact ⟨rfl, rfl⟩

end Go.Proofs.YtbdhdlloihkibaaGreatDoor
namespace Go.Proofs.YtbdhdlloihkibaaGreatDoor
open Go.RowKit Go.Extern.Stop Go.Stop Go.Extern Go.Sort Go.Shelf Go.Lib

theorem bytesLess_cb : ∀ a b : List UInt8, Op.bytesLess a b = decide (Lib.compareBytes a b < 0)
  | [], [] => by simp [Op.bytesLess, Lib.compareBytes]
  | [], _ :: _ => by simp [Op.bytesLess, Lib.compareBytes]
  | _ :: _, [] => by simp [Op.bytesLess, Lib.compareBytes]
  | a :: us, b :: vs => by
    have ih := bytesLess_cb us vs
    unfold Op.bytesLess Lib.compareBytes
    by_cases h1 : a < b
    · simp [h1]
    · by_cases h2 : b < a
      · have h3 : ¬ a = b := fun e => by subst e; exact UInt8.lt_irrefl _ h2
        simp [h1, h2, h3]
      · have h3 : a = b := by
          rw [UInt8.lt_iff_toNat_lt] at h1 h2
          exact UInt8.toNat_inj.1 (by omega)
        subst h3
        simp [ih]

end Go.Proofs.YtbdhdlloihkibaaGreatDoor
namespace Go.Proofs.YtbdhdlloihkibaaGreatDoor
open Go.RowKit Go.Extern.Stop Go.Stop Go.Extern Go.Sort Go.Shelf Go.Lib

def ltS (a b : ByteArray) : Bool := Op.bytesLess a.toList b.toList
theorem ltS_cb (a b : ByteArray) : ltS a b = decide (Lib.compareBytes a.data.toList b.data.toList < 0) := by
  unfold ltS
  rw [ByteArray.toList_eq, ByteArray.toList_eq, bytesLess_cb]
theorem ltS_trans {a b c : ByteArray} (h1 : ltS a b = true) (h2 : ltS b c = true) : ltS a c = true := by
  rw [ltS_cb, decide_eq_true_eq] at *
  exact (cb_trans _ _ _ (Int.le_of_lt h1) (Int.le_of_lt h2)).2 (Or.inl h1)
theorem ltS_ne {a b : ByteArray} (h : ltS a b = true) : a ≠ b := fun e => by
  subst e
  rw [ltS_cb, cb_self] at h
  simp at h
theorem ltS_else {a b : ByteArray} (h : ltS a b = false) (hne : a ≠ b) : ltS b a = true := by
  rw [ltS_cb, decide_eq_true_eq]
  rw [ltS_cb, decide_eq_false_iff_not] at h
  have h1 := cb_swap a.data.toList b.data.toList
  have h2 : Lib.compareBytes a.data.toList b.data.toList ≠ 0 := fun e => hne (part_ext (cb_eq _ _ e))
  omega
def plcS (p : ByteArray) : List ByteArray → Nat
  | [] => 0
  | q :: r => if ltS q p = true then plcS p r + 1 else 0
def ispS (p : ByteArray) : List ByteArray → List ByteArray
  | [] => [p]
  | q :: r => if ltS q p = true then q :: ispS p r else p :: q :: r
theorem ispS_cut (p : ByteArray) : ∀ l : List ByteArray, ispS p l = l.take (plcS p l) ++ [p] ++ l.drop (plcS p l)
  | [] => rfl
  | q :: r => by
    unfold ispS plcS
    by_cases h : ltS q p = true
    · rw [if_pos h, if_pos h, ispS_cut p r]; rfl
    · rw [if_neg h, if_neg h]; rfl
theorem ispS_mem {p x : ByteArray} : ∀ {l : List ByteArray}, x ∈ ispS p l ↔ x = p ∨ x ∈ l
  | [] => by simp [ispS]
  | q :: r => by
    unfold ispS
    split
    · rw [List.mem_cons, ispS_mem, List.mem_cons]
      constructor
      · rintro (h | h | h)
        · exact Or.inr (Or.inl h)
        · exact Or.inl h
        · exact Or.inr (Or.inr h)
      · rintro (h | h | h)
        · exact Or.inr (Or.inl h)
        · exact Or.inl h
        · exact Or.inr (Or.inr h)
    · rw [List.mem_cons, List.mem_cons]
def RiseS (l : List ByteArray) : Prop := l.Pairwise fun a b => ltS a b = true
theorem ispS_rise {p : ByteArray} : ∀ {l : List ByteArray}, RiseS l → p ∉ l → RiseS (ispS p l)
  | [], _, _ => List.pairwise_singleton _ _
  | q :: r, h, hn => by
    unfold RiseS at h
    rw [List.pairwise_cons] at h
    rw [List.mem_cons, not_or] at hn
    unfold ispS
    by_cases e : ltS q p = true
    · rw [if_pos e]
      refine List.pairwise_cons.2 ⟨fun x hx => ?_, ispS_rise h.2 hn.2⟩
      rcases ispS_mem.1 hx with rfl | hx
      · exact e
      · exact h.1 x hx
    · rw [if_neg e]
      have e1 : ltS p q = true := ltS_else (by simpa using e) (fun e => hn.1 e.symm)
      refine List.pairwise_cons.2 ⟨fun x hx => ?_, List.pairwise_cons.2 h⟩
      rcases List.mem_cons.1 hx with rfl | hx
      · exact e1
      · exact ltS_trans e1 (h.1 x hx)
end Go.Proofs.YtbdhdlloihkibaaGreatDoor
