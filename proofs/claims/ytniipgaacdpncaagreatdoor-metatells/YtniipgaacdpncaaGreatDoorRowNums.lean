/-
  The contracts of strings.Split by a blank, and of row.Numbers.
-/
import Derived.Test.YtniipgaacdpncaaGreatDoorRowRead
import Derived.Laws.Rows
import Derived.Deep.OwnRows
import Derived.OneCell
namespace Go.Proofs.YtniipgaacdpncaaGreatDoor
open Go.RowKit Go.Extern.Stop Go.Stop Go.Extern Go.Sort Go.Shelf Go.Lib

theorem words_len : ∀ (l : List UInt8), ∀ x ∈ words l, x.length ≤ l.length
  | [], x, h => by simp [words] at h; simp [h]
  | c :: r, x, h => by
    have ih := words_len r
    unfold words at h
    split at h
    · rw [List.mem_cons] at h
      rcases h with rfl | h
      · simp
      · have := ih x h; simp; omega
    · split at h
      · simp at h; simp [h]
      · rename_i w ws hw
        rw [hw] at ih
        rw [List.mem_cons] at h
        rcases h with rfl | h
        · have := ih w List.mem_cons_self; simp; omega
        · have := ih x (List.mem_cons_of_mem _ h); simp; omega

/-- A store of what the cell holds turns nothing. -/
theorem setCell_self {w : World} {b o : Nat} {v : Value} (h : w.cell? ⟨b, o, none⟩ = some v) : w.setCell ⟨b, o, none⟩ v = w := by
  have hm : (w.setCell ⟨b, o, none⟩ v).heap = w.heap := by
    unfold World.setCell
    apply Array.ext_getElem?
    intro i
    dsimp only
    rw [Array.getElem?_modify]
    split
    · rename_i e
      subst e
      unfold World.cell? at h
      dsimp only at h
      cases hh : w.heap[b]? with
      | none => rfl
      | some ob =>
        rw [hh] at h
        cases ob with
        | cells c t f =>
          simp only [Option.isSome_none, Bool.false_eq_true, if_false] at h
          simp only [Option.map_some, Option.isSome_none, Bool.false_eq_true, if_false, Option.some.injEq, Obj.cells.injEq, and_true]
          apply Array.ext_getElem?
          intro k
          rw [Array.getElem?_setIfInBounds]
          split
          · rename_i e; subst e
            split
            · exact h.symm
            · rename_i hlt; rw [Array.getElem?_eq_none (by omega)]
          · rfl
        | _ => simp at h
    · rfl
  cases w
  simp only [World.setCell] at hm ⊢
  rw [hm]

/-- A slice of texts, from its first cell on. -/
def TxAt (w : World) (v : Value) (ts : List ByteArray) : Prop :=
  ∃ b, v = .slice (some ⟨b, 0, none⟩) ts.length ts.length ∧ ∀ j (h : j < ts.length), w.cell? ⟨b, j, none⟩ = some (.string ts[j])

theorem TxAt.below {w w' : World} {v : Value} {ts : List ByteArray} (h : TxAt w v ts) (hb : Below w.heap.size w w') : TxAt w' v ts := by
  obtain ⟨b, hv, h⟩ := h
  exact ⟨b, hv, fun j hj => below_keep hb (h j hj)⟩

theorem splitTx_any (s : ByteArray) (w : World) (a : Nat → Addr) (h : Env0 w a) (hs : s.size < 4294967281) :
    Calls Tryz.prog 27 #[.string s, .string ⟨#[32]⟩] w fun e w' => ∃ v ts, e = .returned v ∧ TxAt w' v ts ∧ ts.map (·.data.toList) = words s.data.toList ∧ Below w.heap.size w w' := by
  obtain ⟨m, hm⟩ := h.maxl
  have hsp := Tryz.strings_Split s sp m _ hs hm (by decide)
  obtain ⟨hw1, hw2⟩ := split_words s.size s (Nat.le_refl _)
  have hl : (splitB sp 0 (countB s sp) s).length = countB s sp + 1 := by
    have := congrArg List.length hw1
    simp only [List.length_map] at this
    omega
  refine hsp.mono fun e w' ⟨he, hw⟩ => ⟨_, splitB sp 0 (countB s sp) s, he, ⟨w.heap.size, by rw [hl], fun j hj => ?_⟩, hw1, ?_⟩
  · rw [hw, cell_of_row _ _ _ _ _ _ (heap_alloc_new _ _)]
    simp [hj]
  · rw [hw]; exact (Below.refl _ _).alloc (Nat.le_refl _) _

theorem Tryz.numsInfo : (Tryz.prog.info? 3).map (fun i => (i.zero, i.size, i.bytes)) = some (some (.int .i64 0), 1, 8) := by kernel_rfl

/-- What words are: numbers, in a list of their own, or one that is none. -/
def NumsRow (w : World) (e : Ending) (ts : List ByteArray) : Prop :=
  (∃ (zs : List Int) (g : Nat), zs.length = ts.length ∧ (∀ (j : Nat) (t : ByteArray), ts[j]? = some t → numO t.data.toList = zs[j]?) ∧ e = .returned (.tuple #[.slice (some ⟨g, 0, none⟩) ts.length ts.length, .bool true]) ∧ ∀ j (h : j < zs.length), w.cell? ⟨g, j, none⟩ = some (.int .i64 zs[j])) ∨
  (∃ (j : Nat) (t : ByteArray), ts[j]? = some t ∧ numO t.data.toList = none ∧ e = .returned (.tuple #[.slice none 0 0, .bool false]))

/-- .. in a list that is new. -/
def NumsRowN (B : Nat) (w : World) (e : Ending) (ts : List ByteArray) : Prop :=
  (∃ (zs : List Int) (g : Nat), zs.length = ts.length ∧ (∀ (j : Nat) (t : ByteArray), ts[j]? = some t → numO t.data.toList = zs[j]?) ∧ e = .returned (.tuple #[.slice (some ⟨g, 0, none⟩) ts.length ts.length, .bool true]) ∧ (∀ j (h : j < zs.length), w.cell? ⟨g, j, none⟩ = some (.int .i64 zs[j])) ∧ B ≤ g) ∨
  (∃ (j : Nat) (t : ByteArray), ts[j]? = some t ∧ numO t.data.toList = none ∧ e = .returned (.tuple #[.slice none 0 0, .bool false]))
theorem NumsRowN.weak {B : Nat} {w : World} {e : Ending} {ts : List ByteArray} (h : NumsRowN B w e ts) : NumsRow w e ts := by
  rcases h with ⟨zs, g, h1, h2, h3, h4, _⟩ | h
  · exact Or.inl ⟨zs, g, h1, h2, h3, h4⟩
  · exact Or.inr h

theorem made_get (z : Value) (n j : Nat) (h : j < n) : (madeCells #[z] n)[j]? = some z := by
  unfold madeCells
  simp [h, Nat.mod_one]

set_option maxRecDepth 100000 in
set_option maxHeartbeats 4000000 in
theorem numbers_new (b o cap : Nat) (ts : List ByteArray) (w : World) (a : Nat → Addr) (h : Env0 w a) (hc : ∀ j (h : j < ts.length), w.cell? ⟨b, o + j, none⟩ = some (.string ts[j])) (hs : ∀ t ∈ ts, t.size ≤ maxLen) (hl : ts.length ≤ 20000) :
    Calls Tryz.prog 28 #[.slice (some ⟨b, o, none⟩) ts.length cap] w fun e w' => NumsRowN w.heap.size w' e ts ∧ Below w.heap.size w w' := by
  have HC : Hid (∀ j (h : j < ts.length), w.cell? ⟨b, o + j, none⟩ = some (.string ts[j])) := hc
  have HS : Hid (∀ t ∈ ts, t.size ≤ maxLen) := hs
  obtain ⟨L, hL⟩ : ∃ L, ts.length = L := ⟨_, rfl⟩
  have HX : Hid (ts.length = L) := hL
  rw [hL] at hl ⊢
  clear hL hc hs
  have hmk := fun W => run_make_row' (P := Tryz.prog) 22 3 (.int .i64 0) 8 Tryz.underlying22 Tryz.numsInfo rfl .i64 .i64 L (by omega) (by omega) W
  have hal : Below w.heap.size w (w.alloc (.cells (madeCells #[.int .i64 0] L) 3)) := (Below.refl _ _).alloc (Nat.le_refl _) _
  have hblk := heap_alloc_new w (.cells (madeCells #[.int .i64 0] L) 3)
  have hmd : ∀ j, j < L → (madeCells #[.int .i64 0] L)[j]? = some (.int .i64 0) := fun j hj => made_get _ _ _ hj
  have MD : Hid (∀ j, j < L → (madeCells #[.int .i64 0] L)[j]? = some (.int .i64 0)) := hmd
  clear hmd
  go_enter Tryz.func28, Tryz.ntmps28
  go_wp2
  go_loopw [14] (fun k wr => ∃ (n : Nat) (zs : List Int) (arr : Array Value), n ≤ L ∧ k = .int .i64 n ∧ Below w.heap.size w wr ∧ zs.length = n ∧ (∀ j t, j < n → ts[j]? = some t → numO t.data.toList = zs[j]?) ∧ wr.heap[w.heap.size]? = some (.cells arr 3 (0, 0)) ∧ (∀ j, j < L → ∃ u, arr[j]? = some u) ∧ ∀ j (h : j < zs.length), arr[j]? = some (.int .i64 zs[j])) (fun k _ => L - (intOf k).toNat)
  case atStart => exact ⟨0, [], _, by omega, rfl, hal, rfl, fun j t h => absurd h (Nat.not_lt_zero _), hblk, fun j hj => ⟨_, MD.out j hj⟩, fun j h => absurd h (Nat.not_lt_zero _)⟩
  case round =>
    clear hal hblk hmk
    obtain ⟨n, zs, arr, hn, rfl, hb, hzl, hzs, hbk, har, hgo⟩ := hrel
    have HB : Hid (wr.heap[w.heap.size]? = some (.cells arr 3 (0, 0))) := hbk
    have HZL : Hid (zs.length = n) := hzl
    have HZS : Hid (∀ j t, j < n → ts[j]? = some t → numO t.data.toList = zs[j]?) := hzs
    have HAR : Hid (∀ j, j < L → ∃ u, arr[j]? = some u) := har
    have HGO : Hid (∀ j (h : j < zs.length), arr[j]? = some (.int .i64 zs[j])) := hgo
    clear hbk hzl hzs har hgo
    by_cases hlt : n < L
    · have hltx : n < ts.length := by rw [HX.out]; exact hlt
      have c1 := below_keep hb (HC.out n hltx)
      have HG : Hid (ts[n]? = some ts[n]) := List.getElem?_eq_getElem hltx
      have hnum := number_any ts[n] wr a (h.below hb) (HS.out _ (List.getElem_mem _))
      generalize ts[n] = t at c1 HG hnum
      unfold numR at hnum
      have hi : (n : Int) < (L : Int) := by omega
      have hi0' : (0 : Int) ≤ (n : Int) := by omega
      clear hltx
      cases hk : numO t.data.toList with
      | none =>
        rw [hk] at hnum
        dsimp only at hnum
        have HK : Hid (numO t.data.toList = none) := hk
        clear hk
        go_wp2_with fail
        refine hnum.mono ?_
        rintro e w3 ⟨rfl, hb3⟩
        clear hnum
        have hB3 : Below w.heap.size w w3 := hb.trans (hb3.mono hb.size)
        go_wp2
        go_ret2
        exact ⟨Or.inr ⟨n, t, HG.out, HK.out, rfl⟩, hB3⟩
      | some x =>
        rw [hk] at hnum
        dsimp only at hnum
        have HK : Hid (numO t.data.toList = some x) := hk
        clear hk
        go_wp2_with fail
        refine hnum.mono ?_
        rintro e w3 ⟨rfl, hb3⟩
        clear hnum
        have hB3 : Below w.heap.size w w3 := hb.trans (hb3.mono hb.size)
        have hbk3 : w3.heap[w.heap.size]? = some (.cells arr 3 (0, 0)) := (hb3.block _ (lt_of_block HB.out)).trans HB.out
        obtain ⟨u, hu⟩ := HAR.out n hlt
        have hcu : w3.cell? ⟨w.heap.size, n, none⟩ = some u := by rw [cell_of_row _ _ _ _ _ _ hbk3]; exact hu
        have hfz : w3.frozen? ⟨w.heap.size, n, none⟩ = false := frozen_of_row _ _ _ _ _ hbk3
        have hset := heap_setCell_same w3 w.heap.size n arr 3 (.int .i64 x) hbk3
        have HSET : Hid ((w3.setCell ⟨w.heap.size, n, none⟩ (.int .i64 x)).heap[w.heap.size]? = some (.cells (arr.setIfInBounds n (.int .i64 x)) 3 (0, 0))) := hset
        have HN : Hid (n < arr.size) := by
          show n < arr.size
          rcases Nat.lt_or_ge n arr.size with h' | h'
          · exact h'
          · rw [Array.getElem?_eq_none h'] at hu; cases hu
        have hB4 : Below w.heap.size w (w3.setCell ⟨w.heap.size, n, none⟩ (.int .i64 x)) := hB3.setCell (Nat.le_refl _) _
        clear hset hbk3 hu
        go_wp2
        go_roundw
        case rel =>
          refine ⟨n + 1, zs ++ [x], _, by omega, by go_num, hB4, by rw [List.length_append, HZL.out]; rfl, fun j t' hj ht' => ?_, HSET.out, fun j hj => ?_, fun j hj => ?_⟩
          · rcases Nat.lt_or_ge j n with h' | h'
            · rw [HZS.out j t' h' ht', List.getElem?_append_left (by rw [HZL.out]; exact h')]
            · obtain rfl : j = n := by omega
              rw [HG.out] at ht'
              rw [← Option.some.inj ht', HK.out, List.getElem?_append_right (by rw [HZL.out]; exact Nat.le_refl _), HZL.out, Nat.sub_self]
              rfl
          · rw [Array.getElem?_setIfInBounds]
            split
            · rw [if_pos HN.out]; exact ⟨_, rfl⟩
            · exact HAR.out j hj
          · rw [Array.getElem?_setIfInBounds]
            split
            · rename_i e
              subst e
              rw [if_pos HN.out, List.getElem_append_right (by rw [HZL.out]; exact Nat.le_refl _)]
              simp
            · rename_i e
              have hj' : j < zs.length := by rw [List.length_append] at hj; simp at hj; have := HZL.out; omega
              rw [List.getElem_append_left hj']
              exact HGO.out j hj'
        case measure => simp [intOf]; omega
    · obtain rfl : n = L := by omega
      go_wp2
      go_ret2
      refine ⟨Or.inl ⟨zs, w.heap.size, by rw [HZL.out, HX.out], fun j t ht => HZS.out j t (by
        rw [← HX.out]
        rcases Nat.lt_or_ge j ts.length with h | h
        · exact h
        · rw [List.getElem?_eq_none h] at ht; cases ht) ht, by rw [HX.out]; rfl, fun j hj => ?_, Nat.le_refl _⟩, hb⟩
      rw [cell_of_row _ _ _ _ _ _ HB.out]
      exact HGO.out j hj

theorem numbers_any (b o cap : Nat) (ts : List ByteArray) (w : World) (a : Nat → Addr) (h : Env0 w a) (hc : ∀ j (h : j < ts.length), w.cell? ⟨b, o + j, none⟩ = some (.string ts[j])) (hs : ∀ t ∈ ts, t.size ≤ maxLen) (hl : ts.length ≤ 20000) :
    Calls Tryz.prog 28 #[.slice (some ⟨b, o, none⟩) ts.length cap] w fun e w' => NumsRow w' e ts ∧ Below w.heap.size w w' :=
  (numbers_new b o cap ts w a h hc hs hl).mono fun _ _ ⟨h1, h2⟩ => ⟨h1.weak, h2⟩
end Go.Proofs.YtniipgaacdpncaaGreatDoor
