/-
  The contracts of data.lines and of data.headOf, head.text: a file's body and its head.
-/
import Derived.Test.YtabllmfncdedeabGreatDoorDataPure
import Derived.Test.YtabllmfncdedeabGreatDoorDataShelf
import Derived.Test.YtabllmfncdedeabGreatDoorDataSum
import Derived.Test.YtabllmfncdedeabGreatDoorSortsWalk
namespace Go.Proofs.YtabllmfncdedeabGreatDoor
open Go.RowKit Go.Extern.Stop Go.Stop Go.Extern Go.Sort Go.Shelf Go.Lib

theorem writeString_any (B b : Nat) (bs : List Value) (s : ByteArray) (w : World) (h : Lib.IsBuilder 85 5 B b bs w) (hlen : bs.length + s.size ≤ 140737488355328) (hBw : B ≤ w.heap.size) :
    Calls Tryz.prog 41 #[.pointer (some ⟨b, 0, none⟩), .string s] w fun e w' => e = .returned (.tuple #[.int .i64 s.size, .nilIface]) ∧ (Lib.BuilderAt 85 5 B b (.pointer (some ⟨b, 0, none⟩)) (bs ++ Lib.strCells s) w' ∧ Below B w w') :=
  Any.Builder_WriteString { Tryz.lays156 with } Tryz.Builder_Extra_156 B b bs s w h hlen hBw

theorem isBuilder_below {T e : TypeId} {B b : Nat} {bs : List Value} {w w' : World} (h : Lib.IsBuilder T e B b bs w) (hb : Below w.heap.size w w') : Lib.IsBuilder T e B b bs w' := by
  rcases h with h | h
  · have hlt := h.lt
    obtain ⟨hB, v, hbk, hown, hne⟩ := h
    exact Or.inl ⟨hB, v, (hb.block b hlt).trans hbk, own_below hown hb, hne⟩
  · have hlt := h.lt
    obtain ⟨hB, v, hbk, hown, hne⟩ := h
    exact Or.inr ⟨hB, v, (hb.block b hlt).trans hbk, own_below hown hb, hne⟩

theorem lines_snoc (xs : List Rw) (x : Rw) : linesL (xs ++ [x]) = linesL xs ++ (textL x ++ [10]) := by simp [linesL]

set_option maxRecDepth 100000 in
set_option maxHeartbeats 2000000 in
theorem lines_any (v : Value) (xs : List Rw) (w : World) (a : Nat → Addr) (h : Env w a) (hx : RowsAt w v xs) (hl : xs.length ≤ 1000) (hall : ∀ x ∈ xs, rowE x = 0) :
    Calls Tryz.prog 17 #[v] w fun e w' => e = .returned (.string (bytesOf (linesL xs))) ∧ Below w.heap.size w w' := by
  obtain ⟨q, cap, rfl⟩ := hx.form
  generalize hL : xs.length = L at hx hl ⊢
  have HX : Hid (xs.length = L) := hL
  clear hL
  have hal : Below w.heap.size w (w.alloc (.cells #[.pointer none, .slice none 0 0] 85)) := (Below.refl _ _).alloc (Nat.le_refl _) _
  have hbld : Lib.IsBuilder 85 5 w.heap.size w.heap.size (Lib.byteCells (linesL [])) (w.alloc (.cells #[.pointer none, .slice none 0 0] 85)) :=
    Or.inl ⟨Nat.le_refl _, .slice none 0 0, heap_alloc_new _ _, World.ownsRow_nil _ _ _ _, by simp [Value.ownBlock]⟩
  go_enter Tryz.func17, Tryz.ntmps17
  go_wp2
  go_loopw [8] (fun k wr => ∃ n : Nat, n ≤ L ∧ k = .int .i64 n ∧ Below w.heap.size w wr ∧ Lib.IsBuilder 85 5 w.heap.size w.heap.size (Lib.byteCells (linesL (xs.take n))) wr) (fun k _ => L - (intOf k).toNat)
  case atStart => exact ⟨0, by omega, rfl, hal, by simpa using hbld⟩
  case round =>
    clear hal hbld
    obtain ⟨n, hn, rfl, hb, hB⟩ := hrel
    have hbh : w.heap.size ≤ wr.heap.size := hb.size
    by_cases hlt : n < L
    · have hltx : n < xs.length := by rw [HX.out]; exact hlt
      have hrows := hx.below hb
      rcases hrows with ⟨_, _, e, e'⟩ | ⟨b, o, cap2, e, hcells⟩
      · exfalso; have := HX.out; rw [e'] at this; simp at this; omega
      injection e with e1 e2 e3
      subst e1
      clear e2 e3
      obtain ⟨c1, c2, c3⟩ := hcells n hltx
      clear hcells
      have hi : (n : Int) < (L : Int) := by omega
      have hmem : xs[n] ∈ xs := List.getElem_mem _
      have hrok := hall _ hmem
      have htk : xs.take (n + 1) = xs.take n ++ [xs[n]] := by rw [List.take_append_getElem hltx]
      have hxs : xs[n].1.size ≤ 8 := by
        have := name_of_row hrok
        simp only [nameB, Bool.and_eq_true, decide_eq_true_eq] at this
        rw [← size_list]; exact this.1.2
      have htx := fun W (hW : Env W a) => text_any xs[n] W a hW (by unfold maxLen; omega)
      have HTB : Hid ((textB xs[n]).data.toList = textL xs[n]) := textB_ok _ hrok
      have htl := text_len xs[n] hrok
      have hts : (textB xs[n]).size ≤ 32 := by rw [← size_list, HTB.out]; exact htl
      have HT : Hid (linesL (xs.take (n + 1)) = linesL (xs.take n) ++ (textL xs[n] ++ [10])) := by
        show _ = _
        rw [htk, lines_snoc]
      have hll := lines_len (xs.take n) (fun x hx2 => hall x (List.mem_of_mem_take hx2))
      have hlen : (Lib.byteCells (linesL (xs.take n))).length ≤ 40000 := by
        rw [Lib.byteCells_length]
        have : (xs.take n).length ≤ n := List.length_take_le _ _
        omega
      clear htk hmem hrok hxs htl hll
      generalize xs[n] = x at c1 c2 c3 htx HTB hts HT
      generalize linesL (xs.take n) = acc at hB HT hlen
      obtain ⟨xp, xk, xv⟩ := x
      generalize textB (xp, xk, xv) = tb at htx HTB hts
      dsimp only at c1 c2 c3 htx
      have hal : Below wr.heap.size wr (wr.alloc (.cells #[.string xp, .int .i64 xk, .int .i64 xv] 45)) := (Below.refl _ _).alloc (Nat.le_refl _) _
      have hb2 : Below w.heap.size w (wr.alloc (.cells #[.string xp, .int .i64 xk, .int .i64 xv] 45)) := hb.trans (hal.mono hb.size)
      have htx2 := htx _ (h.below hb2)
      have hB2 := isBuilder_below hB hal
      clear htx hB
      go_wp2_with fail
      refine htx2.mono ?_
      rintro e w3 ⟨rfl, hb3⟩
      clear htx2 c1 c2 c3
      have hb4 : Below w.heap.size w w3 := hb2.trans (hb3.mono hb2.size)
      have hws := writeString_any w.heap.size w.heap.size _ tb w3 (isBuilder_below hB2 hb3) (by omega) hb4.size
      clear hB2 hal
      go_wp2_with fail
      refine hws.mono ?_
      rintro e w5 ⟨rfl, hB5, hb5⟩
      clear hws
      have hb6 : Below w.heap.size w w5 := hb4.trans hb5
      have hws := writeString_any w.heap.size w.heap.size _ ⟨#[10]⟩ w5 (Or.inr hB5) (by rw [List.length_append, Lib.strCells_length]; have : (⟨#[10]⟩ : ByteArray).size = 1 := rfl; omega) hb6.size
      go_wp2_with fail
      refine hws.mono ?_
      rintro e w7 ⟨rfl, hB7, hb7⟩
      clear hws hB5
      have hb8 : Below w.heap.size w w7 := hb6.trans hb7
      have HB8 : Hid (Lib.IsBuilder 85 5 w.heap.size w.heap.size (Lib.byteCells (linesL (xs.take (n + 1)))) w7) := by
        show Lib.IsBuilder _ _ _ _ _ _
        rw [HT.out, Lib.byteCells_append, Lib.byteCells_append, ← HTB.out, ← List.append_assoc]
        exact Or.inr hB7
      clear hB7
      go_wp2
      go_roundw
      case rel => exact ⟨n + 1, by omega, by go_num, hb8, HB8.out⟩
      case measure => simp [intOf]; omega
    · obtain rfl : n = L := by omega
      have hta : xs.take n = xs := List.take_of_length_le (by rw [HX.out]; exact Nat.le_refl _)
      rw [hta] at hB
      have hst := Tryz.Builder_String_any w.heap.size w.heap.size (linesL xs) wr hB hb.size
      clear hB hta
      go_wp2_with fail
      refine hst.mono ?_
      rintro e w9 ⟨rfl, hb9⟩
      clear hst
      go_wp2
      go_ret
      exact ⟨rfl, hb.trans hb9⟩
end Go.Proofs.YtabllmfncdedeabGreatDoor
