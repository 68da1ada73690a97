/-
  The contracts of the second package of statements' own faulted and LongFiles.
  What the statements on lists ask of the program's functions, in one word; the closed fact of the statements.
-/
import Derived.Test.YtniipgaacdpncaaGreatDoorFaulted
import Derived.Test.YtniipgaacdpncaaGreatDoorFileLaw
import Derived.Test.YtniipgaacdpncaaGreatDoorRefList4
import Derived.Test.YtniipgaacdpncaaGreatDoorListTold
import Derived.Test.YtniipgaacdpncaaGreatDoorRefList6
import Derived.Test.YtniipgaacdpncaaGreatDoorRefData
import Derived.Test.YtniipgaacdpncaaGreatDoorRefLines
import Derived.Test.YtniipgaacdpncaaGreatDoorDataMake
import Derived.Maps.AppendAt
import Derived.Deep.Onto
import Derived.Lib.QuietBelow
import Derived.BigQuiet
import Derived.Test.YtniipgaacdpncaaGreatDoorRefNums
import Derived.BigRegion
import Derived.Test.YtniipgaacdpncaaGreatDoorFileNum
namespace Go.Proofs.YtniipgaacdpncaaGreatDoor
open Go.RowKit Go.Extern.Stop Go.Stop Go.Extern Go.Sort Go.Shelf Go.Lib

set_option maxRecDepth 100000 in
set_option maxHeartbeats 1000000 in
theorem faulted2_same (v : Value) (x y : Int) (w : World)
    (hc : Calls Tryz.prog 23 #[v] (w.alloc (.cells #[.int .i64 x, .int .i64 y] 25)) fun e w' => e = .returned (.tuple #[.int .i64 x, .int .i64 y]) ∧ Below (w.alloc (.cells #[.int .i64 x, .int .i64 y] 25)).heap.size (w.alloc (.cells #[.int .i64 x, .int .i64 y] 25)) w') :
    Calls Tryz.prog 8 #[v, .agg #[.int .i64 x, .int .i64 y]] w fun e w' => e = .returned (.bool true) ∧ Below w.heap.size w w' := by
  have hal : Below w.heap.size w (w.alloc (.cells #[.int .i64 x, .int .i64 y] 25)) := (Below.refl _ _).alloc (Nat.le_refl _) _
  have x0 : (w.alloc (.cells #[.int .i64 x, .int .i64 y] 25)).cell? ⟨w.heap.size, 0, none⟩ = some (.int .i64 x) := by simp
  have x1 : (w.alloc (.cells #[.int .i64 x, .int .i64 y] 25)).cell? ⟨w.heap.size, 1, none⟩ = some (.int .i64 y) := by simp
  go_enter Tryz.func8, Tryz.ntmps8
  go_wp2_with fail
  refine hc.mono ?_
  rintro e w1 ⟨rfl, hb1⟩
  clear hc
  have y0 := below_keep hb1 x0
  have y1 := below_keep hb1 x1
  have hB : Below w.heap.size w w1 := hal.trans (hb1.mono hal.size)
  clear x0 x1
  by_cases hx : x = 0
  · subst hx
    go_wp2
    go_ret
    exact ⟨rfl, hB⟩
  · go_wp2
    go_ret
    exact ⟨by simp, hB⟩

theorem faulted2_err (n : Nat) (hn : n ≤ 12) (w : World) (a : Nat → Addr) (h : Errs w a) :
    Calls Tryz.prog 8 #[errV a n, .agg #[.int .i64 n, .int .i64 (-1)]] w fun e w' => e = .returned (.bool true) ∧ Below w.heap.size w w' :=
  faulted2_same _ _ _ w (err_code n hn _ a (h.below ((Below.refl _ _).alloc (Nat.le_refl _) _)))

theorem faulted2_at (n : Nat) (h0 : n ≠ 0) (hn : n ≤ 12) (w : World) (a : Nat → Addr) (h : Errs w a) (fb : Nat) (j : Int) (c0 : w.cell? ⟨fb, 0, none⟩ = some (.int .i64 j)) (c1 : w.cell? ⟨fb, 1, none⟩ = some (errV a n)) :
    Calls Tryz.prog 8 #[.iface 58 (.pointer (some ⟨fb, 0, none⟩)), .agg #[.int .i64 n, .int .i64 j]] w fun e w' => e = .returned (.bool true) ∧ Below w.heap.size w w' :=
  faulted2_same _ _ _ w (fault_code n h0 hn _ a (h.below ((Below.refl _ _).alloc (Nat.le_refl _) _)) fb j (below_keep ((Below.refl _ _).alloc (Nat.le_refl _) _) c0) (below_keep ((Below.refl _ _).alloc (Nat.le_refl _) _) c1))

/-- Are files too many, or too long, for a statement? -/
def longFs (fs : List Fl) : Bool := (decide (40 < fs.length) && decide (fs.length ≠ 60) && decide (fs.length ≠ 61)) || fs.any longFB

theorem longFs_no {fs : List Fl} (h : longFs fs = false) : fs.length ≤ 61 ∧ ∀ f ∈ fs, f.1.size ≤ 30 ∧ f.2.1.size ≤ 30 := by
  unfold longFs at h
  rw [Bool.or_eq_false_iff] at h
  refine ⟨?_, fun f hf => ?_⟩
  · have h1 := h.1
    rcases Nat.lt_or_ge 40 fs.length with h' | h'
    · simp only [h', decide_true, Bool.true_and] at h1
      simp at h1
      omega
    · omega
  · have := List.any_eq_false.1 h.2 f hf
    simp only [longFB, Bool.or_eq_true, decide_eq_true_eq, not_or] at this
    omega

theorem anyLong_succ {fs : List Fl} {n : Nat} (h : ∀ j (h : j < fs.length), j < n → longFB fs[j] = false) (hn : n < fs.length) (e : longFB fs[n] = false) : ∀ j (h : j < fs.length), j < n + 1 → longFB fs[j] = false := fun j hj hjn => by
  rcases Nat.lt_or_ge j n with h' | h'
  · exact h j hj h'
  · obtain rfl : j = n := by omega
    exact e

end Go.Proofs.YtniipgaacdpncaaGreatDoor
namespace Go.Proofs.YtniipgaacdpncaaGreatDoor
open Go.RowKit Go.Extern.Stop Go.Stop Go.Extern Go.Sort Go.Shelf Go.Lib

/-- Such an error and the document's fault are the same. -/
theorem ToldE.same {W : World} {a : Nat → Addr} {ev : Value} {c : Nat × Option Nat} (h : ToldE W a ev c) (hc : c.1 ≤ 12) (hE : Errs W a) :
    Calls Tryz.prog 8 #[ev, .agg #[.int .i64 c.1, .int .i64 (atZ c.2)]] W fun e w' => e = .returned (.bool true) ∧ Below W.heap.size W w' := by
  obtain ⟨n, o⟩ := c
  cases o with
  | none =>
    obtain rfl : ev = errV a n := h
    exact faulted2_err n hc W a hE
  | some j =>
    obtain ⟨h0, fb, rfl, c0, c1⟩ := h
    exact faulted2_at n h0 hc W a hE fb j c0 c1

theorem listE_le (fs : List Fl) : (listE fs).1 ≤ 12 := by
  unfold listE
  split
  · exact (by decide : (8 : Nat) ≤ 12)
  · exact lstG_le _ _ _

/-- The two files of the closed fact. -/
def oneF (n : UInt8) : Fl := (⟨#[100, 97, 116, 97, 47, n]⟩, ⟨#[97]⟩, 1, 0, 0, 1)

theorem dig_o (d : Nat) (h : d < 10) : decDigits d = [UInt8.ofNat (48 + d)] := by rw [decDigits, dif_pos h]
theorem on_1 : itoa 1 = [49] := by
  have h : decDigits 1 = [49] := dig_o 1 (by decide)
  simp [itoa, h]
theorem on_2 : itoa 2 = [50] := by
  have h : decDigits 2 = [50] := dig_o 2 (by decide)
  simp [itoa, h]
theorem on_0 : itoa 0 = [48] := by
  have h : decDigits 0 = [48] := dig_o 0 (by decide)
  simp [itoa, h]
theorem on_path1 : pathO (oneF 49).1.data.toList = some (false, 1) := by
  have h := path_of false [49]
  have hn : numO [49] = some 1 := by rw [← on_1]; exact numO_itoa 1 (by decide)
  have hp : pathN [49] = some 1 := by unfold pathN; rw [hn]; rfl
  rw [hp] at h
  exact h
theorem on_path2 : pathO (oneF 50).1.data.toList = some (false, 2) := by
  have h := path_of false [50]
  have hn : numO [50] = some 2 := by rw [← on_2]; exact numO_itoa 2 (by decide)
  have hp : pathN [50] = some 2 := by unfold pathN; rw [hn]; rfl
  rw [hp] at h
  exact h
theorem on_ok1 : fileE (oneF 49) = 0 := by
  unfold fileE
  rw [on_path1]
  decide
theorem on_ok2 : fileE (oneF 50) = 0 := by
  unfold fileE
  rw [on_path2]
  decide
theorem on_fk1 : fk (oneF 49) = 1 := by unfold fk; rw [(pk_some on_path1).1]; rfl
theorem on_fk2 : fk (oneF 50) = 2 := by unfold fk; rw [(pk_some on_path2).1]; rfl
theorem on_list : (listE [oneF 50]).1 = 0 := listE_ok.2 ⟨by decide, rises_cons.2 ⟨on_ok2, by rw [on_fk2]; decide, by simp [Rises]⟩⟩
theorem on_two : (listE [oneF 49, oneF 50]).1 = 0 := listE_ok.2 ⟨by decide, rises_cons.2 ⟨on_ok1, by rw [on_fk1]; decide, rises_cons.2 ⟨on_ok2, by rw [on_fk1, on_fk2]; decide, by simp [Rises]⟩⟩⟩
theorem on_find : findF [oneF 50] (oneF 49).1 = -1 := findF_no fun j hj => by
  obtain rfl : j = 0 := by simp at hj; omega
  intro e
  have := congrArg (fun b : ByteArray => b.data.toList) e
  simp [oneF] at this
theorem on_add : addE [oneF 50] (oneF 49) = (0, none) := by
  unfold addE
  rw [if_neg (by rw [on_list]; simp), if_neg (by rw [on_ok1]; simp), on_find, if_neg (by decide), if_neg (by decide)]
theorem on_addL : addL [oneF 50] (oneF 49) = [oneF 49, oneF 50] := by
  unfold addL
  rw [on_add, if_pos rfl]
  exact place_mid (xs := []) (ys := [oneF 50]) (by simp) (by simp [on_fk1, on_fk2])
theorem on_text : listL [oneF 49, oneF 50] = [100, 97, 116, 97, 47, 49, 32, 97, 32, 49, 32, 48, 32, 48, 32, 49, 10, 100, 97, 116, 97, 47, 50, 32, 97, 32, 49, 32, 48, 32, 48, 32, 49, 10] := by
  simp [listL, fileL, oneF, on_1, on_0]

end Go.Proofs.YtniipgaacdpncaaGreatDoor
