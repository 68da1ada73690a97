/-
  What the statements on lists ask of the program's functions, in one word; the closed fact of the statements.
-/
import Derived.Test.YtniipgaacdpncaaGreatDoorLaw2
import Derived.Test.YtniipgaacdpncaaGreatDoorListTold
import Derived.Test.YtniipgaacdpncaaGreatDoorRefList6
import Derived.Test.YtniipgaacdpncaaGreatDoorRefData
import Derived.Test.YtniipgaacdpncaaGreatDoorRefLines
import Derived.Test.YtniipgaacdpncaaGreatDoorDataMake
import Derived.Maps.AppendAt
import Derived.Deep.Onto
import Derived.Lib.QuietBelow
import Derived.BigQuiet
import Derived.Test.YtniipgaacdpncaaGreatDoorRefNums
import Derived.BigRegion
import Derived.Test.YtniipgaacdpncaaGreatDoorFileNum
import Derived.Test.YtniipgaacdpncaaGreatDoorRefDec
namespace Go.Proofs.YtniipgaacdpncaaGreatDoor
open Go.RowKit Go.Extern.Stop Go.Stop Go.Extern Go.Sort Go.Shelf Go.Lib

/-- Such an error and the document's fault are the same. -/
theorem ToldE.same {W : World} {a : Nat → Addr} {ev : Value} {c : Nat × Option Nat} (h : ToldE W a ev c) (hc : c.1 ≤ 12) (hE : Errs W a) :
    Calls Tryz.prog 8 #[ev, .agg #[.int .i64 c.1, .int .i64 (atZ c.2)]] W fun e w' => e = .returned (.bool true) ∧ Below W.heap.size W w' := by
  obtain ⟨n, o⟩ := c
  cases o with
  | none =>
    obtain rfl : ev = errV a n := h
    exact faulted2_err n hc W a hE
  | some j =>
    obtain ⟨h0, fb, rfl, c0, c1⟩ := h
    exact faulted2_at n h0 hc W a hE fb j c0 c1

theorem listE_le (fs : List Fl) : (listE fs).1 ≤ 12 := by
  unfold listE
  split
  · exact (by decide : (8 : Nat) ≤ 12)
  · exact lstG_le _ _ _

/-- The two files of the closed fact. -/
def oneF (n : UInt8) : Fl := (⟨#[100, 97, 116, 97, 47, n]⟩, ⟨#[97]⟩, 1, 0, 0, 1)

theorem dig_o (d : Nat) (h : d < 10) : decDigits d = [UInt8.ofNat (48 + d)] := by rw [decDigits, dif_pos h]
theorem on_1 : itoa 1 = [49] := by
  have h : decDigits 1 = [49] := dig_o 1 (by decide)
  simp [itoa, h]
theorem on_2 : itoa 2 = [50] := by
  have h : decDigits 2 = [50] := dig_o 2 (by decide)
  simp [itoa, h]
theorem on_0 : itoa 0 = [48] := by
  have h : decDigits 0 = [48] := dig_o 0 (by decide)
  simp [itoa, h]
theorem on_path1 : pathO (oneF 49).1.data.toList = some (false, 1) := by
  have h := path_of false [49]
  have hn : numO [49] = some 1 := by rw [← on_1]; exact numO_itoa 1 (by decide)
  have hp : pathN [49] = some 1 := by unfold pathN; rw [hn]; rfl
  rw [hp] at h
  exact h
theorem on_path2 : pathO (oneF 50).1.data.toList = some (false, 2) := by
  have h := path_of false [50]
  have hn : numO [50] = some 2 := by rw [← on_2]; exact numO_itoa 2 (by decide)
  have hp : pathN [50] = some 2 := by unfold pathN; rw [hn]; rfl
  rw [hp] at h
  exact h
theorem on_ok1 : fileE (oneF 49) = 0 := by
  unfold fileE
  rw [on_path1]
  decide
theorem on_ok2 : fileE (oneF 50) = 0 := by
  unfold fileE
  rw [on_path2]
  decide
theorem on_fk1 : fk (oneF 49) = 1 := by unfold fk; rw [(pk_some on_path1).1]; rfl
theorem on_fk2 : fk (oneF 50) = 2 := by unfold fk; rw [(pk_some on_path2).1]; rfl
theorem on_list : (listE [oneF 50]).1 = 0 := listE_ok.2 ⟨by decide, rises_cons.2 ⟨on_ok2, by rw [on_fk2]; decide, by simp [Rises]⟩⟩
theorem on_two : (listE [oneF 49, oneF 50]).1 = 0 := listE_ok.2 ⟨by decide, rises_cons.2 ⟨on_ok1, by rw [on_fk1]; decide, rises_cons.2 ⟨on_ok2, by rw [on_fk1, on_fk2]; decide, by simp [Rises]⟩⟩⟩
theorem on_find : findF [oneF 50] (oneF 49).1 = -1 := findF_no fun j hj => by
  obtain rfl : j = 0 := by simp at hj; omega
  intro e
  have := congrArg (fun b : ByteArray => b.data.toList) e
  simp [oneF] at this
theorem on_add : addE [oneF 50] (oneF 49) = (0, none) := by
  unfold addE
  rw [if_neg (by rw [on_list]; simp), if_neg (by rw [on_ok1]; simp), on_find, if_neg (by decide), if_neg (by decide)]
theorem on_addL : addL [oneF 50] (oneF 49) = [oneF 49, oneF 50] := by
  unfold addL
  rw [on_add, if_pos rfl]
  exact place_mid (xs := []) (ys := [oneF 50]) (by simp) (by simp [on_fk1, on_fk2])
theorem on_text : listL [oneF 49, oneF 50] = [100, 97, 116, 97, 47, 49, 32, 97, 32, 49, 32, 48, 32, 48, 32, 49, 10, 100, 97, 116, 97, 47, 50, 32, 97, 32, 49, 32, 48, 32, 48, 32, 49, 10] := by
  simp [listL, fileL, oneF, on_1, on_0]

end Go.Proofs.YtniipgaacdpncaaGreatDoor
