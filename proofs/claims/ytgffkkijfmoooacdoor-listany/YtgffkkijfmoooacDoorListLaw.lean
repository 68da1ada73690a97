/-
  What the statements on lists ask of the program's functions, in one word; the closed fact of the statements.
-/
import Derived.Test.YtgffkkijfmoooacDoorLaw2
import Derived.Test.YtgffkkijfmoooacDoorListTold
import Derived.Test.YtgffkkijfmoooacDoorRefList6
import Derived.Test.YtgffkkijfmoooacDoorRefReadData
import Derived.Test.YtgffkkijfmoooacDoorFileChk
import Derived.Test.YtgffkkijfmoooacDoorCrcPure
import Derived.Test.YtgffkkijfmoooacDoorRowRead
import Derived.Laws.BitsAll
import Derived.Laws.BitsAllLaws
import Derived.Laws.Rows
import Derived.Laws.CopyRow
import Derived.Laws.Tables
import Derived.Laws.Bits128
import Derived.Test.YtgffkkijfmoooacDoorRefWords
import Derived.Test.YtgffkkijfmoooacDoorDataHead
import Derived.Test.YtgffkkijfmoooacDoorLinePure
import Derived.Test.YtgffkkijfmoooacDoorRefText
import Derived.Test.YtgffkkijfmoooacDoorFileText
namespace Go.Proofs.YtgffkkijfmoooacDoor
open Go.RowKit Go.Extern.Stop Go.Stop Go.Extern Go.Sort Go.Shelf Go.Lib

/-- What the statements ask of the program's functions on lists. -/
structure ListK (a : Nat → Addr) (EL : World → Prop) : Prop where
  below : ∀ W W' : World, EL W → Below W.heap.size W W' → EL W'
  check : ∀ (W : World) (v : Value) (fs : List Fl), EL W → FlsAt W v fs → fs.length ≤ 100 → Short fs → Calls Tryd.prog 7 #[v] W fun e w' => ∃ ev, e = .returned ev ∧ ToldE w' a ev (listE fs) ∧ Below W.heap.size W w'
  text : ∀ (W : World) (v : Value) (fs : List Fl), EL W → FlsAt W v fs → fs.length ≤ 100 → Short fs → Calls Tryd.prog 13 #[v] W fun e w' => ∃ ev, e = .returned (.tuple #[.string (if (listE fs).1 = 0 then bytesOf (listL fs) else ⟨#[]⟩), ev]) ∧ ToldE w' a ev (listE fs) ∧ Below W.heap.size W w'
  add : ∀ (W : World) (v : Value) (fs : List Fl) (f : Fl), EL W → FlsAt W v fs → fs.length ≤ 100 → Short fs → f.1.size ≤ 30 → f.2.1.size ≤ 30 → Calls Tryd.prog 8 #[v, flV f] W fun e w' => ∃ v' ev, e = .returned (.tuple #[v', ev]) ∧ FlsAt w' v' (addL fs f) ∧ ToldE w' a ev (addE fs f) ∧ Below W.heap.size W w'
  remove : ∀ (W : World) (v : Value) (fs : List Fl) (p : ByteArray), EL W → FlsAt W v fs → fs.length ≤ 100 → Short fs → p.size ≤ 30 → Calls Tryd.prog 10 #[v, .string p] W fun e w' => ∃ v' ev, e = .returned (.tuple #[v', ev]) ∧ FlsAt w' v' (remL fs p) ∧ ToldE w' a ev (remE fs p) ∧ Below W.heap.size W w'
  find : ∀ (W : World) (v : Value) (fs : List Fl) (p : ByteArray), EL W → FlsAt W v fs → fs.length ≤ 100 → Calls Tryd.prog 11 #[v, .string p] W fun e w' => e = .returned (.int .i64 (findF fs p)) ∧ Below W.heap.size W w'

theorem listE_le (fs : List Fl) : (listE fs).1 ≤ 12 := by
  unfold listE
  split
  · exact (by decide : (8 : Nat) ≤ 12)
  · exact lstG_le _ _ _

/-- The two files of the closed fact. -/
def oneF (n : UInt8) : Fl := (⟨#[100, 97, 116, 97, 47, n]⟩, ⟨#[97]⟩, 1, 0, 0, 1)

set_option maxRecDepth 100000 in
theorem one_any (p : ByteArray) (seq : Int) (w : World) :
    Calls Tryd.prog 12 #[.string p, .int .i64 seq] w fun e w' => e = .returned (flV (p, ⟨#[97]⟩, 1, 0, 0, seq)) ∧ Below w.heap.size w w' := by
  have hal : Below w.heap.size w (w.alloc (.cells #[.string p, .string ⟨#[97]⟩, .int .i64 1, .int .i64 0, .int .i64 0, .int .i64 seq] 32)) := (Below.refl _ _).alloc (Nat.le_refl _) _
  go_enter Tryd.func12, Tryd.ntmps12
  go_wp2
  refine bodyPost_ret (v := flV (p, ⟨#[97]⟩, 1, 0, 0, seq)) (by simp [results, Tryd.results12, go_sem, flV]) rfl ⟨rfl, ?_⟩
  exact hal

theorem dig_o (d : Nat) (h : d < 10) : decDigits d = [UInt8.ofNat (48 + d)] := by rw [decDigits, dif_pos h]
theorem on_1 : itoa 1 = [49] := by
  have h : decDigits 1 = [49] := dig_o 1 (by decide)
  simp [itoa, h]
theorem on_2 : itoa 2 = [50] := by
  have h : decDigits 2 = [50] := dig_o 2 (by decide)
  simp [itoa, h]
theorem on_0 : itoa 0 = [48] := by
  have h : decDigits 0 = [48] := dig_o 0 (by decide)
  simp [itoa, h]
theorem on_path1 : pathO (oneF 49).1.data.toList = some (false, 1) := by
  have h := path_of false [49]
  have hn : numO [49] = some 1 := by rw [← on_1]; exact numO_itoa 1 (by decide)
  have hp : pathN [49] = some 1 := by unfold pathN; rw [hn]; rfl
  rw [hp] at h
  exact h
theorem on_path2 : pathO (oneF 50).1.data.toList = some (false, 2) := by
  have h := path_of false [50]
  have hn : numO [50] = some 2 := by rw [← on_2]; exact numO_itoa 2 (by decide)
  have hp : pathN [50] = some 2 := by unfold pathN; rw [hn]; rfl
  rw [hp] at h
  exact h
theorem on_ok1 : fileE (oneF 49) = 0 := by
  unfold fileE
  rw [on_path1]
  decide
theorem on_ok2 : fileE (oneF 50) = 0 := by
  unfold fileE
  rw [on_path2]
  decide
theorem on_fk1 : fk (oneF 49) = 1 := by unfold fk; rw [(pk_some on_path1).1]; rfl
theorem on_fk2 : fk (oneF 50) = 2 := by unfold fk; rw [(pk_some on_path2).1]; rfl
theorem on_list : (listE [oneF 50]).1 = 0 := listE_ok.2 ⟨by decide, rises_cons.2 ⟨on_ok2, by rw [on_fk2]; decide, by simp [Rises]⟩⟩
theorem on_two : (listE [oneF 49, oneF 50]).1 = 0 := listE_ok.2 ⟨by decide, rises_cons.2 ⟨on_ok1, by rw [on_fk1]; decide, rises_cons.2 ⟨on_ok2, by rw [on_fk1, on_fk2]; decide, by simp [Rises]⟩⟩⟩
theorem on_find : findF [oneF 50] (oneF 49).1 = -1 := findF_no fun j hj => by
  obtain rfl : j = 0 := by simp at hj; omega
  intro e
  have := congrArg (fun b : ByteArray => b.data.toList) e
  simp [oneF] at this
theorem on_add : addE [oneF 50] (oneF 49) = (0, none) := by
  unfold addE
  rw [if_neg (by rw [on_list]; simp), if_neg (by rw [on_ok1]; simp), on_find, if_neg (by decide), if_neg (by decide)]
theorem on_addL : addL [oneF 50] (oneF 49) = [oneF 49, oneF 50] := by
  unfold addL
  rw [on_add, if_pos rfl]
  exact place_mid (xs := []) (ys := [oneF 50]) (by simp) (by simp [on_fk1, on_fk2])
theorem on_text : listL [oneF 49, oneF 50] = [100, 97, 116, 97, 47, 49, 32, 97, 32, 49, 32, 48, 32, 48, 32, 49, 10, 100, 97, 116, 97, 47, 50, 32, 97, 32, 49, 32, 48, 32, 48, 32, 49, 10] := by
  simp [listL, fileL, oneF, on_1, on_0]

set_option maxRecDepth 100000 in
set_option maxHeartbeats 2000000 in
theorem listed_any (w : World) (a : Nat → Addr) (EL : World → Prop) (K : ListK a EL) (h : EL w) :
    Calls Tryd.prog 4 #[] w fun e w' => e = .returned (.bool true) ∧ Below w.heap.size w w' := by
  have ho := fun p W => one_any p 1 W
  unfold flV at ho
  dsimp only at ho
  go_enter Tryd.func4, Tryd.ntmps4
  go_wp2_with fail
  refine (ho _ _).mono ?_
  rintro e w1 ⟨rfl, hb1⟩
  have hal : Below w1.heap.size w1 (w1.alloc (.cells #[.string ⟨#[100, 97, 116, 97, 47, 50]⟩, .string ⟨#[97]⟩, .int .i64 1, .int .i64 0, .int .i64 0, .int .i64 1] 32)) := (Below.refl _ _).alloc (Nat.le_refl _) _
  have hB2 : Below w.heap.size w (w1.alloc (.cells #[.string ⟨#[100, 97, 116, 97, 47, 50]⟩, .string ⟨#[97]⟩, .int .i64 1, .int .i64 0, .int .i64 0, .int .i64 1] 32)) := hb1.trans (hal.mono hb1.size)
  have hx : FlsAt (w1.alloc (.cells #[.string ⟨#[100, 97, 116, 97, 47, 50]⟩, .string ⟨#[97]⟩, .int .i64 1, .int .i64 0, .int .i64 0, .int .i64 1] 32)) (.slice (some ⟨w1.heap.size, 0, none⟩) 1 1) [oneF 50] := by
    refine Or.inr ⟨w1.heap.size, 0, 1, rfl, Nat.le_refl _, flCells_of fun t u hu => ?_⟩
    have h' := cells6 w1 (oneF 50) t u (by simpa [flatF] using hu)
    rw [Addr.add_lit] at h'
    exact h'
  go_wp2_with fail
  generalize w1.alloc (.cells #[.string ⟨#[100, 97, 116, 97, 47, 50]⟩, .string ⟨#[97]⟩, .int .i64 1, .int .i64 0, .int .i64 0, .int .i64 1] 32) = w2 at hB2 hx ⊢
  generalize w1.heap.size = b1 at hx ⊢
  refine (ho _ _).mono ?_
  rintro e w3 ⟨rfl, hb3⟩
  clear ho hal hb1
  have hB3 : Below w.heap.size w w3 := hB2.trans (hb3.mono hB2.size)
  have had := K.add w3 _ [oneF 50] (oneF 49) (K.below _ _ h hB3) (hx.below hb3) (by decide) (fun g hg => by
    rw [List.mem_singleton] at hg; subst hg; decide) (by decide) (by decide)
  rw [on_add, on_addL] at had
  simp only [flV, oneF] at had
  go_wp2_with fail
  refine had.mono ?_
  rintro e w4 ⟨v4, ev4, rfl, hv4, ht4, hb4⟩
  clear had hx hb3
  obtain rfl : ev4 = .nilIface := ht4
  have hB4 : Below w.heap.size w w4 := hB3.trans (hb4.mono hB3.size)
  have htx := K.text w4 v4 [oneF 49, oneF 50] (K.below _ _ h hB4) hv4 (by decide) (fun g hg => by
    simp only [List.mem_cons, List.not_mem_nil, or_false] at hg
    rcases hg with rfl | rfl <;> decide)
  rw [on_two, if_pos rfl, on_text] at htx
  clear hv4 hb4
  go_wp2_with fail
  refine htx.mono ?_
  rintro e w5 ⟨ev5, rfl, ht5, hb5⟩
  clear htx
  obtain rfl : ev5 = .nilIface := ht5.ok on_two
  have hB5 : Below w.heap.size w w5 := hB4.trans (hb5.mono hB4.size)
  have eb : bytesOf [100, 97, 116, 97, 47, 49, 32, 97, 32, 49, 32, 48, 32, 48, 32, 49, 10, 100, 97, 116, 97, 47, 50, 32, 97, 32, 49, 32, 48, 32, 48, 32, 49, 10] = ⟨#[100, 97, 116, 97, 47, 49, 32, 97, 32, 49, 32, 48, 32, 48, 32, 49, 10, 100, 97, 116, 97, 47, 50, 32, 97, 32, 49, 32, 48, 32, 48, 32, 49, 10]⟩ := rfl
  rw [eb]
  clear eb ht5 hb5
  go_wp2
  go_ret
  exact ⟨rfl, hB5⟩
end Go.Proofs.YtgffkkijfmoooacDoor
