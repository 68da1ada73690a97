/-
  The walk of DataBack: whatever rows, place and byte: true; what was there is as it was.
-/
import Derived.Test.YtgffkkijfmoooabGreatDoorDataFile
import Derived.Laws.IdiomStrings
namespace Go.Proofs.YtgffkkijfmoooabGreatDoor
open Go.RowKit Go.Extern.Stop Go.Stop Go.Extern Go.Sort Go.Shelf Go.Lib

/-- The row that dated writes. -/
def dRow : Rw := (⟨#[97]⟩, 1, 2)
theorem dRow_ok : rowE dRow = 0 := by decide
theorem sort_one (x : Rw) : sortR [x] = [x] := List.perm_singleton.1 (sortR_perm [x])
theorem sum_nine : sumL [49, 50, 51, 52, 53, 54, 55, 56, 57] = 3421780262 := by decide +kernel
theorem bytes_list (l : List UInt8) : (bytesOf l).data.toList = l := by simp [bytesOf]

theorem slice_form {W : World} {base : Nat} {e : TypeId} {size : Nat} {v : Value} {n : Nat} {xs : List Value} (h : W.ownsRow base e size v n xs) : ∃ q c, v = .slice q n c := by
  rcases h.2 with ⟨rfl, rfl⟩ | ⟨g, cap, cur, rfl, _⟩
  · exact ⟨_, _, rfl⟩
  · exact ⟨_, _, rfl⟩

theorem firstBad (xs : List Rw) : ∃ m, m ≤ xs.length ∧ (∀ i (h : i < xs.length), i < m → rowE xs[i] = 0) ∧ ∀ (h : m < xs.length), rowE xs[m] ≠ 0 := by
  induction xs with
  | nil => exact ⟨0, Nat.le_refl _, fun i h => absurd h (by simp), fun h => absurd h (by simp)⟩
  | cons x xs ih =>
    by_cases h0 : rowE x = 0
    · obtain ⟨m, hm, hg, he⟩ := ih
      refine ⟨m + 1, by simp; exact hm, fun i h hi => ?_, fun h => ?_⟩
      · cases i with
        | zero => exact h0
        | succ i => exact hg i (by simpa using h) (by omega)
      · exact he (by simpa using h)
    · exact ⟨0, Nat.zero_le _, fun i _ hi => absurd hi (by omega), fun _ => h0⟩

/-- A text's bytes, one of them another, and a text again. -/
theorem set_byte (s : ByteArray) (n : Nat) (hn : n < s.size) (c : UInt8) (w : World) : ∃ (C : Nat) (W1 : World) (v0 : Value),
    (convert 9 51 (.string s)).run Tryz.prog w = .ok (.slice (some ⟨w.heap.size, 0, none⟩) s.size C) W1 ∧ W1.cell? ⟨w.heap.size, n, none⟩ = some v0 ∧ W1.frozen? ⟨w.heap.size, n, none⟩ = false ∧
    (convert 51 9 (.slice (some ⟨w.heap.size, 0, none⟩) s.size C)).run Tryz.prog (W1.setCell ⟨w.heap.size, n, none⟩ (.int .u8 c.toNat)) = .ok (.string (bytesOf (s.data.toList.set n c))) (W1.setCell ⟨w.heap.size, n, none⟩ (.int .u8 c.toNat)) ∧
    Below w.heap.size w (W1.setCell ⟨w.heap.size, n, none⟩ (.int .u8 c.toNat)) := by
  have hconv := run_bytes_of_string (P := Tryz.prog) w 9 51 5 s Tryz.underlying9 Tryz.underlying51 Tryz.underlying5
  have hnd : n < s.data.size := hn
  generalize grownCap w s.size 0 5 = C at hconv
  have hsz : n < (bytesRow s C).size := by simp [bytesRow]; omega
  have hcell : ∀ j (hj : j < s.data.size), (w.drew.alloc (.cells (bytesRow s C) 5 ((bytesRow s C).size, (bytesRow s C).size + 1))).cell? ⟨w.heap.size, j, none⟩ = some (.int .u8 (s.data[j].toNat : Int)) := fun j hj => by
    have := World.cell?_alloc_mark w.drew (bytesRow s C) 5 ((bytesRow s C).size, (bytesRow s C).size + 1) j
    rw [bytesRow_at s C j hj] at this
    exact this
  have hz : (w.drew.alloc (.cells (bytesRow s C) 5 ((bytesRow s C).size, (bytesRow s C).size + 1))).frozen? ⟨w.heap.size, n, none⟩ = false := by
    have := World.frozen?_alloc_mark w.drew (bytesRow s C) 5 (bytesRow s C).size ((bytesRow s C).size + 1) n
    refine Eq.trans this ?_
    simp
    omega
  have hlow : Below w.heap.size w (w.drew.alloc (.cells (bytesRow s C) 5 ((bytesRow s C).size, (bytesRow s C).size + 1))) := (Below.refl w.heap.size w).drew.alloc (Nat.le_refl _) _
  generalize w.drew.alloc (.cells (bytesRow s C) 5 ((bytesRow s C).size, (bytesRow s C).size + 1)) = W1 at hconv hcell hz hlow
  refine ⟨C, W1, _, hconv, hcell n hnd, hz, ?_, hlow.setCell (Nat.le_refl _) _⟩
  have hlen : (s.data.toList.set n c).length = s.size := by rw [List.length_set, size_list]
  have := run_convert_bytes_back (P := Tryz.prog) (W1.setCell ⟨w.heap.size, n, none⟩ (.int .u8 c.toNat)) 51 9 5 ⟨w.heap.size, 0, none⟩ C (s.data.toList.set n c) Tryz.underlying51 Tryz.underlying5 Tryz.underlying9 (fun j hj => by
    rw [hlen] at hj
    have hjd : j < s.data.size := hj
    rw [add_plain]
    by_cases e : j = n
    · subst e
      have := World.cell?_setCell_same W1 ⟨w.heap.size, j, none⟩ (.int .u8 (c.toNat : Int)) (hcell j hjd)
      simpa using this
    · rw [World.cell?_setCell_other _ _ _ _ (by simp)]
      have := hcell j hjd
      simp only [Nat.zero_add]
      rw [this, List.getElem_set_ne (by omega)]
      simp)
  rw [hlen] at this
  exact this

set_option maxRecDepth 100000 in
set_option maxHeartbeats 2000000 in
theorem dated_any (w : World) (a : Nat → Addr) (h : EnvD w a) :
    Calls Tryz.prog 9 #[] w fun e w' => e = .returned (.bool true) ∧ Below w.heap.size w w' := by
  have hal : Below w.heap.size w (w.alloc (.cells #[.string ⟨#[97]⟩, .int .i64 1, .int .i64 2] 69)) := (Below.refl _ _).alloc (Nat.le_refl _) _
  have hr : RowsAt (w.alloc (.cells #[.string ⟨#[97]⟩, .int .i64 1, .int .i64 2] 69)) (.slice (some ⟨w.heap.size, 0, none⟩) [dRow].length 1) [dRow] := by
    refine .inr ⟨w.heap.size, 0, 1, rfl, fun i hi => ?_⟩
    obtain rfl : i = 0 := by simpa using hi
    refine ⟨?_, ?_, ?_⟩ <;> simp [dRow]
  have hmk : Calls Tryz.prog 11 #[.slice (some ⟨w.heap.size, 0, none⟩) 1 1] (w.alloc (.cells #[.string ⟨#[97]⟩, .int .i64 1, .int .i64 2] 69)) fun e w' => e = .returned (.tuple #[.string (bytesOf (fileOf [dRow])), .nilIface]) ∧ Below (w.alloc (.cells #[.string ⟨#[97]⟩, .int .i64 1, .int .i64 2] 69)).heap.size (w.alloc (.cells #[.string ⟨#[97]⟩, .int .i64 1, .int .i64 2] 69)) w' := by
    refine (make_any (some ⟨w.heap.size, 0, none⟩) 1 [dRow] _ a (h.below hal) hr (by decide) (by intro x hx; rw [List.mem_singleton.1 hx]; decide) 1 (Nat.le_refl _) (fun i hi _ => by
      obtain rfl : i = 0 := by simpa using hi
      exact dRow_ok) (fun h => absurd h (by simp))).mono ?_
    rintro e w' (⟨_, h1, h2⟩ | ⟨h1, _⟩)
    · rw [sort_one] at h1
      exact ⟨h1, h2⟩
    · exact absurd h1 (by simp)
  have hok : ∀ x ∈ [dRow], rowE x = 0 := fun x hx => by rw [List.mem_singleton.1 hx]; exact dRow_ok
  have hfl := file_len [dRow] hok (by decide)
  have hrd := fun W (hW : EnvD W a) => data_any (bytesOf (fileOf [dRow])) W a hW (by rw [bytes_len]; unfold maxLen; omega)
  have hfr := file_read [dRow] hok (by decide) (List.pairwise_singleton _ _)
  simp only [bytes_list, hfr] at hrd
  have hsu := fun W => sum_any ⟨#[49, 50, 51, 52, 53, 54, 55, 56, 57]⟩ W (by decide)
  simp only [sum_nine] at hsu
  generalize bytesOf (fileOf [dRow]) = S at hmk hrd
  clear hfl hfr hok hr
  go_enter Tryz.func9, Tryz.ntmps9
  go_wp2_with fail
  refine hmk.mono ?_
  rintro e w1 ⟨rfl, hb1⟩
  have hB1 : Below w.heap.size w w1 := hal.trans (hb1.mono hal.size)
  have hr1 := hrd w1 (h.below hB1)
  clear hmk hrd hb1 hal
  go_wp2_with fail
  refine hr1.mono ?_
  rintro e w2 ⟨hb2, hp⟩
  clear hr1
  obtain ⟨v, rfl, hv⟩ : ∃ v, e = .returned (.tuple #[v, .nilIface]) ∧ RowsAt w2 v [dRow] := by
    rcases hp with ⟨_, h1⟩ | ⟨h1, _⟩ | ⟨h1, _⟩
    · exact h1
    · exact absurd rfl h1
    · exact absurd rfl h1
  clear hp
  obtain ⟨p, c, hvf⟩ := hv.form
  have hl1 : [dRow].length = 1 := rfl
  rw [hl1] at hvf
  subst hvf
  clear hv hl1
  have hB2 : Below w.heap.size w w2 := hB1.trans (hb2.mono hB1.size)
  have hs2 := hsu w2
  clear hsu
  go_wp2_with fail
  refine hs2.mono ?_
  rintro e w3 ⟨rfl, hb3⟩
  clear hs2
  go_wp2
  go_ret
  exact ⟨rfl, hB2.trans (hb3.mono hB2.size)⟩

end Go.Proofs.YtgffkkijfmoooabGreatDoor
