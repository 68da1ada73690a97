/-
  A text's bytes, one of them another, and a text again.
-/
import Derived.Test.YtpiagofhgalklacGreatDoorDataRows
import Derived.Laws.IdiomStrings
namespace Go.Proofs.YtpiagofhgalklacGreatDoor
open Go.RowKit Go.Extern.Stop Go.Stop Go.Extern Go.Sort Go.Shelf Go.Lib

/-- A text's bytes, one of them another, and a text again. -/
theorem set_byte (s : ByteArray) (n : Nat) (hn : n < s.size) (c : UInt8) (w : World) : ∃ (C : Nat) (W1 : World) (v0 : Value),
    (convert 9 59 (.string s)).run Tryz.prog w = .ok (.slice (some ⟨w.heap.size, 0, none⟩) s.size C) W1 ∧ W1.cell? ⟨w.heap.size, n, none⟩ = some v0 ∧ W1.frozen? ⟨w.heap.size, n, none⟩ = false ∧
    (convert 59 9 (.slice (some ⟨w.heap.size, 0, none⟩) s.size C)).run Tryz.prog (W1.setCell ⟨w.heap.size, n, none⟩ (.int .u8 c.toNat)) = .ok (.string (bytesOf (s.data.toList.set n c))) (W1.setCell ⟨w.heap.size, n, none⟩ (.int .u8 c.toNat)) ∧
    Below w.heap.size w (W1.setCell ⟨w.heap.size, n, none⟩ (.int .u8 c.toNat)) := by
  have hconv := run_bytes_of_string (P := Tryz.prog) w 9 59 5 s Tryz.underlying9 Tryz.underlying59 Tryz.underlying5
  have hnd : n < s.data.size := hn
  generalize grownCap w s.size 0 5 = C at hconv
  have hsz : n < (bytesRow s C).size := by simp [bytesRow]; omega
  have hcell : ∀ j (hj : j < s.data.size), (w.drew.alloc (.cells (bytesRow s C) 5 ((bytesRow s C).size, (bytesRow s C).size + 1))).cell? ⟨w.heap.size, j, none⟩ = some (.int .u8 (s.data[j].toNat : Int)) := fun j hj => by
    have := World.cell?_alloc_mark w.drew (bytesRow s C) 5 ((bytesRow s C).size, (bytesRow s C).size + 1) j
    rw [bytesRow_at s C j hj] at this
    exact this
  have hz : (w.drew.alloc (.cells (bytesRow s C) 5 ((bytesRow s C).size, (bytesRow s C).size + 1))).frozen? ⟨w.heap.size, n, none⟩ = false := by
    have := World.frozen?_alloc_mark w.drew (bytesRow s C) 5 (bytesRow s C).size ((bytesRow s C).size + 1) n
    refine Eq.trans this ?_
    simp
    omega
  have hlow : Below w.heap.size w (w.drew.alloc (.cells (bytesRow s C) 5 ((bytesRow s C).size, (bytesRow s C).size + 1))) := (Below.refl w.heap.size w).drew.alloc (Nat.le_refl _) _
  generalize w.drew.alloc (.cells (bytesRow s C) 5 ((bytesRow s C).size, (bytesRow s C).size + 1)) = W1 at hconv hcell hz hlow
  refine ⟨C, W1, _, hconv, hcell n hnd, hz, ?_, hlow.setCell (Nat.le_refl _) _⟩
  have hlen : (s.data.toList.set n c).length = s.size := by rw [List.length_set, size_list]
  have := run_convert_bytes_back (P := Tryz.prog) (W1.setCell ⟨w.heap.size, n, none⟩ (.int .u8 c.toNat)) 59 9 5 ⟨w.heap.size, 0, none⟩ C (s.data.toList.set n c) Tryz.underlying59 Tryz.underlying5 Tryz.underlying9 (fun j hj => by
    rw [hlen] at hj
    have hjd : j < s.data.size := hj
    rw [add_plain]
    by_cases e : j = n
    · subst e
      have := World.cell?_setCell_same W1 ⟨w.heap.size, j, none⟩ (.int .u8 (c.toNat : Int)) (hcell j hjd)
      simpa using this
    · rw [World.cell?_setCell_other _ _ _ _ (by simp)]
      have := hcell j hjd
      simp only [Nat.zero_add]
      rw [this, List.getElem_set_ne (by omega)]
      simp)
  rw [hlen] at this
  exact this
end Go.Proofs.YtpiagofhgalklacGreatDoor
