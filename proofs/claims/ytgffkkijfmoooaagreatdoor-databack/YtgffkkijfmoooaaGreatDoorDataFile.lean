/-
  The contract of data.Read: what a text is.
-/
import Derived.Test.YtgffkkijfmoooaaGreatDoorDataRows
namespace Go.Proofs.YtgffkkijfmoooaaGreatDoor
open Go.RowKit Go.Extern.Stop Go.Stop Go.Extern Go.Sort Go.Shelf Go.Lib

/-- What Read hands back. -/
def DataPost (w : World) (a : Nat → Addr) (D : List Rw × Nat × Option Nat) (e : Ending) (w' : World) : Prop :=
  Below w.heap.size w w' ∧ ((D.2.1 = 0 ∧ ∃ v, e = .returned (.tuple #[v, .nilIface]) ∧ RowsAt w' v D.1) ∨
    (D.2.1 ≠ 0 ∧ D.1 = [] ∧ D.2.2 = none ∧ e = .returned (.tuple #[.slice none 0 0, errV a D.2.1])) ∨
    (D.2.1 ≠ 0 ∧ D.1 = [] ∧ ∃ at_, D.2.2 = some at_ ∧ ∃ fb, e = .returned (.tuple #[.slice none 0 0, .iface 93 (.pointer (some ⟨fb, 0, none⟩))]) ∧ w'.cell? ⟨fb, 0, none⟩ = some (.int .i64 at_) ∧ w'.cell? ⟨fb, 1, none⟩ = some (errV a D.2.1)))

set_option maxRecDepth 100000 in
set_option maxHeartbeats 8000000 in
theorem data_any (s : ByteArray) (w : World) (a : Nat → Addr) (h : EnvD w a) (hs : s.size ≤ maxLen) :
    Calls Tryz.prog 40 #[.string s] w fun e w' => DataPost w a (dataO s.data.toList) e w' := by
  have hal : Below w.heap.size w (w.alloc (.cells #[.slice none 0 0] 22)) := (Below.refl _ _).alloc (Nat.le_refl _) _
  have hbox : BoxR (w.alloc (.cells #[.slice none 0 0] 22)) w.heap.size w.heap.size (.slice none 0 0) [] := ⟨heap_alloc_new _ _, World.ownsRow_nil _ _ _ _, by simp [Value.ownBlock], Nat.le_refl _⟩
  have hsz : (w.alloc (.cells #[.slice none 0 0] 22)).heap.size = w.heap.size + 1 := by simp
  have hrl := readLines_any dataK ⟨#[100, 97, 116, 97]⟩ s rfl (w.alloc (.cells #[.slice none 0 0] 22)) a (fun W => EnvD W a) 71 w.heap.size w.heap.size (fun Q => InvR w.heap.size w.heap.size (w.heap.size + 1) Q) (by omega) (fun W' hW => h.below (hal.trans hW))
    (fun Q => by rw [hsz]; exact taker_rows a w.heap.size w.heap.size (w.heap.size + 1) Q (Nat.le_succ _))
    (fun Q W' hW hQ => ⟨⟨_, hbox.below hW, fun j _ _ => by simp [Value.ownBlock]⟩, Nat.lt_succ_self _, hQ⟩) hs
  have e0 : dataO s.data.toList = readG dataK s.data.toList := rfl
  rw [e0]
  generalize readG dataK s.data.toList = D at hrl ⊢
  clear hbox hsz e0
  go_enter Tryz.func40, Tryz.ntmps40
  go_wp2_with fail
  generalize w.alloc (.cells #[.slice none 0 0] 22) = WA at hrl hal ⊢
  refine hrl.mono ?_
  rintro e w1 ⟨hb1, hres⟩
  clear hrl
  have hB1 : Below w.heap.size w w1 := hal.trans hb1
  rcases hres with ⟨h0, rfl, Q, hinv⟩ | ⟨h0, h1, h2, rfl⟩ | ⟨h0, h1, at_, h2, fb, rfl, c0, c1⟩
  · obtain ⟨⟨v, hbx, _⟩, _, _⟩ := hinv
    have hc := cell_of_one hbx.box
    have hro := (rowsAt_of_own hbx.own).1
    obtain ⟨q, cp, rfl⟩ := own_shape hbx.own
    have HRO : Hid (RowsAt w1 (.slice q D.1.length cp) D.1) := hro
    clear hbx hro
    obtain ⟨LL, hLL⟩ : ∃ LL, D.1.length = LL := ⟨_, rfl⟩
    have HLL : Hid (D.1.length = LL) := hLL
    rw [hLL] at hc HRO
    clear hLL
    go_wp2
    go_ret2
    exact ⟨hB1, Or.inl ⟨h0, _, rfl, HRO.out⟩⟩
  · obtain ⟨E, hE⟩ : ∃ E, D.2.1 = E + 1 := ⟨D.2.1 - 1, by omega⟩
    have HE : Hid (D.2.1 = E + 1) := hE
    rw [hE]
    simp only [errV]
    clear hE
    go_wp2
    go_ret2
    exact ⟨hB1, Or.inr (Or.inl ⟨h0, h1, h2, by rw [HE.out]; rfl⟩)⟩
  · have C0 : Hid (w1.cell? ⟨fb, 0, none⟩ = some (.int .i64 at_)) := c0
    have C1 : Hid (w1.cell? ⟨fb, 1, none⟩ = some (errV a D.2.1)) := c1
    clear c0 c1
    go_wp2
    go_ret2
    exact ⟨hB1, Or.inr (Or.inr ⟨h0, h1, at_, h2, fb, rfl, C0.out, C1.out⟩)⟩
end Go.Proofs.YtgffkkijfmoooaaGreatDoor
