/-
  The contracts of the document's own IsLess, DropRows and WithinRows.
-/
import Derived.Test.YtjmdgdohepodmabGreatDoorRefRow
namespace Go.Proofs.YtjmdgdohepodmabGreatDoor
open Go.RowKit Go.Extern.Stop Go.Stop Go.Extern Go.Sort Go.Shelf Go.Lib

theorem cells_three (wr : World) (xp : ByteArray) (xk xv : Int) (j : Nat) (u : Value) (hj : (encR (xp, xk, xv))[j]? = some u) : (wr.alloc (.cells #[.string xp, .int .i64 xk, .int .i64 xv] 59)).cell? ⟨wr.heap.size, j, none⟩ = some u := by
  match j, hj with
  | 0, hj => simp [encR] at hj; subst hj; simp
  | 1, hj => simp [encR] at hj; subst hj; simp
  | 2, hj => simp [encR] at hj; subst hj; simp
  | j + 3, hj => simp [encR] at hj

theorem bytesLess_cb : ∀ a b : List UInt8, Op.bytesLess a b = decide (Lib.compareBytes a b < 0)
  | [], [] => by simp [Op.bytesLess, Lib.compareBytes]
  | [], _ :: _ => by simp [Op.bytesLess, Lib.compareBytes]
  | _ :: _, [] => by simp [Op.bytesLess, Lib.compareBytes]
  | a :: us, b :: vs => by
    have ih := bytesLess_cb us vs
    unfold Op.bytesLess Lib.compareBytes
    by_cases h1 : a < b
    · simp [h1]
    · by_cases h2 : b < a
      · have h3 : ¬ a = b := fun e => by subst e; exact UInt8.lt_irrefl _ h2
        simp [h1, h2, h3]
      · have h3 : a = b := by
          rw [UInt8.lt_iff_toNat_lt] at h1 h2
          exact UInt8.toNat_inj.1 (by omega)
        subst h3
        simp [ih]

set_option maxHeartbeats 1000000 in
theorem isLess_any (x y : Rw) (w : World) :
    Calls Tryz.prog 46 #[.agg #[.string x.1, .int .i64 x.2.1, .int .i64 x.2.2], .agg #[.string y.1, .int .i64 y.2.1, .int .i64 y.2.2]] w fun e w' => e = .returned (.bool (ltOf cfR x y)) ∧ Below w.heap.size w w' := by
  obtain ⟨xp, xk, xv⟩ := x
  obtain ⟨yp, yk, yv⟩ := y
  dsimp only
  have hb0 : Below w.heap.size w ((w.alloc (.cells #[.string xp, .int .i64 xk, .int .i64 xv] 59)).alloc (.cells #[.string yp, .int .i64 yk, .int .i64 yv] 59)) := ((Below.refl _ _).alloc (Nat.le_refl _) _).alloc (by simp) _
  by_cases hp : xp = yp
  · subst hp
    have hc0 : Lib.compareBytes xp.data.toList xp.data.toList = 0 := cb_self _
    by_cases hk : xk = yk
    · subst hk
      have hr : ltOf cfR (xp, xk, xv) (xp, xk, yv) = decide (xv < yv) := by
        have hci : Lib.compareInt xk xk = 0 := by rcases ci_cases xk xk with ⟨h, _⟩ | ⟨_, h⟩ | ⟨h, _⟩ <;> omega
        unfold ltOf cfR orOf
        dsimp only
        rw [if_pos hc0, if_pos hci]
        rcases ci_cases xv yv with ⟨h, e⟩ | ⟨h, e⟩ | ⟨h, e⟩ <;> rw [e] <;> simp <;> omega
      rw [hr]
      clear hr hc0
      go_enter Tryz.func46, Tryz.ntmps46
      go_wp2
      go_ret
      exact ⟨rfl, hb0⟩
    · have hr : ltOf cfR (xp, xk, xv) (xp, yk, yv) = decide (xk < yk) := by
        unfold ltOf cfR orOf
        dsimp only
        rw [if_pos hc0]
        rcases ci_cases xk yk with ⟨h, e⟩ | ⟨h, e⟩ | ⟨h, e⟩
        · rw [e]; simp; omega
        · exact absurd h hk
        · rw [e]; simp; omega
      rw [hr]
      have hk' : (xk == yk) = false := by simpa using hk
      clear hr hc0 hk
      go_enter Tryz.func46, Tryz.ntmps46
      go_wp2
      go_ret
      exact ⟨rfl, hb0⟩
  · have hne : ¬ Lib.compareBytes xp.data.toList yp.data.toList = 0 := fun e => hp (part_ext (cb_eq _ _ e))
    have hr : ltOf cfR (xp, xk, xv) (yp, yk, yv) = decide (Lib.compareBytes xp.data.toList yp.data.toList < 0) := by
      unfold ltOf cfR orOf
      dsimp only
      rw [if_neg hne]
    rw [hr]
    have hp' : (xp.toList == yp.toList) = false := by
      rw [ByteArray.toList_eq, ByteArray.toList_eq]
      simpa using fun e => hp (part_ext e)
    have hl : Op.bytesLess xp.toList yp.toList = decide (Lib.compareBytes xp.data.toList yp.data.toList < 0) := by
      rw [ByteArray.toList_eq, ByteArray.toList_eq]; exact bytesLess_cb _ _
    have HLS : Hid (Op.bytesLess xp.toList yp.toList = decide (Lib.compareBytes xp.data.toList yp.data.toList < 0)) := hl
    clear hl
    clear hr hne hp
    go_enter Tryz.func46, Tryz.ntmps46
    go_wp2
    go_ret
    exact ⟨congrArg (fun b => Ending.returned (Value.bool b)) HLS.out, hb0⟩

end Go.Proofs.YtjmdgdohepodmabGreatDoor
