/-
  The contracts of the document's own Byte, Decimal and RowText.
-/
import Derived.Test.YtniipgaacdpncaaGreatDoorRefRow
namespace Go.Proofs.YtniipgaacdpncaaGreatDoor
open Go.RowKit Go.Extern.Stop Go.Stop Go.Extern Go.Sort Go.Shelf Go.Lib

/-- Draws, and new blocks. -/
def Grew (w w' : World) : Prop := ∃ q os, w' = grow (w.drewN q) os

theorem Grew.refl (w : World) : Grew w w := ⟨0, #[], by rw [grow_empty]; rfl⟩
theorem Grew.alloc (w : World) (o : Obj) : Grew w (w.alloc o) := ⟨0, #[o], by rw [alloc_eq_grow]; rfl⟩
theorem Grew.trans {a b c : World} (h : Grew a b) (k : Grew b c) : Grew a c := by
  obtain ⟨q, os, rfl⟩ := h
  obtain ⟨q', os', rfl⟩ := k
  refine ⟨q + q', os ++ os', ?_⟩
  show grow (grow ((a.drewN q).drewN q') os) os' = _
  rw [grow_grow, World.drewN_drewN]
theorem Grew.below {w w' : World} (h : Grew w w') : Below w.heap.size w w' := by
  obtain ⟨q, os, rfl⟩ := h
  exact grow_below q os

set_option maxRecDepth 100000 in
set_option maxHeartbeats 1000000 in
theorem byte_any (n : Int) (w : World) (h0 : 0 ≤ n) (h1 : n ≤ 255) :
    Calls Tryz.prog 56 #[.int .i64 n] w fun e w' => e = .returned (.string ⟨#[UInt8.ofNat n.toNat]⟩) ∧ Grew w w' := by
  have hcv : ∀ dst, Tryz.prog.underlying dst = some .string → (convert 48 dst (.slice (some ⟨w.heap.size, 0, none⟩) 1 1)).run Tryz.prog (w.alloc (.cells #[.int .u8 n] 5)) = .ok (.string (strOfNums [n])) (w.alloc (.cells #[.int .u8 n] 5)) :=
    run_convert_bytes_arg (P := Tryz.prog) (w.alloc (.cells #[.int .u8 n] 5)) 48 5 Tryz.underlying48 Tryz.underlying5 w.heap.size 0 1 1 [n] rfl (fun i hi => by
      obtain rfl : i = 0 := by omega
      simp)
  have hcv9 := hcv 9 Tryz.underlying9
  have hst : strOfNums [n] = ⟨#[UInt8.ofNat n.toNat]⟩ := rfl
  rw [hst] at hcv9
  clear hcv hst
  go_enter Tryz.func56, Tryz.ntmps56
  go_wp2
  go_ret
  exact ⟨rfl, Grew.alloc _ _⟩

theorem digits_small {u : Nat} (h : u < 10) : decDigits u = [UInt8.ofNat (48 + u)] := by rw [decDigits, dif_pos h]
theorem digits_great {u : Nat} (h : ¬ u < 10) : decDigits u = decDigits (u / 10) ++ [UInt8.ofNat (48 + u % 10)] := by rw [decDigits, dif_neg h]

theorem bytesOf_append (a b : List UInt8) : bytesOf a ++ bytesOf b = bytesOf (a ++ b) := by
  apply part_ext
  simp [bytesOf, ByteArray.data_append]

theorem bytesOf_size (l : List UInt8) : (bytesOf l).size = l.length := by simp [bytesOf, ByteArray.size]

theorem tdiv_ten (n : Int) (h : n ≤ 0) : n.tdiv 10 = -((n.natAbs / 10 : Nat) : Int) := by
  obtain ⟨m, rfl⟩ : ∃ m : Nat, n = -(m : Int) := ⟨n.natAbs, by omega⟩
  rw [Int.neg_tdiv, Int.natAbs_neg, Int.natAbs_natCast]
  rfl
theorem tmod_ten (n : Int) (h : n ≤ 0) : n.tmod 10 = -((n.natAbs % 10 : Nat) : Int) := by
  obtain ⟨m, rfl⟩ : ∃ m : Nat, n = -(m : Int) := ⟨n.natAbs, by omega⟩
  rw [Int.neg_tmod, Int.natAbs_neg, Int.natAbs_natCast]
  rfl

set_option maxRecDepth 100000 in
set_option maxHeartbeats 1000000 in
theorem below_any : ∀ (m : Nat) (n : Int) (w : World), n.natAbs < m → n ≤ 0 → -9223372036854775808 ≤ n →
    Calls Tryz.prog 40 #[.int .i64 n] w fun e w' => e = .returned (.string (bytesOf (decDigits n.natAbs))) ∧ Grew w w' := by
  intro m
  induction m with
  | zero => intro n w h _ _; omega
  | succ m ih =>
    intro n w hm h0 h1
    by_cases hs : -10 < n
    · rw [digits_small (by omega)]
      have hb := byte_any (48 - n) w (by omega) (by omega)
      have e : (48 - n).toNat = 48 + n.natAbs := by omega
      rw [e] at hb
      have hE : bytesOf [UInt8.ofNat (48 + n.natAbs)] = ⟨#[UInt8.ofNat (48 + n.natAbs)]⟩ := rfl
      rw [hE]
      clear ih e hE
      generalize (⟨#[UInt8.ofNat (48 + n.natAbs)]⟩ : ByteArray) = E at hb ⊢
      go_enter Tryz.func40, Tryz.ntmps40
      go_wp2_with (go_at_call 56; refine hb.mono ?_; rintro e w1 ⟨rfl, hg⟩)
      go_ret
      exact ⟨rfl, hg⟩
    · have hq := tdiv_ten n h0
      have hr := tmod_ten n h0
      have hrec := ih (-((n.natAbs / 10 : Nat) : Int)) w (by omega) (by omega) (by omega)
      have hab : (-((n.natAbs / 10 : Nat) : Int)).natAbs = n.natAbs / 10 := by omega
      rw [hab] at hrec
      have hby := fun W => byte_any (48 - -((n.natAbs % 10 : Nat) : Int)) W (by omega) (by omega)
      have e : (48 - -((n.natAbs % 10 : Nat) : Int)).toNat = 48 + n.natAbs % 10 := by omega
      rw [e] at hby
      rw [digits_great (by omega), ← bytesOf_append]
      have hlen : (bytesOf (decDigits (n.natAbs / 10))).size ≤ 20 := by
        rw [bytesOf_size]
        exact digits_len 19 _ (by omega)
      have hbq : -9223372036854775808 ≤ -((n.natAbs / 10 : Nat) : Int) := by omega
      have hbq' : -((n.natAbs / 10 : Nat) : Int) ≤ 0 := by omega
      have hbr : -9 ≤ -((n.natAbs % 10 : Nat) : Int) := by omega
      have hbr' : -((n.natAbs % 10 : Nat) : Int) ≤ 0 := by omega
      rw [← hq] at hrec hbq hbq'
      rw [← hr] at hby hbr hbr'
      clear hab e hq hr ih
      have hD1 : bytesOf [UInt8.ofNat (48 + n.natAbs % 10)] = ⟨#[UInt8.ofNat (48 + n.natAbs % 10)]⟩ := rfl
      rw [hD1]
      clear hD1
      have hsE : (⟨#[UInt8.ofNat (48 + n.natAbs % 10)]⟩ : ByteArray).size = 1 := rfl
      generalize hE : (⟨#[UInt8.ofNat (48 + n.natAbs % 10)]⟩ : ByteArray) = E at hby hsE ⊢
      generalize hD : bytesOf (decDigits (n.natAbs / 10)) = D at hrec hlen ⊢
      clear hE hD
      have nn : ¬ 9223372036854775807 < D.size + E.size := by omega
      have hwq : IntKind.i64.wrap (n.tdiv 10) = n.tdiv 10 := IntWalk.i64_in _ (by omega)
      have hwr : IntKind.i64.wrap (n.tmod 10) = n.tmod 10 := IntWalk.i64_in _ (by omega)
      have hws : IntKind.i64.wrap (48 - n.tmod 10) = 48 - n.tmod 10 := IntWalk.i64_in _ (by omega)
      generalize hq : n.tdiv 10 = q at *
      generalize hr : n.tmod 10 = r at *
      go_enter Tryz.func40, Tryz.ntmps40
      go_wp2_with (go_at_call 40; refine hrec.mono ?_; rintro e w1 ⟨rfl, hg⟩)
      refine (hby w1).mono ?_
      rintro e w2 ⟨rfl, hg2⟩
      go_wp2
      go_ret
      exact ⟨rfl, hg.trans hg2⟩
end Go.Proofs.YtniipgaacdpncaaGreatDoor
