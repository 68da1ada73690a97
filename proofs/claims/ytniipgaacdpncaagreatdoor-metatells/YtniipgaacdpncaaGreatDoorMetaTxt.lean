/-
  The contract of meta.Text.
-/
import Derived.Test.YtniipgaacdpncaaGreatDoorMetaChk
import Derived.Test.YtniipgaacdpncaaGreatDoorDataMake
namespace Go.Proofs.YtniipgaacdpncaaGreatDoor
open Go.RowKit Go.Extern.Stop Go.Stop Go.Extern Go.Sort Go.Shelf Go.Lib

theorem idI_len {z : Int} (h : idB z = true) : (itoa z).length ≤ 12 := by
  have h1 := idsT_len [z] (fun x hx => by simp at hx; subst hx; exact h)
  simp [idsT] at h1
  omega

set_option maxRecDepth 100000 in
set_option maxHeartbeats 4000000 in
theorem mtext_any (v : Value) (zs : List Int) (w : World) (a : Nat → Addr) (h : EnvM w a) (hz : IdsAt w v zs) (hl : zs.length ≤ 100) :
    Calls Tryz.prog 6 #[v] w fun e w' => ∃ ev, e = .returned (.tuple #[.string (if (idsE zs).1 = 0 then bytesOf (idsL zs) else ⟨#[]⟩), ev]) ∧ ToldE w' a ev (idsE zs) ∧ Below w.heap.size w w' := by
  have hck := mcheck_any v zs w a h hz (by omega)
  by_cases hok : (idsE zs).1 = 0
  case neg =>
    rw [if_neg hok]
    generalize idsE zs = R at hck hok ⊢
    go_enter Tryz.func6, Tryz.ntmps6
    go_wp2_with fail
    refine hck.mono ?_
    rintro e w1 ⟨ev, rfl, ht, hb1⟩
    clear hck
    obtain ⟨t, u, rfl⟩ := ht.bad hok
    have HTT : Hid (ToldE w1 a (.iface t u) R) := ht
    clear ht
    go_wp2
    go_ret2
    exact ⟨_, rfl, HTT.out, hb1⟩
  case pos =>
  rw [if_pos hok]
  have hfine := ids_fine hok
  rw [hfine] at hck ⊢
  obtain ⟨hne, -, hids, -⟩ := ids_good.1 hok
  obtain ⟨q, cap, rfl⟩ := hz.1.shape
  obtain ⟨b, o, rfl, hc⟩ := hz.1.at hne
  have HC : Hid (∀ W, Below w.heap.size w W → ∀ j (h : j < zs.length), W.cell? ⟨b, o + j, none⟩ = some (.int .i64 zs[j])) := fun W hb j hj => below_keep hb (hc j hj)
  have HID : Hid (∀ z ∈ zs, idB z = true) := hids
  have HEN : Hid (∀ W, Below w.heap.size w W → Env0 W a) := fun W hb => (h.below hb).weak
  obtain ⟨L, hL⟩ : ∃ L, zs.length = L := ⟨_, rfl⟩
  have HX : Hid (zs.length = L) := hL
  rw [hL] at hl hck ⊢
  obtain ⟨TT, hTT⟩ : ∃ TT, bytesOf (idsL zs) = TT := ⟨_, rfl⟩
  have HTT : Hid (bytesOf (idsL zs) = TT) := hTT
  rw [hTT]
  clear hTT hL hz hc hids hfine hok hne h
  go_enter Tryz.func6, Tryz.ntmps6
  go_wp2_with fail
  refine hck.mono ?_
  rintro e w1 ⟨ev, rfl, ht, hb1⟩
  clear hck
  obtain rfl : ev = .nilIface := ht
  have hal : Below w1.heap.size w1 (w1.alloc (.cells #[.pointer none, .slice none 0 0] 50)) := (Below.refl _ _).alloc (Nat.le_refl _) _
  have hBl : Below w.heap.size w (w1.alloc (.cells #[.pointer none, .slice none 0 0] 50)) := hb1.trans (hal.mono hb1.size)
  have hbld : Lib.IsBuilder 50 5 w1.heap.size w1.heap.size [] (w1.alloc (.cells #[.pointer none, .slice none 0 0] 50)) :=
    Or.inl ⟨Nat.le_refl _, .slice none 0 0, heap_alloc_new _ _, World.ownsRow_nil _ _ _ _, by simp [Value.ownBlock]⟩
  have hw1 := hb1.size
  have hws := writeString_any w1.heap.size w1.heap.size _ ⟨#[109, 101, 116, 97]⟩ _ hbld (by have : (⟨#[109, 101, 116, 97]⟩ : ByteArray).size = 4 := rfl; simp; omega) hal.size
  have hs1 : w1.heap.size < (w1.alloc (.cells #[.pointer none, .slice none 0 0] 50)).heap.size := by simp
  clear hbld hal
  go_upto_region 5 with fail
  generalize w1.alloc (.cells #[.pointer none, .slice none 0 0] 50) = W2 at hBl hws hs1 ⊢
  generalize w1.heap.size = B at hws hw1 hs1 ⊢
  go_wp2_with fail
  refine hws.mono ?_
  rintro e w3 ⟨rfl, hB3, hb3⟩
  clear hws
  have hBB3 : Below w.heap.size w w3 := hBl.trans (hb3.mono hw1)
  have hs3 : B < w3.heap.size := Nat.lt_of_lt_of_le hs1 hb3.size
  have HB3 : Hid (Lib.IsBuilder 50 5 B B (Lib.byteCells (kMeta ++ idsT (zs.take 0))) w3) := by
    show Lib.IsBuilder _ _ _ _ _ _
    exact Or.inr hB3
  clear hB3 hb3 hBl hs1
  go_wp2
  go_loopw [16] (fun k wr => ∃ n : Nat, n ≤ L ∧ k = .int .i64 n ∧ Below w.heap.size w wr ∧ B < wr.heap.size ∧ Lib.IsBuilder 50 5 B B (Lib.byteCells (kMeta ++ idsT (zs.take n))) wr) (fun k _ => L - (intOf k).toNat)
  case atStart => exact ⟨0, by omega, rfl, hBB3, hs3, HB3.out⟩
  case round =>
    clear HB3 hBB3 hs3
    obtain ⟨n, hn, rfl, hb, hBr, hB⟩ := hrel
    by_cases hlt : n < L
    · have hltx : n < zs.length := by rw [HX.out]; exact hlt
      have c0 := HC.out wr hb n hltx
      have hid := HID.out zs[n] (List.getElem_mem _)
      have hzb := idB_iff.1 hid
      have hil := idI_len hid
      have hln := idsT_len (zs.take n) (fun z hz => HID.out z (List.mem_of_mem_take hz))
      rw [List.length_take] at hln
      have hlen : (Lib.byteCells (kMeta ++ idsT (zs.take n))).length ≤ 30000 := by
        rw [Lib.byteCells_length, List.length_append]
        have : kMeta.length = 4 := rfl
        omega
      have HT : Hid (kMeta ++ idsT (zs.take (n + 1)) = kMeta ++ idsT (zs.take n) ++ [32] ++ itoa zs[n]) := by
        show _ = _
        rw [idsT_take hltx]
        simp
      have hits : (bytesOf (itoa zs[n])).size ≤ 12 := by rw [bytes_len]; exact hil
      have HTB : Hid ((bytesOf (itoa zs[n])).data.toList = itoa zs[n]) := by show _ = _; simp [bytesOf]
      have hit := fun W (hW : Env0 W a) => itoa_below zs[n] W a hW (by omega) (by omega)
      generalize kMeta ++ idsT (zs.take n) = acc at hB HT hlen
      generalize bytesOf (itoa zs[n]) = tb at hit HTB hits
      generalize itoa zs[n] = tl at HTB HT hil
      generalize zs[n] = z at c0 hit
      have hiL : (n : Int) < (L : Int) := by omega
      have hi0' : (0 : Int) ≤ (n : Int) := by omega
      have hws := writeString_any B B _ ⟨#[32]⟩ wr hB (by have : (⟨#[32]⟩ : ByteArray).size = 1 := rfl; omega) (Nat.le_of_lt hBr)
      clear hB hltx hid hzb hln
      go_wp2_with fail
      refine hws.mono ?_
      rintro e w5 ⟨rfl, hB5, hb5⟩
      clear hws c0
      have hBB5 : Below w.heap.size w w5 := hb.trans (hb5.mono hw1)
      have hs5 : B < w5.heap.size := Nat.lt_of_lt_of_le hBr hb5.size
      have hit5 := hit w5 (HEN.out w5 hBB5)
      clear hit
      go_wp2_with fail
      refine hit5.mono ?_
      rintro e w6 ⟨rfl, hb6⟩
      clear hit5
      have hBB6 : Below w.heap.size w w6 := hBB5.trans (hb6.mono hBB5.size)
      have hs6 : B < w6.heap.size := Nat.lt_of_lt_of_le hs5 hb6.size
      have hws := writeString_any B B _ tb w6 (isBuilder_below (Or.inr hB5) hb6) (by rw [List.length_append, Lib.strCells_length]; have : (⟨#[32]⟩ : ByteArray).size = 1 := rfl; omega) (Nat.le_of_lt hs6)
      clear hB5 hb5 hBB5 hb6 hs5
      go_wp2_with fail
      refine hws.mono ?_
      rintro e w7 ⟨rfl, hB7, hb7⟩
      clear hws
      have hBB7 : Below w.heap.size w w7 := hBB6.trans (hb7.mono hw1)
      have hs7 : B < w7.heap.size := Nat.lt_of_lt_of_le hs6 hb7.size
      have HB7 : Hid (Lib.IsBuilder 50 5 B B (Lib.byteCells (kMeta ++ idsT (zs.take (n + 1)))) w7) := by
        show Lib.IsBuilder _ _ _ _ _ _
        rw [HT.out, Lib.byteCells_append, Lib.byteCells_append, ← HTB.out]
        exact Or.inr hB7
      clear hB7
      go_wp2
      go_roundw
      case rel => exact ⟨n + 1, by omega, by go_num, hBB7, hs7, HB7.out⟩
      case measure => simp [intOf]; omega
    · obtain rfl : n = L := by omega
      have hta : zs.take n = zs := List.take_of_length_le (by rw [HX.out]; exact Nat.le_refl _)
      rw [hta] at hB
      have hln := idsT_len zs HID.out
      rw [HX.out] at hln
      have hws := writeString_any B B _ ⟨#[10]⟩ wr hB (by
        have : (⟨#[10]⟩ : ByteArray).size = 1 := rfl
        rw [Lib.byteCells_length, List.length_append]
        have : kMeta.length = 4 := rfl
        omega) (Nat.le_of_lt hBr)
      clear hta hB hln
      go_wp2_with fail
      refine hws.mono ?_
      rintro e w5 ⟨rfl, hB5, hb5⟩
      clear hws
      have hBB5 : Below w.heap.size w w5 := hb.trans (hb5.mono hw1)
      have hs5 : B < w5.heap.size := Nat.lt_of_lt_of_le hBr hb5.size
      have hB6 : Lib.IsBuilder 50 5 B B (Lib.byteCells (idsL zs)) w5 := by
        unfold idsL
        rw [Lib.byteCells_append]
        exact Or.inr hB5
      have hst := Tryz.Builder_String_any B B (idsL zs) w5 hB6 (Nat.le_of_lt hs5)
      have eS : (⟨(idsL zs).toArray⟩ : ByteArray) = bytesOf (idsL zs) := rfl
      rw [eS, HTT.out] at hst
      clear hB5 hB6 eS
      go_wp2_with fail
      refine hst.mono ?_
      rintro e w2 ⟨rfl, hb2⟩
      clear hst
      go_wp2
      go_ret2
      exact ⟨_, rfl, rfl, hBB5.trans (hb2.mono hw1)⟩
end Go.Proofs.YtniipgaacdpncaaGreatDoor
