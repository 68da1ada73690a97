/-
  The contracts of gone.once, data.WriteLines for keys, and gone.Make.
  The contracts of gone.readKey, of the function that gone.Read hands over, of gone.Read and gone.Has.
-/
import Derived.Test.YtgffkkijfmoooabGreatDoorGonePure
import Derived.Test.YtgffkkijfmoooabGreatDoorDataMake
import Derived.Test.YtgffkkijfmoooabGreatDoorDataRows
import Derived.Test.YtgffkkijfmoooabGreatDoorRefNums
namespace Go.Proofs.YtgffkkijfmoooabGreatDoor
open Go.RowKit Go.Extern.Stop Go.Stop Go.Extern Go.Sort Go.Shelf Go.Lib

set_option maxHeartbeats 1000000 in
theorem once_any (v : Value) (zs : List Int) (w : World) (h : KeysAt w v zs) (hl : zs.length ≤ 1000) :
    Calls Tryz.prog 75 #[v] w fun e w' => ∃ v', e = .returned v' ∧ KeysAt w' v' (riseZ zs) ∧ Below w.heap.size w w' := by
  have hclone := cloneInts_any v zs w h hl
  obtain ⟨q0, c0, rfl⟩ := h.form
  clear h
  go_enter Tryz.func75, Tryz.ntmps75
  go_wp2_with fail
  refine hclone.mono ?_
  rintro e w1 ⟨v1, rfl, ho, hb1⟩
  clear hclone
  by_cases hv : v1 = .slice none 0 0
  · subst hv
    have hx : zs = [] := by
      rcases ho.2 with ⟨_, hn⟩ | ⟨g, cap, cur, e, _⟩
      · exact List.length_eq_zero_iff.1 hn
      · cases e
    subst hx
    have hso := AnyM.slices_Sort_int_none Tryz.sortInt none 0 w1
    change Calls Tryz.prog 124 _ _ _ at hso
    have hco := Tryz.slices_Compact_int_empty none 0 w1
    clear ho
    go_wp2_with fail
    refine hso.mono ?_
    rintro e w2 ⟨rfl, rfl⟩
    clear hso
    go_wp2_with fail
    refine hco.mono ?_
    rintro e w3 ⟨rfl, rfl⟩
    clear hco
    go_wp2
    go_ret
    exact ⟨_, rfl, Or.inl ⟨none, 0, rfl, rise_nil⟩, hb1⟩
  · obtain ⟨g, cap, rfl, hbg, hlt, hn, hm, hlen, hH⟩ := holds_of_ownsRow ho hv
    have hso := AnyM.slices_Sort_int Tryz.sortInt g 0 cap zs w1 hH hlt (by omega)
    change Calls Tryz.prog 124 _ _ _ at hso
    have HH : Hid (Holds (Value.int .i64) w1 g 0 zs.toArray) := hH
    have hcapz : zs.length ≤ cap := hn
    clear ho hv hH hn hm hlen
    go_wp2_with fail
    refine hso.mono ?_
    rintro e w2 ⟨rfl, n, os, hw2⟩
    clear hso
    have hH2 : Holds (Value.int .i64) w2 g 0 (sortZ zs).toArray := by
      rw [hw2]
      exact holds_grow (Value.int .i64) _ os g 0 (sortZ zs).toArray (by simpa [putRow, mapBlock, Sort.ahead] using hlt) (holds_putRow (Value.int .i64) (Sort.ahead w1 n) g 0 zs.toArray (sortZ zs).toArray HH.out (by simp [sortZ_len]))
    have hb2 : Below w.heap.size w w2 := by
      rw [hw2]
      have h1 : Below w.heap.size w (putRow (Value.int .i64) (Sort.ahead w1 n) g 0 (zs.mergeSort fun x y => decide (x ≤ y)).toArray) := below_putRow hb1 hbg
      exact h1.trans ((below_grow os).mono h1.size)
    have hlt2 : g < w2.heap.size := by
      rw [hw2]
      have : w1.heap.size ≤ (grow (putRow (Value.int .i64) (Sort.ahead w1 n) g 0 (zs.mergeSort fun x y => decide (x ≤ y)).toArray) os).heap.size := by simp [grow, putRow, mapBlock, Sort.ahead]
      omega
    have hsl : (sortZ zs).length = zs.length := sortZ_len zs
    have hco := Tryz.slices_Compact_int g 0 cap (sortZ zs) w2 hH2 (by omega) (by omega)
    rw [hsl] at hco
    clear hw2
    go_wp2_with fail
    refine hco.mono ?_
    rintro e w3 ⟨rfl, q, hw3⟩
    clear hco
    have hrl := rise_len zs
    have HK : Hid (KeysAt w3 (.slice (some ⟨g, 0, none⟩) (riseZ zs).length cap) (riseZ zs)) := by
      show KeysAt _ _ _
      refine Or.inr ⟨g, 0, cap, rfl, fun j hj => ?_⟩
      rw [hw3]
      have hd : (Lib.compact (sortZ zs) ++ List.replicate (zs.length - (Lib.compact (sortZ zs)).length) 0).toArray.size = (sortZ zs).toArray.size := by
        have : (Lib.compact (sortZ zs)).length ≤ zs.length := hrl
        simp [hsl]
        omega
      have hH3 := holds_putRow (Value.int .i64) (Sort.ahead w2 q) g 0 (sortZ zs).toArray (Lib.compact (sortZ zs) ++ List.replicate (zs.length - (Lib.compact (sortZ zs)).length) 0).toArray hH2 hd
      have hj' : j < (Lib.compact (sortZ zs)).length := hj
      have := (hH3 j (by simp; omega)).1
      rw [getElem!_pos _ j (by simp; omega)] at this
      simp only [List.getElem_toArray, List.getElem_append_left hj'] at this
      exact this
    have hb3 : Below w.heap.size w w3 := by rw [hw3]; exact below_putRow hb2 hbg
    have hrd : Lib.compact (sortZ zs) = riseZ zs := rfl
    rw [hrd]
    clear hw3 hH2 hrd
    generalize (riseZ zs).length = L1 at HK
    go_wp2
    go_ret
    exact ⟨_, rfl, HK.out, hb3⟩

set_option maxRecDepth 100000 in
set_option maxHeartbeats 1000000 in
theorem gmake1_any (x : Int) (w : World) (a : Nat → Addr) (h : Env0 w a) (hx : inNum x = true) :
    Calls Tryz.prog 78 #[.int .i64 x] w fun e w' => e = .returned (.tuple #[.string (bytesOf (itoa x)), .int .i64 x]) ∧ Below w.heap.size w w' := by
  simp only [inNum, Bool.and_eq_true, decide_eq_true_eq] at hx
  have hit := itoa_below x w a h (by omega) (by omega)
  generalize bytesOf (itoa x) = tb at hit ⊢
  go_enter Tryz.func78, Tryz.ntmps78
  go_wp2_with fail
  refine hit.mono ?_
  rintro e w3 ⟨rfl, hb3⟩
  go_wp2
  go_ret2
  exact ⟨rfl, hb3⟩

set_option maxRecDepth 100000 in
set_option maxHeartbeats 4000000 in
theorem writeKeys_any (kb : ByteArray) (hK : kb.data.toList.length ≤ 4) (v : Value) (xs : List Int) (w : World) (a : Nat → Addr) (h : Env0 w a) (hx : KeysAt w v xs) (hl : xs.length ≤ 1000) (hall : ∀ x ∈ xs, inNum x = true) :
    Calls Tryz.prog 77 #[.string kb, v, .func (.func 78) #[] #[]] w fun e w' => e = .returned (.string (bytesOf (headL kb.data.toList xs.length (endsZ (keysG goneK xs)).1 (endsZ (keysG goneK xs)).2 (sumL (linesG goneK xs)) ++ 10 :: linesG goneK xs))) ∧ Below w.heap.size w w' := by
  have eg : ∀ args w, (callFunc 78 args).run Tryz.prog w = .ok (.enter 78 args) w := enters_of Tryz.func78 (by kernel_rfl) rfl
  obtain ⟨q, cap, rfl⟩ := hx.form
  obtain ⟨L, hL⟩ : ∃ L, xs.length = L := ⟨_, rfl⟩
  have HX : Hid (xs.length = L) := hL
  have harg : (Value.slice q xs.length cap) = .slice q L cap := by rw [hL]
  rw [harg] at hx ⊢
  rw [hL] at hl
  clear hL harg
  have hA := heap_alloc2_old w (.cells #[.int .i64 0, .int .i64 0, .int .i64 0] 154) (.cells #[.pointer none, .slice none 0 0] 143)
  have hB := heap_alloc2_new w (.cells #[.int .i64 0, .int .i64 0, .int .i64 0] 154) (.cells #[.pointer none, .slice none 0 0] 143)
  have hal : Below w.heap.size w ((w.alloc (.cells #[.int .i64 0, .int .i64 0, .int .i64 0] 154)).alloc (.cells #[.pointer none, .slice none 0 0] 143)) := ((Below.refl _ _).alloc (Nat.le_refl _) _).alloc (by simp) _
  have hbld : Lib.IsBuilder 143 5 (w.heap.size + 1) (w.heap.size + 1) (Lib.byteCells (linesG goneK ([] : List Int))) ((w.alloc (.cells #[.int .i64 0, .int .i64 0, .int .i64 0] 154)).alloc (.cells #[.pointer none, .slice none 0 0] 143)) :=
    Or.inl ⟨Nat.le_refl _, .slice none 0 0, hB, World.ownsRow_nil _ _ _ _, by simp [Value.ownBlock]⟩
  go_enter Tryz.func77, Tryz.ntmps77
  go_wp2
  go_loopw [16] (fun k wr => ∃ n : Nat, n ≤ L ∧ k = .int .i64 n ∧ Below w.heap.size w wr ∧ HeadAt wr w.heap.size n (endsZ (keysG goneK (xs.take n))) ∧ Lib.IsBuilder 143 5 (w.heap.size + 1) (w.heap.size + 1) (Lib.byteCells (linesG goneK (xs.take n))) wr) (fun k _ => L - (intOf k).toNat)
  case atStart => exact ⟨0, by omega, rfl, hal, hA, by simpa using hbld⟩
  case round =>
    clear hal hbld hA hB
    obtain ⟨n, hn, rfl, hb, hH, hB⟩ := hrel
    have hbh : w.heap.size ≤ wr.heap.size := hb.size
    have hbh1 : w.heap.size + 1 < wr.heap.size := by
      rcases hB with hB | hB
      · exact hB.lt
      · exact hB.lt
    by_cases hlt : n < L
    · have hltx : n < xs.length := by rw [HX.out]; exact hlt
      have hrows := hx.below hb
      rcases hrows with ⟨_, _, e, e'⟩ | ⟨b, o, cap2, e, hcells⟩
      · exfalso; have := HX.out; rw [e'] at this; simp at this; omega
      injection e with e1 e2 e3
      subst e1
      clear e2 e3
      have c1 := hcells n hltx
      clear hcells
      have hi : (n : Int) < (L : Int) := by omega
      have hmem : xs[n] ∈ xs := List.getElem_mem _
      have hrok := hall _ hmem
      have htk : xs.take (n + 1) = xs.take n ++ [xs[n]] := by rw [List.take_append_getElem hltx]
      have htx := fun W (hW : Env0 W a) => gmake1_any xs[n] W a hW hrok
      have HTB : Hid ((bytesOf (itoa xs[n])).data.toList = itoa xs[n]) := by show _ = _; simp [bytesOf]
      have hts : (bytesOf (itoa xs[n])).size ≤ 32 := by rw [bytes_len]; exact gone_fine.len _ hrok
      have HT : Hid (linesG goneK (xs.take (n + 1)) = linesG goneK (xs.take n) ++ (itoa xs[n] ++ [10])) := by
        show _ = _
        rw [htk]; exact linesG_snoc goneK _ _
      have HKE : Hid (endsZ (keysG goneK (xs.take (n + 1))) = endsP n (endsZ (keysG goneK (xs.take n))) xs[n]) := by
        show _ = _
        have hkl : (xs.take n).length = n := by simp; omega
        have := ends_more (xs.take n) xs[n]
        rw [hkl] at this
        rw [keysG_gone, keysG_gone, ← this, htk]
      have hll := linesG_len gone_fine (xs.take n) (fun x hx2 => hall x (List.mem_of_mem_take hx2))
      have hlen : (Lib.byteCells (linesG goneK (xs.take n))).length ≤ 40000 := by
        rw [Lib.byteCells_length]
        have : (xs.take n).length ≤ n := List.length_take_le _ _
        omega
      clear htk hmem hrok hll
      generalize xs[n] = xk at c1 htx HTB hts HT HKE
      generalize linesG goneK (xs.take n) = acc at hB HT hlen
      generalize endsZ (keysG goneK (xs.take n)) = E at hH HKE
      generalize bytesOf (itoa xk) = tb at htx HTB hts
      have htx2 := htx _ (h.below hb)
      clear htx
      go_wp2_with (go_at_fn 78; refine htx2.mono ?_; rintro e w3 ⟨rfl, hb3⟩)
      clear htx2 c1
      have hb4 : Below w.heap.size w w3 := hb.trans (hb3.mono hb.size)
      have hH3 := hH.below hb3
      have hB3 := isBuilder_below hB hb3
      have hct := count_any w.heap.size n E xk w3 hH3 (by omega)
      clear hB hH
      go_wp2_with fail
      refine hct.mono ?_
      rintro e w4 ⟨rfl, rfl⟩
      clear hct
      have hH4 : HeadAt (headW w3 w.heap.size (n + 1) (endsP n E xk)) w.heap.size (n + 1) (endsP n E xk) := headW_at hH3
      have hB4 := isBuilder_head hB3 w.heap.size (n + 1) (endsP n E xk) (by omega)
      have hb5 : Below w.heap.size w (headW w3 w.heap.size (n + 1) (endsP n E xk)) := headW_below hb4 (Nat.le_refl _)
      have hsz5 : w.heap.size + 1 ≤ (headW w3 w.heap.size (n + 1) (endsP n E xk)).heap.size := by rw [headW_size]; exact lt_of_block hH3
      clear hB3 hH3 hb4
      generalize headW w3 w.heap.size (n + 1) (endsP n E xk) = W4 at hH4 hB4 hb5 hsz5 ⊢
      have hws := writeString_any (w.heap.size + 1) (w.heap.size + 1) _ tb W4 hB4 (by omega) hsz5
      clear hB4
      go_wp2_with fail
      refine hws.mono ?_
      rintro e w5 ⟨rfl, hB5, hb6⟩
      clear hws
      have hb7 : Below w.heap.size w w5 := hb5.trans (hb6.mono (Nat.le_succ _))
      have hH5 : HeadAt w5 w.heap.size (n + 1) (endsP n E xk) := by
        unfold HeadAt at *
        exact (hb6.block _ (Nat.lt_succ_self _)).trans hH4
      have hws := writeString_any (w.heap.size + 1) (w.heap.size + 1) _ ⟨#[10]⟩ w5 (Or.inr hB5) (by rw [List.length_append, Lib.strCells_length]; have : (⟨#[10]⟩ : ByteArray).size = 1 := rfl; omega) (Nat.le_trans hsz5 hb6.size)
      clear hH4
      go_wp2_with fail
      refine hws.mono ?_
      rintro e w7 ⟨rfl, hB7, hb8⟩
      clear hws hB5
      have hb9 : Below w.heap.size w w7 := hb7.trans (hb8.mono (Nat.le_succ _))
      have HH7 : Hid (HeadAt w7 w.heap.size (n + 1) (endsZ (keysG goneK (xs.take (n + 1))))) := by
        show HeadAt _ _ _ _
        rw [HKE.out]
        unfold HeadAt at *
        exact (hb8.block _ (Nat.lt_succ_self _)).trans hH5
      have HB8 : Hid (Lib.IsBuilder 143 5 (w.heap.size + 1) (w.heap.size + 1) (Lib.byteCells (linesG goneK (xs.take (n + 1)))) w7) := by
        show Lib.IsBuilder _ _ _ _ _ _
        rw [HT.out, Lib.byteCells_append, Lib.byteCells_append, ← HTB.out, ← List.append_assoc]
        exact Or.inr hB7
      clear hB7 hH5
      go_wp2
      go_roundw
      case rel => exact ⟨n + 1, by omega, by go_num, hb9, HH7.out, HB8.out⟩
      case measure => simp [intOf]; omega
    · obtain rfl : n = L := by omega
      have hta : xs.take n = xs := List.take_of_length_le (by rw [HX.out]; exact Nat.le_refl _)
      rw [hta] at hB hH
      have hst := Tryz.Builder_String_any (w.heap.size + 1) (w.heap.size + 1) (linesG goneK xs) wr hB (by omega)
      have hfl := linesG_len gone_fine xs hall
      have hends := ends_inG gone_fine hall
      have hsum := fun W => sum_any (bytesOf (linesG goneK xs)) W (by rw [bytes_len]; unfold maxLen; rw [HX.out] at hfl; omega)
      have eL : (bytesOf (linesG goneK xs)).data.toList = linesG goneK xs := by simp [bytesOf]
      rw [eL] at hsum
      have hsl := sumL_lt (linesG goneK xs)
      have hht := fun W (hW : Env0 W a) => headText_any kb hK n (endsZ (keysG goneK xs)).1 (endsZ (keysG goneK xs)).2 (sumL (linesG goneK xs)) W a hW (by omega) hends.1 hends.2 hsl
      have hhl := head_len hK n (endsZ (keysG goneK xs)).1 (endsZ (keysG goneK xs)).2 (sumL (linesG goneK xs)) (by omega) hends.1 hends.2 (by omega)
      obtain ⟨T0, hT0⟩ : ∃ T0, bytesOf (headL kb.data.toList xs.length (endsZ (keysG goneK xs)).1 (endsZ (keysG goneK xs)).2 (sumL (linesG goneK xs)) ++ 10 :: linesG goneK xs) = T0 := ⟨_, rfl⟩
      have HT0 : Hid (bytesOf (headL kb.data.toList xs.length (endsZ (keysG goneK xs)).1 (endsZ (keysG goneK xs)).2 (sumL (linesG goneK xs)) ++ 10 :: linesG goneK xs) = T0) := hT0
      have HF : Hid (T0 = bytesOf (headL kb.data.toList n (endsZ (keysG goneK xs)).1 (endsZ (keysG goneK xs)).2 (sumL (linesG goneK xs))) ++ ⟨#[10]⟩ ++ bytesOf (linesG goneK xs)) := by
        show _ = _
        rw [← hT0, HX.out]
        apply ByteArray.ext
        apply Array.ext'
        simp [bytesOf]
      have hs1 : (bytesOf (headL kb.data.toList n (endsZ (keysG goneK xs)).1 (endsZ (keysG goneK xs)).2 (sumL (linesG goneK xs)))).size ≤ 2000 := by rw [bytes_len]; omega
      have hs2 : (bytesOf (linesG goneK xs)).size ≤ 40000 := by rw [bytes_len]; rw [HX.out] at hfl; omega
      clear eL hfl hends hhl hta hB hall hT0
      generalize sumL (linesG goneK xs) = S at hht hsum HF hs1 hsl
      generalize endsZ (keysG goneK xs) = E at hht HF hs1 hH
      obtain ⟨lo, hi2⟩ := E
      dsimp only at hht HF hs1
      generalize bytesOf (headL kb.data.toList n lo hi2 (S : Int)) = hB at hht HF hs1
      have eS : (⟨(linesG goneK xs).toArray⟩ : ByteArray) = bytesOf (linesG goneK xs) := rfl
      rw [eS] at hst
      generalize bytesOf (linesG goneK xs) = lB at hst hsum HF hs2
      clear eS
      go_wp2_with fail
      refine hst.mono ?_
      rintro e w2 ⟨rfl, hb2⟩
      clear hst
      have hH2 : HeadAt w2 w.heap.size n (lo, hi2) := by
        unfold HeadAt at *
        exact (hb2.block _ (Nat.lt_succ_self _)).trans hH
      obtain ⟨g0, g1, g2, _⟩ := hH2.cells
      dsimp only at g1 g2
      clear hH hH2
      have hB2 : Below w.heap.size w w2 := hb.trans (hb2.mono (Nat.le_succ _))
      have hE2 := h.below hB2
      have hb0 : Below w2.heap.size w2 w2 := Below.refl _ _
      have n1 : ¬ 9223372036854775807 < hB.size + 1 := by omega
      have n2 : ¬ 9223372036854775807 < hB.size + 1 + lB.size := by omega
      go_wp2_with fail
      go_region_held3 (fun w' => w'.cell? ⟨w.heap.size, 0, none⟩ = some (.int .i64 n) ∧ w'.cell? ⟨w.heap.size, 1, none⟩ = some (.int .i64 lo) ∧ w'.cell? ⟨w.heap.size, 2, none⟩ = some (.int .i64 hi2) ∧ Below w2.heap.size w2 w')
        (first
          | (go_split_ands; exact ⟨below_keep hbX (by assumption), below_keep hbX (by assumption), below_keep hbX (by assumption), Below.trans (by assumption) (hbX.mono (Below.size (by assumption)))⟩)
          | (go_split_ands; exact ⟨by go_keep, by go_keep, by go_keep, by assumption⟩)
          | (go_split_ands; exact ⟨by go_keep, by go_keep, by go_keep, Below.drew (by assumption)⟩))
        (first
          | (go_at_call 15; refine (hsum _).mono ?_; rintro e w3 ⟨rfl, hbX⟩)
          | (go_at_call 115; refine (hht _ (hE2.below (by go_split_ands; assumption))).mono ?_; rintro e w4 ⟨rfl, hbX⟩))
      go_split_ands
      have hbE : Below w2.heap.size w2 w4 := by assumption
      go_wp2
      go_ret
      exact ⟨by rw [HT0.out, HF.out]; rfl, hB2.trans (hbE.mono hB2.size)⟩

set_option maxRecDepth 100000 in
set_option maxHeartbeats 4000000 in
theorem gmake_full (v : Value) (zs : List Int) (w : World) (a : Nat → Addr) (h : EnvD0 w a) (hz : KeysAt w v zs) (hl : zs.length ≤ 1000) (hn : 40 < (riseZ zs).length) :
    Calls Tryz.prog 21 #[v] w fun e w' => e = .returned (.tuple #[.string ⟨#[]⟩, errV a 8]) ∧ Below w.heap.size w w' := by
  have hon := once_any v zs w hz hl
  obtain ⟨q0, c0, rfl⟩ := hz.form
  clear hz
  have hi : (40 : Int) < ((riseZ zs).length : Int) := by omega
  simp only [errV]
  go_enter Tryz.func21, Tryz.ntmps21
  go_wp2_with fail
  refine hon.mono ?_
  rintro e w1 ⟨v1, rfl, hk1, hb1⟩
  clear hon
  obtain ⟨q1, c1, rfl⟩ := hk1.form
  have hf := (h.below hb1).full
  clear hk1 hn
  generalize (riseZ zs).length = L1 at hi ⊢
  go_wp2
  go_quiet (fail)
  go_wp2
  go_ret2
  exact ⟨rfl, below_drewN hb1 nq⟩

set_option maxRecDepth 100000 in
set_option maxHeartbeats 4000000 in
theorem gmake_any (v : Value) (zs : List Int) (w : World) (a : Nat → Addr) (h : EnvD0 w a) (hz : KeysAt w v zs) (hl : zs.length ≤ 1000) (hn : (riseZ zs).length ≤ 40)
    (m : Nat) (hm : m ≤ zs.length) (hgood : ∀ i (h : i < zs.length), i < m → inNum zs[i] = true) (hend : ∀ (h : m < zs.length), inNum zs[m] = false) :
    Calls Tryz.prog 21 #[v] w fun e w' => (m = zs.length ∧ e = .returned (.tuple #[.string (bytesOf (goneF (riseZ zs))), .nilIface]) ∧ Below w.heap.size w w') ∨
      (m < zs.length ∧ ∃ fb, e = .returned (.tuple #[.string ⟨#[]⟩, .iface 92 (.pointer (some ⟨fb, 0, none⟩))]) ∧ w'.cell? ⟨fb, 0, none⟩ = some (.int .i64 m) ∧ w'.cell? ⟨fb, 1, none⟩ = some (errV a 2) ∧ Below w.heap.size w w') := by
  have hon := once_any v zs w hz hl
  obtain ⟨q0, c0, rfl⟩ := hz.form
  obtain ⟨L, hL⟩ : ∃ L, zs.length = L := ⟨_, rfl⟩
  have HX : Hid (zs.length = L) := hL
  have HGOOD : Hid (∀ i (h : i < zs.length), i < m → inNum zs[i] = true) := hgood
  have HEND : Hid (∀ (h : m < zs.length), inNum zs[m] = false) := hend
  rw [hL] at hm hl
  have harg : (Value.slice q0 zs.length c0) = .slice q0 L c0 := by rw [hL]
  rw [harg] at hz hon ⊢
  clear hL hgood hend harg
  have hi40 : ¬ (40 : Int) < ((riseZ zs).length : Int) := by omega
  go_enter Tryz.func21, Tryz.ntmps21
  go_wp2_with fail
  refine hon.mono ?_
  rintro e w1 ⟨v1, rfl, hk1, hb1⟩
  clear hon
  obtain ⟨q1, c1, rfl⟩ := hk1.form
  obtain ⟨L1, hL1⟩ : ∃ L1, (riseZ zs).length = L1 := ⟨_, rfl⟩
  have HL1 : Hid ((riseZ zs).length = L1) := hL1
  rw [hL1] at hi40 hn hk1 ⊢
  have HK1 : Hid (KeysAt w1 (.slice q1 L1 c1) (riseZ zs)) := hk1
  clear hL1 hk1
  go_wp2
  go_loopw [15] (fun k wr => ∃ n : Nat, n ≤ m ∧ k = .int .i64 n ∧ Below w1.heap.size w1 wr) (fun k _ => L - (intOf k).toNat)
  case atStart => exact ⟨0, by omega, rfl, Below.refl _ _⟩
  case round =>
    obtain ⟨n, hnm0, rfl, hb⟩ := hrel
    have hBr : Below w.heap.size w wr := hb1.trans (hb.mono hb1.size)
    by_cases hlt : n < L
    · have hltx : n < zs.length := by rw [HX.out]; exact hlt
      have hrows := hz.below hBr
      rcases hrows with ⟨_, _, e, e'⟩ | ⟨b, o, cap2, e, hcells⟩
      · exfalso; have := HX.out; rw [e'] at this; simp at this; omega
      injection e with e1 e2 e3
      subst e1
      clear e2 e3
      have c1 := hcells n hltx
      clear hcells
      have hi : (n : Int) < (L : Int) := by omega
      have hck := inBounds_any zs[n] wr
      by_cases hnm : n < m
      · rw [HGOOD.out n hltx hnm] at hck
        generalize zs[n] = xk at c1 hck
        go_wp2_with fail
        refine hck.mono ?_
        rintro e w3 ⟨rfl, rfl⟩
        clear hck c1
        go_wp2
        go_roundw
        case rel => exact ⟨n + 1, by omega, by go_num, hb⟩
        case measure => simp [intOf]; omega
      · obtain rfl : n = m := by omega
        rw [HEND.out hltx] at hck
        generalize zs[n] = xk at c1 hck
        have hbd := (h.below hBr).env.bound
        have hb5 : Below w.heap.size w (wr.alloc (.cells #[.int .i64 n, .iface 273 (.pointer (some (a 1)))] 94)) := hBr.alloc hBr.size _
        go_wp2_with fail
        refine hck.mono ?_
        rintro e w3 ⟨rfl, rfl⟩
        clear hck c1
        go_wp2
        go_region
        go_wp2
        go_ret2
        exact Or.inr ⟨hltx, w3.heap.size, rfl, by simp, by simp [errV], hb5.drew⟩
    · have hnm : n = m := by omega
      have hmL : m = L := by omega
      subst hnm
      have hall : ∀ x ∈ riseZ zs, inNum x = true := fun x hxm => by
        obtain ⟨i, hi, e⟩ := List.mem_iff_getElem.1 ((rise_mem zs x).1 hxm)
        rw [← e]
        exact HGOOD.out i hi (by rw [hmL, ← HX.out]; exact hi)
      have hwl := writeKeys_any ⟨#[103, 111, 110, 101]⟩ (by decide) (.slice q1 L1 c1) (riseZ zs) wr a (h.env.below hBr) (HK1.out.below hb) (by rw [HL1.out]; omega) hall
      have HF : Hid (bytesOf (headL (⟨#[103, 111, 110, 101]⟩ : ByteArray).data.toList (riseZ zs).length (endsZ (keysG goneK (riseZ zs))).1 (endsZ (keysG goneK (riseZ zs))).2 (sumL (linesG goneK (riseZ zs))) ++ 10 :: linesG goneK (riseZ zs)) = bytesOf (goneF (riseZ zs))) := rfl
      rw [HF.out] at hwl
      clear hall HF hlt
      obtain ⟨fB, hfB⟩ : ∃ fB, bytesOf (goneF (riseZ zs)) = fB := ⟨_, rfl⟩
      have HFB : Hid (bytesOf (goneF (riseZ zs)) = fB) := hfB
      rw [hfB] at hwl
      clear hfB
      go_wp2_with fail
      refine hwl.mono ?_
      rintro e w2 ⟨rfl, hb2⟩
      clear hwl
      go_wp2
      go_ret2
      exact Or.inl ⟨hmL.trans HX.out.symm, by rw [HFB.out]; rfl, hBr.trans (hb2.mono hBr.size)⟩
end Go.Proofs.YtgffkkijfmoooabGreatDoor
namespace Go.Proofs.YtgffkkijfmoooabGreatDoor
open Go.RowKit Go.Extern.Stop Go.Stop Go.Extern Go.Sort Go.Shelf Go.Lib

theorem keyO_eq (l : List UInt8) : keyO l = match numO l with
  | none => (0, 1)
  | some n => if inNum n then (n, 0) else (0, 2) := rfl

set_option maxRecDepth 100000 in
set_option maxHeartbeats 1000000 in
theorem readKey_any (line : ByteArray) (w : World) (a : Nat → Addr) (h : EnvD0 w a) (hs : line.size ≤ 100000) :
    Calls Tryz.prog 81 #[.string line] w fun e w' => e = .returned (.tuple #[.int .i64 (keyO line.data.toList).1, errV a (keyO line.data.toList).2]) ∧ Below w.heap.size w w' := by
  have hnm := number_any line w a h.env (by unfold maxLen; omega)
  unfold numR at hnm
  cases hn : numO line.data.toList with
  | none =>
    have HK : Hid (keyO line.data.toList = (0, 1)) := by show _ = _; rw [keyO_eq, hn]
    rw [hn] at hnm
    dsimp only at hnm
    clear hn
    rw [HK.out]
    simp only [errV]
    go_enter Tryz.func81, Tryz.ntmps81
    go_wp2_with fail
    refine hnm.mono ?_
    rintro e w1 ⟨rfl, hb1⟩
    clear hnm
    have ht := (h.below hb1).env.text
    go_wp2
    go_quiet (fail)
    go_wp2
    go_ret2
    exact ⟨rfl, below_drewN hb1 nq⟩
  | some n =>
    rw [hn] at hnm
    dsimp only at hnm
    cases hi : inNum n with
    | true =>
      have HK : Hid (keyO line.data.toList = (n, 0)) := by show _ = _; rw [keyO_eq, hn]; simp [hi]
      have hib := fun W => inBounds_any n W
      rw [hi] at hib
      clear hn hi
      rw [HK.out]
      simp only [errV]
      go_enter Tryz.func81, Tryz.ntmps81
      go_wp2_with fail
      refine hnm.mono ?_
      rintro e w1 ⟨rfl, hb1⟩
      clear hnm
      go_wp2_with fail
      refine (hib _).mono ?_
      rintro e w2 ⟨rfl, rfl⟩
      clear hib
      go_wp2
      go_ret2
      exact ⟨rfl, hb1⟩
    | false =>
      have HK : Hid (keyO line.data.toList = (0, 2)) := by show _ = _; rw [keyO_eq, hn]; simp [hi]
      have hib := fun W => inBounds_any n W
      rw [hi] at hib
      clear hn hi
      rw [HK.out]
      simp only [errV]
      go_enter Tryz.func81, Tryz.ntmps81
      go_wp2_with fail
      refine hnm.mono ?_
      rintro e w1 ⟨rfl, hb1⟩
      clear hnm
      go_wp2_with fail
      refine (hib _).mono ?_
      rintro e w2 ⟨rfl, rfl⟩
      clear hib
      have ht := (h.below hb1).env.bound
      go_wp2
      go_quiet (fail)
      go_wp2
      go_ret2
      exact ⟨rfl, below_drewN hb1 nq⟩

theorem keysAt_own {w : World} {base : Nat} {v : Value} {zs : List Int} (h : w.ownsRow base 3 1 v zs.length (zs.map (Value.int .i64))) : KeysAt w v zs := by
  obtain ⟨hl, h⟩ := h
  rcases h with ⟨hv, hn⟩ | ⟨g, cap, cur, rfl, _, hg, hc, _, _, ht⟩
  · have : zs = [] := List.length_eq_zero_iff.1 hn
    subst this
    exact .inl ⟨none, 0, hv, rfl⟩
  · refine .inr ⟨g, 0, cap, rfl, fun j hj => ?_⟩
    have hu : (zs.map (Value.int .i64))[j]? = some (.int .i64 zs[j]) := by simp [hj]
    rw [← ht, List.getElem?_take, if_pos (by omega)] at hu
    simp only [World.cell?, hg, Nat.zero_add]
    simpa using hu

/-- A variable of keys, in a block of its own. -/
structure BoxK (W : World) (B bl : Nat) (v : Value) (acc : List Int) : Prop where
  box : W.heap[bl]? = some (.cells #[v] 44 (0, 0))
  own : W.ownsRow B 3 1 v acc.length (acc.map (Value.int .i64))
  off : v.ownBlock ≠ some bl
  low : B ≤ bl

/-- The variable of keys is none of the blocks from P to Q. -/
structure InvK (B bl P Q : Nat) (W : World) (acc : List Int) : Prop where
  ex : ∃ v, BoxK W B bl v acc ∧ ∀ j, P ≤ j → j < Q → v.ownBlock ≠ some j
  lt : bl < P
  hq : Q ≤ W.heap.size

theorem BoxK.below {W W' : World} {B bl : Nat} {v : Value} {acc : List Int} (h : BoxK W B bl v acc) (hb : Below W.heap.size W W') : BoxK W' B bl v acc :=
  ⟨(hb.block bl (lt_of_block h.box)).trans h.box, own_below h.own hb, h.off, h.low⟩

theorem InvK.keep {B bl P Q : Nat} {W W' : World} {acc : List Int} (h : InvK B bl P Q W acc) (hb : Below W.heap.size W W') : InvK B bl P Q W' acc := by
  obtain ⟨⟨v, hv, ho⟩, hl, hq⟩ := h
  exact ⟨⟨v, hv.below hb, ho⟩, hl, Nat.le_trans hq hb.size⟩

theorem InvK.set {B bl P Q : Nat} {W : World} {acc : List Int} (j o : Nat) (u : Value) (h1 : P ≤ j) (h2 : j < Q) (h : InvK B bl P Q W acc) : InvK B bl P Q (W.setCell ⟨j, o, none⟩ u) acc := by
  obtain ⟨⟨v, hv, ho⟩, hl, hq⟩ := h
  have hsz : (W.setCell ⟨j, o, none⟩ u).heap.size = W.heap.size := by simp [World.setCell]
  refine ⟨⟨v, ⟨?_, ownsRow_setCell_other hv.own (ho j h1 h2) u, hv.off, hv.low⟩, ho⟩, hl, by omega⟩
  rw [heap_setCell_other _ _ _ _ (by show bl ≠ j; omega)]
  exact hv.box

/-- What the last part of it does: the key is put behind the others. -/
theorem boxK_put {W w5 : World} {B bl : Nat} {v v' : Value} {acc : List Int} {x : Int} (h : BoxK W B bl v acc) (ho : w5.ownsRow B 3 1 v' (acc.length + 1) (acc.map (Value.int .i64) ++ [.int .i64 x])) (hg : W.grownBy w5 v.ownBlock) (hat : v'.ownBlock = v.ownBlock ∨ v'.ownBlock = some W.heap.size) :
    BoxK (w5.setCell ⟨bl, 0, none⟩ v') B bl v' (acc ++ [x]) ∧ w5.heap[bl]? = some (.cells #[v] 44 (0, 0)) := by
  have hlt := lt_of_block h.box
  have hb5 : w5.heap[bl]? = some (.cells #[v] 44 (0, 0)) := (hg.block bl hlt (fun e => h.off e.symm)).trans h.box
  have hoff : v'.ownBlock ≠ some bl := by
    rcases hat with e | e
    · rw [e]; exact h.off
    · rw [e]; intro e'; have := Option.some.inj e'; omega
  refine ⟨⟨one_setCell hb5, ?_, hoff, h.low⟩, hb5⟩
  rw [List.length_append, List.map_append]
  exact ownsRow_setCell_other ho hoff _

theorem invK_put {W0 W w5 : World} {B bl P Q : Nat} {v v' : Value} {acc : List Int} {x : Int} (h : BoxK W B bl v acc) (ho : w5.ownsRow B 3 1 v' (acc.length + 1) (acc.map (Value.int .i64) ++ [.int .i64 x])) (hg : W.grownBy w5 v.ownBlock) (hat : v'.ownBlock = v.ownBlock ∨ v'.ownBlock = some W.heap.size)
    (hb : Below W0.heap.size W0 W) (hoff : ∀ j, P ≤ j → j < Q → v.ownBlock ≠ some j) (hlt : bl < P) (hq : Q ≤ W0.heap.size) :
    InvK B bl P Q (w5.setCell ⟨bl, 0, none⟩ v') (acc ++ [x]) ∧ ∀ j, P ≤ j → j < Q → (w5.setCell ⟨bl, 0, none⟩ v').heap[j]? = W0.heap[j]? := by
  have hsz : Q ≤ W.heap.size := Nat.le_trans hq hb.size
  have hs5 : W.heap.size ≤ w5.heap.size := hg.size
  refine ⟨⟨⟨v', (boxK_put h ho hg hat).1, fun j h1 h2 e => ?_⟩, hlt, ?_⟩, fun j h1 h2 => ?_⟩
  · rcases hat with e' | e'
    · exact hoff j h1 h2 (e'.symm.trans e)
    · rw [e'] at e; have := Option.some.inj e; omega
  · have : (w5.setCell ⟨bl, 0, none⟩ v').heap.size = w5.heap.size := by simp [World.setCell]
    omega
  · rw [heap_setCell_other _ _ _ _ (by show j ≠ bl; omega), hg.block j (by omega) (fun e => hoff j h1 h2 e.symm)]
    exact hb.block j (by omega)

set_option maxRecDepth 100000 in
set_option maxHeartbeats 2000000 in
theorem kline_bad (line : ByteArray) (bl : Nat) (W : World) (a : Nat → Addr) (h : EnvD0 W a) (hs : line.size ≤ 100000) (hr : (keyO line.data.toList).2 ≠ 0) :
    Calls Tryz.prog 80 #[.string line, .pointer (some ⟨bl, 0, none⟩)] W fun e w' => e = .returned (.tuple #[.int .i64 0, errV a (keyO line.data.toList).2]) ∧ Below W.heap.size W w' := by
  have hrd := readKey_any line W a h hs
  obtain ⟨E, hE⟩ : ∃ E, (keyO line.data.toList).2 = E + 1 := ⟨(keyO line.data.toList).2 - 1, by omega⟩
  rw [hE] at hrd ⊢
  simp only [errV] at hrd ⊢
  generalize (keyO line.data.toList).1 = x at hrd
  clear hr hE
  go_enter Tryz.func80, Tryz.ntmps80
  go_wp2_with fail
  refine hrd.mono ?_
  rintro e w1 ⟨rfl, hb1⟩
  clear hrd
  go_wp2
  go_ret2
  exact ⟨rfl, hb1⟩

set_option maxRecDepth 100000 in
set_option maxHeartbeats 4000000 in
theorem kline_first (line : ByteArray) (bl B : Nat) (v : Value) (W : World) (a : Nat → Addr) (h : EnvD0 W a) (hB : BoxK W B bl v []) (P Q : Nat) (hoff : ∀ j, P ≤ j → j < Q → v.ownBlock ≠ some j) (hlt : bl < P) (hq : Q ≤ W.heap.size) (hs : line.size ≤ 100000) (hr : (keyO line.data.toList).2 = 0) :
    Calls Tryz.prog 80 #[.string line, .pointer (some ⟨bl, 0, none⟩)] W fun e w' => e = .returned (.tuple #[.int .i64 (keyO line.data.toList).1, .nilIface]) ∧ InvK B bl P Q w' [(keyO line.data.toList).1] ∧ (∀ j, P ≤ j → j < Q → w'.heap[j]? = W.heap[j]?) ∧ Below B W w' := by
  obtain ⟨i0, hi0, hz0, hs0, hby0⟩ := Tryz.numInfo
  have hrd := readKey_any line W a h hs
  rw [hr] at hrd
  simp only [errV] at hrd
  obtain ⟨x, hx⟩ : ∃ x, (keyO line.data.toList).1 = x := ⟨_, rfl⟩
  rw [hx] at hrd ⊢
  clear hx hr
  have hBW : B ≤ W.heap.size := Nat.le_trans hB.low (Nat.le_of_lt (lt_of_block hB.box))
  have HOFF : Hid (∀ j, P ≤ j → j < Q → v.ownBlock ≠ some j) := hoff
  clear hoff
  go_enter Tryz.func80, Tryz.ntmps80
  go_wp2_with fail
  refine hrd.mono ?_
  rintro e w1 ⟨rfl, hb1⟩
  clear hrd
  have hB2 := hB.below hb1
  obtain ⟨q, cp, rfl⟩ := own_shape hB2.own
  simp only [List.length_nil] at hB2
  have hcb := cell_of_one hB2.box
  have hfb := free_of_one hB2.box
  clear hB
  have hal : Below w1.heap.size w1 (w1.alloc (.cells #[.int .i64 x] 3)) := (Below.refl _ _).alloc (Nat.le_refl _) _
  have hB4 := hB2.below hal
  have hb4 : Below B W (w1.alloc (.cells #[.int .i64 x] 3)) := (hb1.trans (hal.mono hb1.size)).mono hBW
  go_wp2_with (at_builtin; refine wpList_append_own_at _ rfl _ _ 44 rfl B 3 i0 (.int .i64 0) 1 8 Tryz.underlying44 hi0 hz0 hs0 hby0 rfl (by decide) (.slice q 0 cp) 0 (([] : List Int).map (Value.int .i64)) rfl hB4.own ⟨w1.heap.size, 0, none⟩ 1 1 [.int .i64 x] rfl ?qd1 ?qd2 ?qd3 ?qd4 ?qd5 ?qd6 ?_)
  case qd1 => rfl
  case qd2 => exact cell_one _ _ _
  case qd3 => intro u hu; simp at hu; subst hu; rfl
  case qd4 => unfold maxLen; omega
  case qd5 => omega
  case qd6 => exact Nat.le_trans hBW hb4.size
  intro v7 w7 hown7 hgrow7 _ hat7
  obtain ⟨g7, cap7, rfl⟩ := own_next hown7
  obtain ⟨hput, hb7⟩ := boxK_put (x := x) hB4 hown7 hgrow7 (by simpa using hat7)
  have hcb7 := cell_of_one hb7
  have hfb7 := free_of_one hb7
  have hW7 : Below B W w7 := hb4.grown hgrow7 (Nat.le_trans hBW hb4.size) (fun k hk => own_far hB4.own hk)
  have hW8 : Below B W (w7.setCell ⟨bl, 0, none⟩ (.slice (some ⟨g7, 0, none⟩) (0 + 1) cap7)) := hW7.setCell hB4.low _
  have hbW4 : Below W.heap.size W (w1.alloc (.cells #[.int .i64 x] 3)) := hb1.trans (hal.mono hb1.size)
  have HPUT : Hid (InvK B bl P Q (w7.setCell ⟨bl, 0, none⟩ (.slice (some ⟨g7, 0, none⟩) (0 + 1) cap7)) ([] ++ [x]) ∧ ∀ j, P ≤ j → j < Q → (w7.setCell ⟨bl, 0, none⟩ (.slice (some ⟨g7, 0, none⟩) (0 + 1) cap7)).heap[j]? = W.heap[j]?) := invK_put (x := x) hB4 hown7 hgrow7 (by simpa using hat7) hbW4 HOFF.out hlt hq
  clear hown7 hgrow7 hat7 hB4 hB2 hput
  go_wp2
  go_ret2
  exact ⟨rfl, HPUT.out.1, HPUT.out.2, hW8⟩

set_option maxRecDepth 100000 in
set_option maxHeartbeats 8000000 in
theorem kline_next (line : ByteArray) (bl B k : Nat) (v : Value) (acc : List Int) (W : World) (a : Nat → Addr) (h : EnvD0 W a) (hB : BoxK W B bl v acc) (hs : line.size ≤ 100000) (hl : acc.length ≤ 100000) (P Q : Nat) (hoff : ∀ j, P ≤ j → j < Q → v.ownBlock ≠ some j) (hlt : bl < P) (hq : Q ≤ W.heap.size) (hk : acc.length = k + 1) (hkk : k < acc.length) (hr : (keyO line.data.toList).2 = 0) :
    Calls Tryz.prog 80 #[.string line, .pointer (some ⟨bl, 0, none⟩)] W fun e w' => ((keyO line.data.toList).1 ≤ acc[k] → e = .returned (.tuple #[.int .i64 0, errV a 9]) ∧ Below W.heap.size W w') ∧
      (¬ (keyO line.data.toList).1 ≤ acc[k] → e = .returned (.tuple #[.int .i64 (keyO line.data.toList).1, .nilIface]) ∧ InvK B bl P Q w' (acc ++ [(keyO line.data.toList).1]) ∧ (∀ j, P ≤ j → j < Q → w'.heap[j]? = W.heap[j]?) ∧ Below B W w') := by
  obtain ⟨i0, hi0, hz0, hs0, hby0⟩ := Tryz.numInfo
  have hrd := readKey_any line W a h hs
  rw [hr] at hrd
  simp only [errV] at hrd
  obtain ⟨x, hx⟩ : ∃ x, (keyO line.data.toList).1 = x := ⟨_, rfl⟩
  rw [hx] at hrd
  have HX : Hid ((keyO line.data.toList).1 = x) := hx
  clear hx hr
  have hBW : B ≤ W.heap.size := Nat.le_trans hB.low (Nat.le_of_lt (lt_of_block hB.box))
  have HOFF : Hid (∀ j, P ≤ j → j < Q → v.ownBlock ≠ some j) := hoff
  clear hoff
  go_enter Tryz.func80, Tryz.ntmps80
  go_wp2_with fail
  refine hrd.mono ?_
  rintro e w1 ⟨rfl, hb1⟩
  clear hrd
  have hB2 := hB.below hb1
  have hnx : ∃ g c, v = .slice (some ⟨g, 0, none⟩) (k + 1) c := own_next (n := k) (by rw [← hk]; exact hB2.own)
  obtain ⟨g, cp, rfl⟩ := hnx
  have hcb := cell_of_one hB2.box
  have hfb := free_of_one hB2.box
  have hka : KeysAt w1 (.slice (some ⟨g, 0, none⟩) (k + 1) cp) acc := keysAt_own hB2.own
  have p0 : w1.cell? ⟨g, k, none⟩ = some (.int .i64 acc[k]) := by
    rcases hka with ⟨_, _, e, e'⟩ | ⟨b, o, cap2, e, hcells⟩
    · rw [e'] at hk; simp at hk
    · injection e with e1
      injection e1 with e1
      injection e1 with e1 e2
      subst e1 e2
      have := hcells k hkk
      simpa using this
  clear hB hka
  have HY : Hid (∃ y, acc[k] = y) := ⟨_, rfl⟩
  obtain ⟨y, hy⟩ := HY.out
  have HYY : Hid (acc[k] = y) := hy
  rw [hy] at p0
  clear hy HY
  have hi1 : (0 : Int) < (k : Int) + 1 := by omega
  have hi3 : (k : Int) < (k : Int) + 1 := by omega
  have hi4 : (0 : Int) ≤ (k : Int) := by omega
  have hi5 : IntKind.i64.wrap (k : Int) = (k : Int) := IntWalk.i64_in _ (by omega)
  have HKK : Hid (acc.length = k + 1) := hk
  have HHL : Hid (acc.length ≤ 100000) := hl
  clear hk hl
  by_cases hxy : x ≤ y
  · have ho := (h.below hb1).order
    clear hB2 hfb
    go_wp2
    go_quiet (fail)
    go_wp2
    go_ret2
    refine ⟨fun _ => ⟨rfl, below_drewN hb1 _⟩, fun h9 => ?_⟩
    rw [HX.out, HYY.out] at h9
    omega
  · have hal : Below w1.heap.size w1 (w1.alloc (.cells #[.int .i64 x] 3)) := (Below.refl _ _).alloc (Nat.le_refl _) _
    have hb4 : Below B W (w1.alloc (.cells #[.int .i64 x] 3)) := (hb1.trans (hal.mono hb1.size)).mono hBW
    have HB4 : Hid (BoxK (w1.alloc (.cells #[.int .i64 x] 3)) B bl (.slice (some ⟨g, 0, none⟩) (k + 1) cp) acc) := hB2.below hal
    clear hB2
    go_wp2_with (at_builtin; refine wpList_append_own_at _ rfl _ _ 44 rfl B 3 i0 (.int .i64 0) 1 8 Tryz.underlying44 hi0 hz0 hs0 hby0 rfl (by decide) (.slice (some ⟨g, 0, none⟩) (k + 1) cp) acc.length (acc.map (Value.int .i64)) rfl HB4.out.own ⟨w1.heap.size, 0, none⟩ 1 1 [.int .i64 x] rfl ?qd1 ?qd2 ?qd3 ?qd4 ?qd5 ?qd6 ?_)
    case qd1 => rfl
    case qd2 => exact cell_one _ _ _
    case qd3 => intro u hu; simp at hu; subst hu; rfl
    case qd4 => have := HHL.out; unfold maxLen; omega
    case qd5 => have := HHL.out; omega
    case qd6 => exact Nat.le_trans hBW hb4.size
    intro v7 w7 hown7 hgrow7 _ hat7
    obtain ⟨g7, cap7, rfl⟩ := own_next hown7
    obtain ⟨hput, hb7⟩ := boxK_put (x := x) HB4.out hown7 hgrow7 (by simpa using hat7)
    have hcb7 := cell_of_one hb7
    have hfb7 := free_of_one hb7
    have hW7 : Below B W w7 := hb4.grown hgrow7 (Nat.le_trans hBW hb4.size) (fun k hk => own_far HB4.out.own hk)
    have hW8 : Below B W (w7.setCell ⟨bl, 0, none⟩ (.slice (some ⟨g7, 0, none⟩) (acc.length + 1) cap7)) := hW7.setCell HB4.out.low _
    have hbW4 : Below W.heap.size W (w1.alloc (.cells #[.int .i64 x] 3)) := hb1.trans (hal.mono hb1.size)
    have HPUT : Hid (InvK B bl P Q (w7.setCell ⟨bl, 0, none⟩ (.slice (some ⟨g7, 0, none⟩) (acc.length + 1) cap7)) (acc ++ [x]) ∧ ∀ j, P ≤ j → j < Q → (w7.setCell ⟨bl, 0, none⟩ (.slice (some ⟨g7, 0, none⟩) (acc.length + 1) cap7)).heap[j]? = W.heap[j]?) := invK_put (x := x) HB4.out hown7 hgrow7 (by simpa using hat7) hbW4 HOFF.out hlt hq
    clear hown7 hgrow7 hat7 hput
    go_wp2
    go_ret2
    refine ⟨fun h9 => ?_, fun _ => ⟨by rw [HX.out]; rfl, by rw [HX.out]; exact HPUT.out.1, HPUT.out.2, hW8⟩⟩
    rw [HX.out, HYY.out] at h9
    omega

/-- The function that gone.Read hands over takes keys. -/
theorem taker_keys (a : Nat → Addr) (bl B P Q : Nat) (hBP : B ≤ P) : Taker goneK a (fun W => EnvD0 W a) 80 bl B P Q (InvK B bl P Q) where
  env := fun h => h
  ent := enters_of Tryz.func80 (by kernel_rfl) rfl
  low := hBP
  keep := fun h hb => h.keep hb
  set := fun j o u h1 h2 h => h.set j o u h1 h2
  take := fun W line acc hE hI hQ hs hl => by
    have HI : Hid (InvK B bl P Q W acc) := hI
    obtain ⟨⟨v, hv, ho⟩, hlt, hq⟩ := hI
    have hBW : B ≤ W.heap.size := Nat.le_trans hv.low (Nat.le_of_lt (lt_of_block hv.box))
    show Calls _ _ _ _ fun e w' => Below B W w' ∧ _ ∧ ((stepE goneK acc line.data.toList ≠ 0 ∧ _) ∨ (stepE goneK acc line.data.toList = 0 ∧ _))
    have hst : stepE goneK acc line.data.toList = if (keyO line.data.toList).2 ≠ 0 then (keyO line.data.toList).2 else if acc ≠ [] ∧ decide ((keyO line.data.toList).1 ≤ acc.getLastD 0) = true then 9 else 0 := rfl
    by_cases hr : (keyO line.data.toList).2 ≠ 0
    · rw [if_pos hr] at hst
      refine (kline_bad line bl W a hE hs hr).mono fun e w' ⟨he, hb⟩ => ⟨hb.mono hBW, fun j h1 h2 => hb.block j (by omega), Or.inl ⟨by rw [hst]; exact hr, by rw [he, hst], HI.out.keep hb⟩⟩
    · have hr0 : (keyO line.data.toList).2 = 0 := Classical.byContradiction hr
      rw [if_neg hr] at hst
      by_cases hac : acc = []
      · subst hac
        rw [if_neg (by simp)] at hst
        exact (kline_first line bl B v W a hE hv P Q ho hlt hq hs hr0).mono fun e w' ⟨he, hi, hf, hb⟩ => ⟨hb, hf, Or.inr ⟨hst, he, hi⟩⟩
      · obtain ⟨k, hk⟩ : ∃ k, acc.length = k + 1 := ⟨acc.length - 1, by have := List.length_pos_iff.2 hac; omega⟩
        have hkk : k < acc.length := by omega
        rw [last_is acc k _ hk hkk] at hst
        refine (kline_next line bl B k v acc W a hE hv hs hl P Q ho hlt hq hk hkk hr0).mono fun e w' ⟨h1, h2⟩ => ?_
        by_cases hb : (keyO line.data.toList).1 ≤ acc[k]
        · rw [if_pos ⟨hac, by simpa using hb⟩] at hst
          obtain ⟨he, hbl⟩ := h1 hb
          exact ⟨hbl.mono hBW, fun j q1 q2 => hbl.block j (by omega), Or.inl ⟨by rw [hst]; decide, by rw [he, hst], HI.out.keep hbl⟩⟩
        · rw [if_neg (fun e => hb (by simpa using e.2))] at hst
          obtain ⟨he, hi, hf, hbl⟩ := h2 hb
          exact ⟨hbl, hf, Or.inr ⟨hst, he, hi⟩⟩

/-- What points into memory that is newer than w. -/
def NewAt (w : World) (v : Value) : Prop := ∀ k, v.ownBlock = some k → w.heap.size ≤ k

/-- What Read hands back. -/
def GonePost (w : World) (a : Nat → Addr) (D : List Int × Nat × Option Nat) (e : Ending) (w' : World) : Prop :=
  Below w.heap.size w w' ∧ ((D.2.1 = 0 ∧ ∃ v, e = .returned (.tuple #[v, .nilIface]) ∧ KeysAt w' v D.1 ∧ NewAt w v) ∨
    (D.2.1 ≠ 0 ∧ D.1 = [] ∧ D.2.2 = none ∧ e = .returned (.tuple #[.slice none 0 0, errV a D.2.1])) ∨
    (D.2.1 ≠ 0 ∧ D.1 = [] ∧ ∃ at_, D.2.2 = some at_ ∧ ∃ fb, e = .returned (.tuple #[.slice none 0 0, .iface 92 (.pointer (some ⟨fb, 0, none⟩))]) ∧ w'.cell? ⟨fb, 0, none⟩ = some (.int .i64 at_) ∧ w'.cell? ⟨fb, 1, none⟩ = some (errV a D.2.1)))

set_option maxRecDepth 100000 in
set_option maxHeartbeats 8000000 in
theorem gone_any (s : ByteArray) (w : World) (a : Nat → Addr) (h : EnvD0 w a) (hs : s.size ≤ maxLen) :
    Calls Tryz.prog 22 #[.string s] w fun e w' => GonePost w a (goneO s.data.toList) e w' := by
  have hal : Below w.heap.size w (w.alloc (.cells #[.slice none 0 0] 44)) := (Below.refl _ _).alloc (Nat.le_refl _) _
  have hbox : BoxK (w.alloc (.cells #[.slice none 0 0] 44)) w.heap.size w.heap.size (.slice none 0 0) [] := ⟨heap_alloc_new _ _, World.ownsRow_nil _ _ _ _, by simp [Value.ownBlock], Nat.le_refl _⟩
  have hsz : (w.alloc (.cells #[.slice none 0 0] 44)).heap.size = w.heap.size + 1 := by simp
  have hrl := readLines_any goneK ⟨#[103, 111, 110, 101]⟩ s rfl (w.alloc (.cells #[.slice none 0 0] 44)) a (fun W => EnvD0 W a) 80 w.heap.size w.heap.size (fun Q => InvK w.heap.size w.heap.size (w.heap.size + 1) Q) (by omega) (fun W' hW => h.below (hal.trans hW))
    (fun Q => by rw [hsz]; exact taker_keys a w.heap.size w.heap.size (w.heap.size + 1) Q (Nat.le_succ _))
    (fun Q W' hW hQ => ⟨⟨_, hbox.below hW, fun j _ _ => by simp [Value.ownBlock]⟩, Nat.lt_succ_self _, hQ⟩) hs
  have e0 : goneO s.data.toList = readG goneK s.data.toList := rfl
  rw [e0]
  generalize readG goneK s.data.toList = D at hrl ⊢
  clear hbox hsz e0
  go_enter Tryz.func22, Tryz.ntmps22
  go_wp2_with fail
  generalize w.alloc (.cells #[.slice none 0 0] 44) = WA at hrl hal ⊢
  refine hrl.mono ?_
  rintro e w1 ⟨hb1, hres⟩
  clear hrl
  have hB1 : Below w.heap.size w w1 := hal.trans hb1
  rcases hres with ⟨h0, rfl, Q, hinv⟩ | ⟨h0, h1, h2, rfl⟩ | ⟨h0, h1, at_, h2, fb, rfl, c0, c1⟩
  · obtain ⟨⟨v, hbx, _⟩, _, _⟩ := hinv
    have hc := cell_of_one hbx.box
    have hro := keysAt_own hbx.own
    obtain ⟨q, cp, rfl⟩ := own_shape hbx.own
    have HRO : Hid (KeysAt w1 (.slice q D.1.length cp) D.1) := hro
    have HNEW : Hid (NewAt w (.slice q D.1.length cp)) := fun k hk => (hbx.own.lt k hk).1
    clear hbx hro
    obtain ⟨LL, hLL⟩ : ∃ LL, D.1.length = LL := ⟨_, rfl⟩
    have HLL : Hid (D.1.length = LL) := hLL
    rw [hLL] at hc HRO HNEW
    clear hLL
    go_wp2
    go_ret2
    exact ⟨hB1, Or.inl ⟨h0, _, rfl, HRO.out, HNEW.out⟩⟩
  · obtain ⟨E, hE⟩ : ∃ E, D.2.1 = E + 1 := ⟨D.2.1 - 1, by omega⟩
    have HE : Hid (D.2.1 = E + 1) := hE
    rw [hE]
    simp only [errV]
    clear hE
    go_wp2
    go_ret2
    exact ⟨hB1, Or.inr (Or.inl ⟨h0, h1, h2, by rw [HE.out]; rfl⟩)⟩
  · have C0 : Hid (w1.cell? ⟨fb, 0, none⟩ = some (.int .i64 at_)) := c0
    have C1 : Hid (w1.cell? ⟨fb, 1, none⟩ = some (errV a D.2.1)) := c1
    clear c0 c1
    go_wp2
    go_ret2
    exact ⟨hB1, Or.inr (Or.inr ⟨h0, h1, at_, h2, fb, rfl, C0.out, C1.out⟩)⟩

set_option maxHeartbeats 1000000 in
theorem has_any (v : Value) (zs : List Int) (x : Int) (w : World) (h : KeysAt w v zs) (hl : zs.length ≤ 1000) :
    Calls Tryz.prog 25 #[v, .int .i64 x] w fun e w' => e = .returned (.bool (zs.contains x)) ∧ Below w.heap.size w w' := by
  have hc : Calls Tryz.prog 82 #[v, .int .i64 x] w fun e w' => e = .returned (.bool (zs.contains x)) ∧ Below w.heap.size w w' := by
    rcases h with ⟨p, c, rfl, rfl⟩ | ⟨b, o, cap, rfl, hc⟩
    · refine (Tryz.slices_Contains_int_empty p c x w).mono fun e w' ⟨he, hw⟩ => ⟨he, ?_⟩
      subst hw; exact Below.refl _ _
    · refine (Tryz.slices_Contains_int b o zs.length cap zs x w (Nat.le_refl _) (by omega) (fun j hj => by rw [getD_of hj]; exact hc j hj)).mono fun e w' ⟨he, hw⟩ => ⟨?_, ?_⟩
      · rw [List.take_length] at he; exact he
      · subst hw; exact Below.refl _ _
  obtain ⟨q, cap, rfl⟩ := h.form
  clear h
  generalize zs.contains x = bb at hc ⊢
  generalize zs.length = L at hc ⊢
  go_enter Tryz.func25, Tryz.ntmps25
  go_wp2_with fail
  refine hc.mono ?_
  rintro e w1 ⟨rfl, hb1⟩
  go_wp2
  go_ret
  exact ⟨rfl, hb1⟩
end Go.Proofs.YtgffkkijfmoooabGreatDoor
