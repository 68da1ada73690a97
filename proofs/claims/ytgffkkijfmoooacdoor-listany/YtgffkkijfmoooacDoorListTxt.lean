/-
  The contract of list.Text.
-/
import Derived.Test.YtgffkkijfmoooacDoorListChk
import Derived.Test.YtgffkkijfmoooacDoorDataLines
namespace Go.Proofs.YtgffkkijfmoooacDoor
open Go.RowKit Go.Extern.Stop Go.Stop Go.Extern Go.Sort Go.Shelf Go.Lib

set_option maxRecDepth 100000 in
set_option maxHeartbeats 8000000 in
theorem ltext_any (v : Value) (fs : List Fl) (w : World) (a : Nat → Addr) (h : EnvL w a) (hx : FlsAt w v fs) (hl : fs.length ≤ 100) (hsz : Short fs) :
    Calls Tryd.prog 13 #[v] w fun e w' => ∃ ev, e = .returned (.tuple #[.string (if (listE fs).1 = 0 then bytesOf (listL fs) else ⟨#[]⟩), ev]) ∧ ToldE w' a ev (listE fs) ∧ Below w.heap.size w w' := by
  obtain ⟨q, cap, rfl⟩ := hx.form
  have hck := lcheck_any (.slice q fs.length cap) fs w a h hx hl hsz
  have HFX : Hid (FlsAt w (.slice q fs.length cap) fs) := hx
  have HSZ : Hid (Short fs) := hsz
  have HEN : Hid (∀ W, Below w.heap.size w W → EnvL W a) := fun W hb => h.below hb
  obtain ⟨L, hL⟩ : ∃ L, fs.length = L := ⟨_, rfl⟩
  have HX : Hid (fs.length = L) := hL
  rw [hL] at hl hck ⊢
  clear hL hx hsz
  by_cases hok : (listE fs).1 = 0
  · rw [if_pos hok]
    have HOK : Hid (∀ f ∈ fs, fileE f = 0) := fun f hf => ((listE_ok.1 hok).2.1 f hf).1
    have HRE : Hid ((listE fs).1 = 0) := hok
    generalize hR : listE fs = R at hck ⊢
    have HR : Hid (R.1 = 0) := by show _ = _; rw [← hR]; exact hok
    clear hR hok
    obtain ⟨TT, hTT⟩ : ∃ TT, bytesOf (listL fs) = TT := ⟨_, rfl⟩
    have HTT : Hid (bytesOf (listL fs) = TT) := hTT
    rw [hTT]
    clear hTT
    go_enter Tryd.func13, Tryd.ntmps13
    go_wp2_with fail
    refine hck.mono ?_
    rintro e w1 ⟨ev, rfl, ht, hb1⟩
    clear hck
    obtain rfl := ht.ok HR.out
    have HT0 : Hid (∀ W, ToldE W a .nilIface R) := fun W => by
      obtain ⟨n, o⟩ := R
      have h0 : n = 0 := HR.out
      subst h0
      cases o with
      | none => rfl
      | some j => exact absurd rfl ht.1
    clear ht
    have hbn : w1.heap.size ≤ w1.heap.size := Nat.le_refl _
    have hal : Below w1.heap.size w1 (w1.alloc (.cells #[.pointer none, .slice none 0 0] 54)) := (Below.refl _ _).alloc (Nat.le_refl _) _
    have hBl : Below w.heap.size w (w1.alloc (.cells #[.pointer none, .slice none 0 0] 54)) := hb1.trans (hal.mono hb1.size)
    have hbld : Lib.IsBuilder 54 5 w1.heap.size w1.heap.size (Lib.byteCells (listL ([] : List Fl))) (w1.alloc (.cells #[.pointer none, .slice none 0 0] 54)) :=
      Or.inl ⟨Nat.le_refl _, .slice none 0 0, heap_alloc_new _ _, World.ownsRow_nil _ _ _ _, by simp [Value.ownBlock]⟩
    have hw1 := hb1.size
    go_wp2
    generalize w1.heap.size = B at hbld hw1 ⊢
    go_loopw [15] (fun k wr => ∃ n : Nat, n ≤ L ∧ k = .int .i64 n ∧ Below w.heap.size w wr ∧ B < wr.heap.size ∧ Lib.IsBuilder 54 5 B B (Lib.byteCells (listL (fs.take n))) wr) (fun k _ => L - (intOf k).toNat)
    case atStart => exact ⟨0, by omega, rfl, hBl, by rcases hbld with hB | hB <;> exact hB.lt, by simpa using hbld⟩
    case round =>
      clear hal hbld hBl
      obtain ⟨n, hn, rfl, hb, hBr, hB⟩ := hrel
      by_cases hlt : n < L
      · have hltx : n < fs.length := by rw [HX.out]; exact hlt
        obtain ⟨b, o, hq, hc⟩ := (HFX.out.below hb).cells (fun e => by rw [e] at hltx; simp at hltx)
        subst hq
        obtain ⟨c0, c1, c2, c3, c4, c5⟩ := hc n hltx
        obtain ⟨k1, k2⟩ := HSZ.out fs[n] (List.getElem_mem _)
        have k0 := HOK.out fs[n] (List.getElem_mem _)
        have htx := fun W (hW : EnvL W a) => ftext_any fs[n] W a hW.file (by omega) (by omega)
        have hfb' : fileB fs[n] = bytesOf (fileL fs[n]) := by unfold fileB; rw [if_pos k0]
        have hfl := fl_len k0
        have hln := listL_len (fs.take n) (fun f hf => by
          have hm := List.mem_of_mem_take hf
          have := HSZ.out f hm
          exact ⟨HOK.out f hm, by omega, by omega⟩)
        rw [List.length_take] at hln
        have hlen : (Lib.byteCells (listL (fs.take n))).length ≤ 30000 := by rw [Lib.byteCells_length]; omega
        have hsf : (bytesOf (fileL fs[n])).size ≤ 300 := by rw [bytes_len]; omega
        have HTB : Hid ((bytesOf (fileL fs[n])).data.toList = fileL fs[n]) := by show _ = _; simp [bytesOf]
        have HT : Hid (listL (fs.take (n + 1)) = listL (fs.take n) ++ (fileL fs[n] ++ [10])) := listL_take fs n hltx
        rw [hfb'] at htx
        generalize listL (fs.take n) = acc at hB HT hlen
        generalize bytesOf (fileL fs[n]) = tb at htx HTB hsf
        generalize fileL fs[n] = tl at HTB HT
        unfold flV at htx
        generalize fs[n] = f at c0 c1 c2 c3 c4 c5 htx
        have hfb := boxW_at wr f
        have hbb := boxW_below wr f
        unfold boxW at hfb hbb
        obtain ⟨fp, fq, fn, flo, fhi, fseq⟩ := f
        dsimp only at c0 c1 c2 c3 c4 c5 htx hfb hbb
        have hiL : (n : Int) < (L : Int) := by omega
        have hi0' : (0 : Int) ≤ (n : Int) := by omega
        clear hc hltx hln hfl hfb' k0 k1 k2
        go_upto_region 8 with fail
        clear c0 c1 c2 c3 c4 c5
        generalize wr.alloc (.cells #[.string fp, .string fq, .int .i64 fn, .int .i64 flo, .int .i64 fhi, .int .i64 fseq] 32) = W5 at hfb hbb ⊢
        have hB5 : Below w.heap.size w W5 := hb.trans (hbb.mono hb.size)
        obtain ⟨z0, z1, z2, z3, z4, z5, -⟩ := hfb.cells
        dsimp only at z0 z1 z2 z3 z4 z5
        have htx5 := htx W5 (HEN.out W5 hB5)
        clear htx
        go_wp2_with fail
        refine htx5.mono ?_
        rintro e w6 ⟨rfl, hb6⟩
        clear htx5 z0 z1 z2 z3 z4 z5 hfb
        have hB6 : Below w.heap.size w w6 := hB5.trans (hb6.mono hB5.size)
        have hw6 : Below wr.heap.size wr w6 := hbb.trans (hb6.mono hbb.size)
        have hBu := isBuilder_below hB hw6
        have hs6 : B < w6.heap.size := Nat.lt_of_lt_of_le hBr hw6.size
        clear hB hbb hb6 hB5
        have hws := writeString_any B B _ tb w6 hBu (by omega) (Nat.le_of_lt hs6)
        clear hBu
        go_wp2_with fail
        refine hws.mono ?_
        rintro e w7 ⟨rfl, hB7, hb7⟩
        clear hws
        have hBB7 : Below w.heap.size w w7 := hB6.trans (hb7.mono hw1)
        have hs7 : B < w7.heap.size := Nat.lt_of_lt_of_le hs6 hb7.size
        have hws := writeString_any B B _ ⟨#[10]⟩ w7 (Or.inr hB7) (by rw [List.length_append, Lib.strCells_length]; have : (⟨#[10]⟩ : ByteArray).size = 1 := rfl; omega) (Nat.le_of_lt hs7)
        clear hB7
        go_wp2_with fail
        refine hws.mono ?_
        rintro e w8 ⟨rfl, hB8, hb8⟩
        clear hws
        have hBB8 : Below w.heap.size w w8 := hBB7.trans (hb8.mono hw1)
        have hs8 : B < w8.heap.size := Nat.lt_of_lt_of_le hs7 hb8.size
        have HB8 : Hid (Lib.IsBuilder 54 5 B B (Lib.byteCells (listL (fs.take (n + 1)))) w8) := by
          show Lib.IsBuilder _ _ _ _ _ _
          rw [HT.out, Lib.byteCells_append, Lib.byteCells_append, ← HTB.out, ← List.append_assoc]
          exact Or.inr hB8
        clear hB8
        go_wp2
        go_roundw
        case rel => exact ⟨n + 1, by omega, by go_num, hBB8, hs8, HB8.out⟩
        case measure => simp [intOf]; omega
      · obtain rfl : n = L := by omega
        have hta : fs.take n = fs := List.take_of_length_le (by rw [HX.out]; exact Nat.le_refl _)
        rw [hta] at hB
        have hst := Tryd.Builder_String_any B B (listL fs) wr hB (Nat.le_of_lt hBr)
        have eS : (⟨(listL fs).toArray⟩ : ByteArray) = bytesOf (listL fs) := rfl
        rw [eS, HTT.out] at hst
        clear hta hB eS
        go_wp2_with fail
        refine hst.mono ?_
        rintro e w2 ⟨rfl, hb2⟩
        clear hst
        go_wp2
        go_ret2
        exact ⟨_, rfl, HT0.out _, hb.trans (hb2.mono hw1)⟩
  · rw [if_neg hok]
    generalize listE fs = R at hck hok ⊢
    go_enter Tryd.func13, Tryd.ntmps13
    go_wp2_with fail
    refine hck.mono ?_
    rintro e w1 ⟨ev, rfl, ht, hb1⟩
    clear hck
    obtain ⟨t, u, rfl⟩ := ht.bad hok
    have HTT : Hid (ToldE w1 a (.iface t u) R) := ht
    clear ht
    go_wp2
    go_ret2
    exact ⟨_, rfl, HTT.out, hb1⟩
end Go.Proofs.YtgffkkijfmoooacDoor
