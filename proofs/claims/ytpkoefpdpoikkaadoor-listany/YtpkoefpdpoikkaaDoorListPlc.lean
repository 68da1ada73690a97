/-
  The contract of list.place: a place is sought by halves.
-/
import Derived.Test.YtpkoefpdpoikkaaDoorListOrd
namespace Go.Proofs.YtpkoefpdpoikkaaDoor
open Go.RowKit Go.Extern.Stop Go.Stop Go.Extern Go.Sort Go.Shelf Go.Lib

theorem beh_ahead {fs : List Fl} {n : Nat} (hn : n < fs.length) (he : fileE fs[n] = 0) : behE (fs.take n) fs[n] = if fk fs[n] ≤ ahead fs n then 9 else 0 := by
  unfold behE
  cases n with
  | zero =>
    have := fk_pos he
    rw [if_neg (by simp), if_neg]
    show ¬ fk fs[0] ≤ 0
    omega
  | succ m =>
    have hm : m < fs.length := by omega
    have hl : (fs.take (m + 1)).length = m + 1 := by rw [List.length_take]; omega
    rw [last_of (fs.take (m + 1)) m zeroF hl (by omega), ahead_succ hm, List.getElem_take]
    have hne : fs.take (m + 1) ≠ [] := fun e => by rw [e] at hl; simp at hl
    simp [hne]

set_option maxRecDepth 100000 in
set_option maxHeartbeats 8000000 in
theorem lcheck_any (v : Value) (fs : List Fl) (w : World) (a : Nat → Addr) (h : EnvL w a) (hx : FlsAt w v fs) (hl : fs.length ≤ 100) (hsz : Short fs) :
    Calls Tryd.prog 7 #[v] w fun e w' => ∃ ev, e = .returned ev ∧ ToldE w' a ev (listE fs) ∧ Below w.heap.size w w' := by
  obtain ⟨q, cap, rfl⟩ := hx.form
  have HFX : Hid (FlsAt w (.slice q fs.length cap) fs) := hx
  have HSZ : Hid (Short fs) := hsz
  have HEN : Hid (∀ W, Below w.heap.size w W → EnvL W a) := fun W hb => h.below hb
  obtain ⟨L, hL⟩ : ∃ L, fs.length = L := ⟨_, rfl⟩
  have HX : Hid (fs.length = L) := hL
  rw [hL] at hl ⊢
  generalize hR : listE fs = R
  have HR : Hid (listE fs = R) := hR
  clear hL hx hsz hR
  by_cases hbig : 60 < L
  · have hRR : R = (8, none) := by rw [← HR.out]; unfold listE; rw [if_pos (by rw [HX.out]; exact hbig)]
    subst hRR
    have hi : (60 : Int) < (L : Int) := by omega
    have hf := h.full
    go_enter Tryd.func7, Tryd.ntmps7
    go_wp2
    go_ret
    exact ⟨_, rfl, rfl, Below.refl _ _⟩
  · have HRR : Hid (R = lstG 0 fs 0) := by
      show _ = _
      rw [← HR.out]; unfold listE; rw [if_neg (by rw [HX.out]; exact hbig)]
    have hi : ¬ (60 : Int) < (L : Int) := by omega
    clear HR
    go_enter Tryd.func7, Tryd.ntmps7
    go_wp2
    go_loopw [12] (fun k wr => ∃ n : Nat, n ≤ L ∧ k = .int .i64 n ∧ LeftG fs n ∧ (∀ j (h : j < fs.length), j < n → fileE fs[j] = 0) ∧ Below w.heap.size w wr) (fun k _ => L - (intOf k).toNat)
    case atStart => exact ⟨0, by omega, rfl, left_zero fs, fun j h h' => absurd h' (Nat.not_lt_zero _), Below.refl _ _⟩
    case round =>
      obtain ⟨n, hn, rfl, hlg, hall, hb⟩ := hrel
      have HLG : Hid (LeftG fs n) := hlg
      have HAL : Hid (∀ j (h : j < fs.length), j < n → fileE fs[j] = 0) := hall
      clear hlg hall
      by_cases hlt : n < L
      · have hltx : n < fs.length := by rw [HX.out]; exact hlt
        have hcap : n ≤ cap ∧ L ≤ cap := by
          have := HFX.out.room.2 (fun e => by rw [e] at hltx; simp at hltx)
          rw [HX.out] at this
          omega
        obtain ⟨b, o, hq, hc⟩ := (HFX.out.below hb).cells (fun e => by rw [e] at hltx; simp at hltx)
        subst hq
        have HC : Hid (FlCells wr b o fs) := hc
        obtain ⟨c0, c1, c2, c3, c4, c5⟩ := hc n hltx
        obtain ⟨k1, k2⟩ := HSZ.out fs[n] (List.getElem_mem _)
        have hck := fun W (hW : EnvL W a) => fcheck_any fs[n] W a hW.file (by omega) (by omega)
        have hbad := fun e => left_bad HLG.out hltx e
        have hord := fun e o => left_order HLG.out hltx e o
        have hnxt := fun e o => left_succ HLG.out hltx e o
        have hbeh : fileE fs[n] = 0 → ∀ W, Below wr.heap.size wr W → Calls Tryd.prog 16 #[.slice (some ⟨b, o, none⟩) n cap, flV fs[n]] W fun e w' => e = .returned (errV a (if fk fs[n] ≤ ahead fs n then 9 else 0)) ∧ Below W.heap.size W w' := fun he W hW => by
          have h' := behind_any (.slice (some ⟨b, o, none⟩) n cap) (fs.take n) fs[n] W a (HEN.out W (hb.trans (hW.mono hb.size))) (flsAt_take (HC.out.below hW) (Nat.le_of_lt hltx) (by rw [HX.out]; exact hcap.2)) (by rw [List.length_take]; omega) (fun g hg => by
            obtain ⟨j, hj, rfl⟩ := List.mem_iff_getElem.1 hg
            rw [List.length_take] at hj
            rw [List.getElem_take]
            exact ⟨by have := (HSZ.out fs[j] (List.getElem_mem _)).1; omega, ok_path (HAL.out j (by omega) (by omega))⟩) (by omega) (ok_path he)
          rw [beh_ahead hltx he] at h'
          exact h'
        have HAN : Hid (fileE fs[n] = 0 → ∀ j (h : j < fs.length), j < n + 1 → fileE fs[j] = 0) := fun he j hj hjn => by
          by_cases e : j = n
          · subst e; exact he
          · exact HAL.out j hj (by omega)
        unfold flV at hck hbeh
        generalize fileE fs[n] = E at hck hbad hord hnxt hbeh HAN
        generalize fk fs[n] = Z at hord hnxt hbeh
        generalize ahead fs n = Y at hord hnxt hbeh
        generalize fs[n] = f at c0 c1 c2 c3 c4 c5 hck hbeh k1 k2
        have hfb := boxW_at wr f
        have hbb := boxW_below wr f
        unfold boxW at hfb hbb
        obtain ⟨fp, fq, fn, flo, fhi, fseq⟩ := f
        dsimp only at c0 c1 c2 c3 c4 c5 hck hbeh k1 k2 hfb hbb
        have hiL : (n : Int) < (L : Int) := by omega
        have hi0' : (0 : Int) ≤ (n : Int) := by omega
        have hic : (n : Int) ≤ (cap : Int) := by omega
        clear hc hltx HC
        go_upto_region 6 with fail
        clear c0 c1 c2 c3 c4 c5
        generalize wr.alloc (.cells #[.string fp, .string fq, .int .i64 fn, .int .i64 flo, .int .i64 fhi, .int .i64 fseq] 32) = W5 at hfb hbb ⊢
        have hB5 : Below w.heap.size w W5 := hb.trans (hbb.mono hb.size)
        obtain ⟨z0, z1, z2, z3, z4, z5, -⟩ := hfb.cells
        dsimp only at z0 z1 z2 z3 z4 z5
        have hck5 := hck W5 (HEN.out W5 hB5)
        clear hck
        go_wp2_with fail
        refine hck5.mono ?_
        rintro e w6 ⟨rfl, hb6⟩
        clear hck5 z0 z1 z2 z3 z4 z5
        have hB6 : Below w.heap.size w w6 := hB5.trans (hb6.mono hB5.size)
        have hw6 : Below wr.heap.size wr w6 := hbb.trans (hb6.mono hbb.size)
        by_cases hE : E = 0
        · subst hE
          replace hord := hord rfl
          replace hnxt := hnxt rfl
          have hbe := hbeh rfl
          have HA1 : Hid (∀ j (h : j < fs.length), j < n + 1 → fileE fs[j] = 0) := HAN.out rfl
          obtain ⟨z0, z1, z2, z3, z4, z5, -⟩ := (hfb.below hb6).cells
          dsimp only at z0 z1 z2 z3 z4 z5
          clear hbad hbeh HAN hfb hbb hb6 hB5
          by_cases ho : Z ≤ Y
          · rw [if_pos ho] at hbe
            have HRE : Hid (R = (9, some n)) := by rw [HRR.out]; exact hord ho
            have HBE : Hid (∀ W, Below wr.heap.size wr W → Calls Tryd.prog 16 #[.slice (some ⟨b, o, none⟩) n cap, .agg #[.string fp, .string fq, .int .i64 fn, .int .i64 flo, .int .i64 fhi, .int .i64 fseq]] W fun e w' => e = .returned (errV a 9) ∧ Below W.heap.size W w') := hbe
            clear hbe hord hnxt
            simp only [errV]
            go_upto_region 8 with fail
            go_region_held3 (fun w' => w'.cell? ⟨wr.heap.size, 0, none⟩ = some (.string fp) ∧ w'.cell? ⟨wr.heap.size, 1, none⟩ = some (.string fq) ∧ w'.cell? ⟨wr.heap.size, 2, none⟩ = some (.int .i64 fn) ∧ w'.cell? ⟨wr.heap.size, 3, none⟩ = some (.int .i64 flo) ∧ w'.cell? ⟨wr.heap.size, 4, none⟩ = some (.int .i64 fhi) ∧ w'.cell? ⟨wr.heap.size, 5, none⟩ = some (.int .i64 fseq) ∧ Below wr.heap.size wr w')
              (first
                | (go_split_ands; with_reducible exact ⟨below_keep hbX (by assumption), below_keep hbX (by assumption), below_keep hbX (by assumption), below_keep hbX (by assumption), below_keep hbX (by assumption), below_keep hbX (by assumption), Below.trans (by assumption) (hbX.mono (Below.size (by assumption)))⟩)
                | (go_split_ands; exact ⟨by go_keep, by go_keep, by go_keep, by go_keep, by go_keep, by go_keep, by assumption⟩)
                | (go_split_ands; exact ⟨by go_keep, by go_keep, by go_keep, by go_keep, by go_keep, by go_keep, Below.drew (by assumption)⟩))
              (first
                | (go_at_call 16; with_reducible refine (HBE.out _ (by go_split_ands; assumption)).mono ?_; rintro e wX ⟨rfl, hbX⟩))
            go_split_ands
            have hX : Below wr.heap.size wr wX := by assumption
            have hBX : Below w.heap.size w wX := hb.trans (hX.mono hb.size)
            try simp only [errV]
            have hal : Below wX.heap.size wX (wX.alloc (.cells #[.int .i64 n, .iface 117 (.pointer (some (a 8)))] 45)) := (Below.refl _ _).alloc (Nat.le_refl _) _
            go_wp2
            go_ret
            refine ⟨_, rfl, ?_, hBX.trans (hal.mono hBX.size)⟩
            rw [HRE.out]
            exact ⟨by simp, wX.heap.size, rfl, by simp, by simp [errV]⟩
          · rw [if_neg ho] at hbe
            have HNX : Hid (LeftG fs (n + 1)) := hnxt (by omega)
            have HBE : Hid (∀ W, Below wr.heap.size wr W → Calls Tryd.prog 16 #[.slice (some ⟨b, o, none⟩) n cap, .agg #[.string fp, .string fq, .int .i64 fn, .int .i64 flo, .int .i64 fhi, .int .i64 fseq]] W fun e w' => e = .returned (errV a 0) ∧ Below W.heap.size W w') := hbe
            clear hbe hord hnxt
            simp only [errV]
            go_upto_region 8 with fail
            go_region_held3 (fun w' => w'.cell? ⟨wr.heap.size, 0, none⟩ = some (.string fp) ∧ w'.cell? ⟨wr.heap.size, 1, none⟩ = some (.string fq) ∧ w'.cell? ⟨wr.heap.size, 2, none⟩ = some (.int .i64 fn) ∧ w'.cell? ⟨wr.heap.size, 3, none⟩ = some (.int .i64 flo) ∧ w'.cell? ⟨wr.heap.size, 4, none⟩ = some (.int .i64 fhi) ∧ w'.cell? ⟨wr.heap.size, 5, none⟩ = some (.int .i64 fseq) ∧ Below wr.heap.size wr w')
              (first
                | (go_split_ands; with_reducible exact ⟨below_keep hbX (by assumption), below_keep hbX (by assumption), below_keep hbX (by assumption), below_keep hbX (by assumption), below_keep hbX (by assumption), below_keep hbX (by assumption), Below.trans (by assumption) (hbX.mono (Below.size (by assumption)))⟩)
                | (go_split_ands; exact ⟨by go_keep, by go_keep, by go_keep, by go_keep, by go_keep, by go_keep, by assumption⟩)
                | (go_split_ands; exact ⟨by go_keep, by go_keep, by go_keep, by go_keep, by go_keep, by go_keep, Below.drew (by assumption)⟩))
              (first
                | (go_at_call 16; with_reducible refine (HBE.out _ (by go_split_ands; assumption)).mono ?_; rintro e wX ⟨rfl, hbX⟩))
            go_split_ands
            have hX : Below wr.heap.size wr wX := by assumption
            have hBX : Below w.heap.size w wX := hb.trans (hX.mono hb.size)
            try simp only [errV]
            go_wp2
            go_roundw
            case rel => exact ⟨n + 1, by omega, by go_num, HNX.out, HA1.out, hBX⟩
            case measure => simp [intOf]; omega
        · obtain ⟨j, rfl⟩ : ∃ j, E = j + 1 := ⟨E - 1, by omega⟩
          have HRE : Hid (R = (j + 1, some n)) := by rw [HRR.out]; exact hbad hE
          simp only [errV]
          clear hbad hord hnxt hbeh HAN hfb hbb hb6 hB5 hw6
          have hal : Below w6.heap.size w6 (w6.alloc (.cells #[.int .i64 n, .iface 117 (.pointer (some (a j)))] 45)) := (Below.refl _ _).alloc (Nat.le_refl _) _
          go_wp2
          go_ret
          refine ⟨_, rfl, ?_, hB6.trans (hal.mono hB6.size)⟩
          rw [HRE.out]
          exact ⟨by simp, w6.heap.size, rfl, by simp, by simp [errV]⟩
      · obtain rfl : n = L := by omega
        have HRE : Hid (R = (0, none)) := by
          show _ = _
          rw [HRR.out]
          have h' := HLG.out
          rw [← HX.out] at h'
          exact left_all h'
        go_wp2
        go_ret
        refine ⟨_, rfl, ?_, hb⟩
        rw [HRE.out]
        rfl
end Go.Proofs.YtpkoefpdpoikkaaDoor
namespace Go.Proofs.YtpkoefpdpoikkaaDoor
open Go.RowKit Go.Extern.Stop Go.Stop Go.Extern Go.Sort Go.Shelf Go.Lib

set_option maxRecDepth 100000 in
set_option maxHeartbeats 8000000 in
theorem ltext_any (v : Value) (fs : List Fl) (w : World) (a : Nat → Addr) (h : EnvL w a) (hx : FlsAt w v fs) (hl : fs.length ≤ 100) (hsz : Short fs) :
    Calls Tryd.prog 13 #[v] w fun e w' => ∃ ev, e = .returned (.tuple #[.string (if (listE fs).1 = 0 then bytesOf (listL fs) else ⟨#[]⟩), ev]) ∧ ToldE w' a ev (listE fs) ∧ Below w.heap.size w w' := by
  obtain ⟨q, cap, rfl⟩ := hx.form
  have hck := lcheck_any (.slice q fs.length cap) fs w a h hx hl hsz
  have HFX : Hid (FlsAt w (.slice q fs.length cap) fs) := hx
  have HSZ : Hid (Short fs) := hsz
  have HEN : Hid (∀ W, Below w.heap.size w W → EnvL W a) := fun W hb => h.below hb
  obtain ⟨L, hL⟩ : ∃ L, fs.length = L := ⟨_, rfl⟩
  have HX : Hid (fs.length = L) := hL
  rw [hL] at hl hck ⊢
  clear hL hx hsz
  by_cases hok : (listE fs).1 = 0
  · rw [if_pos hok]
    have HOK : Hid (∀ f ∈ fs, fileE f = 0) := fun f hf => ((listE_ok.1 hok).2.1 f hf).1
    have HRE : Hid ((listE fs).1 = 0) := hok
    generalize hR : listE fs = R at hck ⊢
    have HR : Hid (R.1 = 0) := by show _ = _; rw [← hR]; exact hok
    clear hR hok
    obtain ⟨TT, hTT⟩ : ∃ TT, bytesOf (listL fs) = TT := ⟨_, rfl⟩
    have HTT : Hid (bytesOf (listL fs) = TT) := hTT
    rw [hTT]
    clear hTT
    go_enter Tryd.func13, Tryd.ntmps13
    go_wp2_with fail
    refine hck.mono ?_
    rintro e w1 ⟨ev, rfl, ht, hb1⟩
    clear hck
    obtain rfl := ht.ok HR.out
    have HT0 : Hid (∀ W, ToldE W a .nilIface R) := fun W => by
      obtain ⟨n, o⟩ := R
      have h0 : n = 0 := HR.out
      subst h0
      cases o with
      | none => rfl
      | some j => exact absurd rfl ht.1
    clear ht
    have hbn : w1.heap.size ≤ w1.heap.size := Nat.le_refl _
    have hal : Below w1.heap.size w1 (w1.alloc (.cells #[.pointer none, .slice none 0 0] 54)) := (Below.refl _ _).alloc (Nat.le_refl _) _
    have hBl : Below w.heap.size w (w1.alloc (.cells #[.pointer none, .slice none 0 0] 54)) := hb1.trans (hal.mono hb1.size)
    have hbld : Lib.IsBuilder 54 5 w1.heap.size w1.heap.size (Lib.byteCells (listL ([] : List Fl))) (w1.alloc (.cells #[.pointer none, .slice none 0 0] 54)) :=
      Or.inl ⟨Nat.le_refl _, .slice none 0 0, heap_alloc_new _ _, World.ownsRow_nil _ _ _ _, by simp [Value.ownBlock]⟩
    have hw1 := hb1.size
    go_wp2
    generalize w1.heap.size = B at hbld hw1 ⊢
    go_loopw [15] (fun k wr => ∃ n : Nat, n ≤ L ∧ k = .int .i64 n ∧ Below w.heap.size w wr ∧ B < wr.heap.size ∧ Lib.IsBuilder 54 5 B B (Lib.byteCells (listL (fs.take n))) wr) (fun k _ => L - (intOf k).toNat)
    case atStart => exact ⟨0, by omega, rfl, hBl, by rcases hbld with hB | hB <;> exact hB.lt, by simpa using hbld⟩
    case round =>
      clear hal hbld hBl
      obtain ⟨n, hn, rfl, hb, hBr, hB⟩ := hrel
      by_cases hlt : n < L
      · have hltx : n < fs.length := by rw [HX.out]; exact hlt
        obtain ⟨b, o, hq, hc⟩ := (HFX.out.below hb).cells (fun e => by rw [e] at hltx; simp at hltx)
        subst hq
        obtain ⟨c0, c1, c2, c3, c4, c5⟩ := hc n hltx
        obtain ⟨k1, k2⟩ := HSZ.out fs[n] (List.getElem_mem _)
        have k0 := HOK.out fs[n] (List.getElem_mem _)
        have htx := fun W (hW : EnvL W a) => ftext_any fs[n] W a hW.file (by omega) (by omega)
        have hfb' : fileB fs[n] = bytesOf (fileL fs[n]) := by unfold fileB; rw [if_pos k0]
        have hfl := fl_len k0
        have hln := listL_len (fs.take n) (fun f hf => by
          have hm := List.mem_of_mem_take hf
          have := HSZ.out f hm
          exact ⟨HOK.out f hm, by omega, by omega⟩)
        rw [List.length_take] at hln
        have hlen : (Lib.byteCells (listL (fs.take n))).length ≤ 30000 := by rw [Lib.byteCells_length]; omega
        have hsf : (bytesOf (fileL fs[n])).size ≤ 300 := by rw [bytes_len]; omega
        have HTB : Hid ((bytesOf (fileL fs[n])).data.toList = fileL fs[n]) := by show _ = _; simp [bytesOf]
        have HT : Hid (listL (fs.take (n + 1)) = listL (fs.take n) ++ (fileL fs[n] ++ [10])) := listL_take fs n hltx
        rw [hfb'] at htx
        generalize listL (fs.take n) = acc at hB HT hlen
        generalize bytesOf (fileL fs[n]) = tb at htx HTB hsf
        generalize fileL fs[n] = tl at HTB HT
        unfold flV at htx
        generalize fs[n] = f at c0 c1 c2 c3 c4 c5 htx
        have hfb := boxW_at wr f
        have hbb := boxW_below wr f
        unfold boxW at hfb hbb
        obtain ⟨fp, fq, fn, flo, fhi, fseq⟩ := f
        dsimp only at c0 c1 c2 c3 c4 c5 htx hfb hbb
        have hiL : (n : Int) < (L : Int) := by omega
        have hi0' : (0 : Int) ≤ (n : Int) := by omega
        clear hc hltx hln hfl hfb' k0 k1 k2
        go_upto_region 8 with fail
        clear c0 c1 c2 c3 c4 c5
        generalize wr.alloc (.cells #[.string fp, .string fq, .int .i64 fn, .int .i64 flo, .int .i64 fhi, .int .i64 fseq] 32) = W5 at hfb hbb ⊢
        have hB5 : Below w.heap.size w W5 := hb.trans (hbb.mono hb.size)
        obtain ⟨z0, z1, z2, z3, z4, z5, -⟩ := hfb.cells
        dsimp only at z0 z1 z2 z3 z4 z5
        have htx5 := htx W5 (HEN.out W5 hB5)
        clear htx
        go_wp2_with fail
        refine htx5.mono ?_
        rintro e w6 ⟨rfl, hb6⟩
        clear htx5 z0 z1 z2 z3 z4 z5 hfb
        have hB6 : Below w.heap.size w w6 := hB5.trans (hb6.mono hB5.size)
        have hw6 : Below wr.heap.size wr w6 := hbb.trans (hb6.mono hbb.size)
        have hBu := isBuilder_below hB hw6
        have hs6 : B < w6.heap.size := Nat.lt_of_lt_of_le hBr hw6.size
        clear hB hbb hb6 hB5
        have hws := writeString_any B B _ tb w6 hBu (by omega) (Nat.le_of_lt hs6)
        clear hBu
        go_wp2_with fail
        refine hws.mono ?_
        rintro e w7 ⟨rfl, hB7, hb7⟩
        clear hws
        have hBB7 : Below w.heap.size w w7 := hB6.trans (hb7.mono hw1)
        have hs7 : B < w7.heap.size := Nat.lt_of_lt_of_le hs6 hb7.size
        have hws := writeString_any B B _ ⟨#[10]⟩ w7 (Or.inr hB7) (by rw [List.length_append, Lib.strCells_length]; have : (⟨#[10]⟩ : ByteArray).size = 1 := rfl; omega) (Nat.le_of_lt hs7)
        clear hB7
        go_wp2_with fail
        refine hws.mono ?_
        rintro e w8 ⟨rfl, hB8, hb8⟩
        clear hws
        have hBB8 : Below w.heap.size w w8 := hBB7.trans (hb8.mono hw1)
        have hs8 : B < w8.heap.size := Nat.lt_of_lt_of_le hs7 hb8.size
        have HB8 : Hid (Lib.IsBuilder 54 5 B B (Lib.byteCells (listL (fs.take (n + 1)))) w8) := by
          show Lib.IsBuilder _ _ _ _ _ _
          rw [HT.out, Lib.byteCells_append, Lib.byteCells_append, ← HTB.out, ← List.append_assoc]
          exact Or.inr hB8
        clear hB8
        go_wp2
        go_roundw
        case rel => exact ⟨n + 1, by omega, by go_num, hBB8, hs8, HB8.out⟩
        case measure => simp [intOf]; omega
      · obtain rfl : n = L := by omega
        have hta : fs.take n = fs := List.take_of_length_le (by rw [HX.out]; exact Nat.le_refl _)
        rw [hta] at hB
        have hst := Tryd.Builder_String_any B B (listL fs) wr hB (Nat.le_of_lt hBr)
        have eS : (⟨(listL fs).toArray⟩ : ByteArray) = bytesOf (listL fs) := rfl
        rw [eS, HTT.out] at hst
        clear hta hB eS
        go_wp2_with fail
        refine hst.mono ?_
        rintro e w2 ⟨rfl, hb2⟩
        clear hst
        go_wp2
        go_ret2
        exact ⟨_, rfl, HT0.out _, hb.trans (hb2.mono hw1)⟩
  · rw [if_neg hok]
    generalize listE fs = R at hck hok ⊢
    go_enter Tryd.func13, Tryd.ntmps13
    go_wp2_with fail
    refine hck.mono ?_
    rintro e w1 ⟨ev, rfl, ht, hb1⟩
    clear hck
    obtain ⟨t, u, rfl⟩ := ht.bad hok
    have HTT : Hid (ToldE w1 a (.iface t u) R) := ht
    clear ht
    go_wp2
    go_ret2
    exact ⟨_, rfl, HTT.out, hb1⟩
end Go.Proofs.YtpkoefpdpoikkaaDoor
namespace Go.Proofs.YtpkoefpdpoikkaaDoor
open Go.RowKit Go.Extern.Stop Go.Stop Go.Extern Go.Sort Go.Shelf Go.Lib

set_option maxRecDepth 100000 in
set_option maxHeartbeats 1000000 in
theorem place1_any (f : Fl) (p : ByteArray) (w : World) (a : Nat → Addr) (h : EnvN w a) (hf : f.1.size ≤ 100000) (hp : p.size ≤ 100000) (hfo : pathO f.1.data.toList ≠ none) (hpo : pathO p.data.toList ≠ none) :
    Calls Tryd.prog 30 #[flV f, .string p] w fun e w' => e = .returned (.int .i64 (Lib.compareInt (fk f) (pk p.data.toList))) ∧ Below w.heap.size w w' := by
  have hal : Below w.heap.size w (w.alloc (.cells #[.string f.1, .string f.2.1, .int .i64 f.2.2.1, .int .i64 f.2.2.2.1, .int .i64 f.2.2.2.2.1, .int .i64 f.2.2.2.2.2] 32)) := (Below.refl _ _).alloc (Nat.le_refl _) _
  have z0 := (FlAt.new w f).cells.1
  have hod : Calls Tryd.prog 28 #[.string f.1, .string p] _ fun e w' => e = .returned (.int .i64 (Lib.compareInt (fk f) (pk p.data.toList))) ∧ Below _ _ w' := lorder_any f.1 p _ a (h.below hal) hf hp hfo hpo
  generalize Lib.compareInt (fk f) (pk p.data.toList) = C at hod ⊢
  unfold flV
  obtain ⟨fp, fq, fn, flo, fhi, fseq⟩ := f
  dsimp only at hal z0 hod ⊢
  clear hf hp hfo hpo
  go_enter Tryd.func30, Tryd.ntmps30
  go_upto_region 1 with fail
  generalize w.alloc (.cells #[.string fp, .string fq, .int .i64 fn, .int .i64 flo, .int .i64 fhi, .int .i64 fseq] 32) = WA at hal z0 hod ⊢
  go_wp2_with fail
  refine hod.mono ?_
  rintro e w1 ⟨rfl, hb1⟩
  clear hod
  go_wp2
  go_ret
  exact ⟨rfl, hal.trans (hb1.mono hal.size)⟩

def PlaceAt (fs : List Fl) (z : Int) (n : Nat) (t : Bool) : Prop := n ≤ fs.length ∧ (∀ j (h : j < fs.length), j < n → fk fs[j] < z) ∧ (∀ j (h : j < fs.length), n ≤ j → z ≤ fk fs[j]) ∧ (t = true ↔ ∃ h : n < fs.length, fk fs[n] = z)

def PlacePost (fs : List Fl) (z : Int) (W : World) (e : Ending) (w' : World) : Prop := ∃ (n : Nat) (t : Bool), e = .returned (.tuple #[.int .i64 n, .bool t]) ∧ PlaceAt fs z n t ∧ Below W.heap.size W w'

set_option maxRecDepth 100000 in
set_option maxHeartbeats 8000000 in
theorem searchF_any (v : Value) (fs : List Fl) (p : ByteArray) (w : World) (a : Nat → Addr) (h : EnvN w a) (hx : FlsAt w v fs) (hl : fs.length ≤ 20000) (hr : fs.Pairwise fun f g => fk f < fk g) (hsz : ∀ g ∈ fs, g.1.size ≤ 100000 ∧ pathO g.1.data.toList ≠ none) (hp : p.size ≤ 100000) (hpo : pathO p.data.toList ≠ none) :
    Calls Tryd.prog 29 #[v, .string p, .func (.func 30) #[] #[]] w (PlacePost fs (pk p.data.toList) w) := by
  have eg : ∀ args w, (callFunc 30 args).run Tryd.prog w = .ok (.enter 30 args) w := enters_of Tryd.func30 (by kernel_rfl) rfl
  obtain ⟨q, cap, rfl⟩ := hx.form
  have HFX : Hid (FlsAt w (.slice q fs.length cap) fs) := hx
  have HCM : Hid (∀ W, Below w.heap.size w W → ∀ j (hj : j < fs.length), Calls Tryd.prog 30 #[flV fs[j], .string p] W fun e w' => e = .returned (.int .i64 (Lib.compareInt (fk fs[j]) (pk p.data.toList))) ∧ Below W.heap.size W w') := fun W hb j hj => place1_any fs[j] p W a (h.below hb) (hsz _ (List.getElem_mem _)).1 hp (hsz _ (List.getElem_mem _)).2 hpo
  have HPW : Hid (fs.Pairwise fun f g => fk f < fk g) := hr
  obtain ⟨L, hL⟩ : ∃ L, fs.length = L := ⟨_, rfl⟩
  have HX : Hid (fs.length = L) := hL
  rw [hL] at hl ⊢
  generalize pk p.data.toList = Z at HCM ⊢
  clear hL hx hr hsz hp hpo h
  have HLT : Hid (∀ i j (hi : i < fs.length) (hj : j < fs.length), i < j → fk fs[i] < fk fs[j]) := fun i j hi hj hij => List.pairwise_iff_getElem.1 HPW.out i j hi hj hij
  clear HPW
  go_enter Tryd.func29, Tryd.ntmps29
  go_wp2
  go_loopw [9, 10] (fun s9 s10 wr => ∃ lo hi : Nat, s9 = .int .i64 lo ∧ s10 = .int .i64 hi ∧ lo ≤ hi ∧ hi ≤ L ∧ (∀ j (h : j < fs.length), j < lo → fk fs[j] < Z) ∧ (∀ j (h : j < fs.length), hi ≤ j → Z ≤ fk fs[j]) ∧ Below w.heap.size w wr) (fun s9 s10 _ => (intOf s10).toNat - (intOf s9).toNat)
  case atStart => exact ⟨0, L, rfl, rfl, Nat.zero_le _, Nat.le_refl _, fun j h h' => absurd h' (Nat.not_lt_zero _), fun j h h' => by rw [HX.out] at h; omega, Below.refl _ _⟩
  case round =>
    obtain ⟨lo, hi, rfl, rfl, hlh, hhL, hlow, hhigh, hb⟩ := hrel
    have HLO : Hid (∀ j (h : j < fs.length), j < lo → fk fs[j] < Z) := hlow
    have HHI : Hid (∀ j (h : j < fs.length), hi ≤ j → Z ≤ fk fs[j]) := hhigh
    clear hlow hhigh
    by_cases hlt : lo < hi
    · obtain ⟨m, hm⟩ : ∃ m, (lo + hi) / 2 = m := ⟨_, rfl⟩
      have hm1 : lo ≤ m ∧ m < hi := by omega
      have hmi : ((lo : Int) + (hi : Int)) / 2 = (m : Int) := by omega
      have hmx : m < fs.length := by rw [HX.out]; omega
      obtain ⟨b, o, hq, hc⟩ := (HFX.out.below hb).cells (fun e => by rw [e] at hmx; simp at hmx)
      subst hq
      obtain ⟨c0, c1, c2, c3, c4, c5⟩ := hc m hmx
      have hcl := HCM.out wr hb m hmx
      have hcm := cmpI_lt (fk fs[m]) Z
      have HUP : Hid (fk fs[m] < Z → ∀ j (h : j < fs.length), j < m + 1 → fk fs[j] < Z) := fun e j hj hjm => by
        by_cases e' : j = m
        · subst e'; exact e
        · have := HLT.out j m hj hmx (by omega)
          omega
      have HDN : Hid (¬ fk fs[m] < Z → ∀ j (h : j < fs.length), m ≤ j → Z ≤ fk fs[j]) := fun e j hj hjm => by
        by_cases e' : j = m
        · subst e'; omega
        · have := HLT.out m j hmx hj (by omega)
          omega
      generalize fk fs[m] = ZM at hcl hcm HUP HDN
      generalize Lib.compareInt ZM Z = C at hcl hcm
      unfold flV at hcl
      generalize fs[m] = f at c0 c1 c2 c3 c4 c5 hcl
      obtain ⟨fp, fq, fn, flo, fhi, fseq⟩ := f
      dsimp only at c0 c1 c2 c3 c4 c5 hcl
      have i0 : (m : Int) < (L : Int) := by omega
      have i1 : (0 : Int) ≤ (m : Int) := by omega
      have i2 : (lo : Int) < (hi : Int) := by omega
      clear hc hmx
      by_cases hz : ZM < Z
      · have hC : C < 0 := hcm.2 hz
        have HU : Hid (∀ j (h : j < fs.length), j < m + 1 → fk fs[j] < Z) := HUP.out hz
        clear HUP HDN hcm
        go_wp2_with (go_at_fn 30; refine hcl.mono ?_; rintro e w2 ⟨rfl, hb2⟩)
        have hb3 : Below w.heap.size w w2 := hb.trans (hb2.mono hb.size)
        go_roundw
        case rel => exact ⟨m + 1, hi, by first | go_num | (rw [hmi]; go_num), rfl, by omega, hhL, HU.out, HHI.out, hb3⟩
        case measure => simp [intOf]; omega
      · have hC : ¬ C < 0 := fun e => hz (hcm.1 e)
        have HD : Hid (∀ j (h : j < fs.length), m ≤ j → Z ≤ fk fs[j]) := HDN.out hz
        clear HUP HDN hcm
        go_wp2_with (go_at_fn 30; refine hcl.mono ?_; rintro e w2 ⟨rfl, hb2⟩)
        have hb3 : Below w.heap.size w w2 := hb.trans (hb2.mono hb.size)
        go_roundw
        case rel => exact ⟨lo, m, rfl, by first | go_num | rw [hmi], by omega, by omega, HLO.out, HD.out, hb3⟩
        case measure => simp [intOf]; omega
    · obtain rfl : hi = lo := by omega
      have i2 : ¬ (hi : Int) < (hi : Int) := by omega
      by_cases hn : hi < L
      · have hmx : hi < fs.length := by rw [HX.out]; exact hn
        obtain ⟨b, o, hq, hc⟩ := (HFX.out.below hb).cells (fun e => by rw [e] at hmx; simp at hmx)
        subst hq
        obtain ⟨c0, c1, c2, c3, c4, c5⟩ := hc hi hmx
        have hcl := HCM.out wr hb hi hmx
        have hcm := cmpI_zero (fk fs[hi]) Z
        have HPA : Hid (∀ t : Bool, (t = true ↔ fk fs[hi] = Z) → PlaceAt fs Z hi t) := fun t ht => ⟨by rw [HX.out]; omega, HLO.out, HHI.out, ht.trans ⟨fun e => ⟨hmx, e⟩, fun ⟨_, e⟩ => e⟩⟩
        generalize fk fs[hi] = ZM at hcl hcm HPA
        generalize Lib.compareInt ZM Z = C at hcl hcm
        unfold flV at hcl
        generalize fs[hi] = f at c0 c1 c2 c3 c4 c5 hcl
        obtain ⟨fp, fq, fn, flo, fhi, fseq⟩ := f
        dsimp only at c0 c1 c2 c3 c4 c5 hcl
        have i0 : (hi : Int) < (L : Int) := by omega
        have i1 : (0 : Int) ≤ (hi : Int) := by omega
        clear hc hmx
        by_cases hz : C = 0
        · subst hz
          have HPT : Hid (PlaceAt fs Z hi true) := HPA.out true ⟨fun _ => hcm.1 rfl, fun _ => rfl⟩
          clear HPA hcm
          go_wp2_with (go_at_fn 30; refine hcl.mono ?_; rintro e w2 ⟨rfl, hb2⟩)
          go_ret2
          exact ⟨hi, true, rfl, HPT.out, hb.trans (hb2.mono hb.size)⟩
        · have hC : (C == 0) = false := beq_eq_false_iff_ne.2 hz
          have HPT : Hid (PlaceAt fs Z hi false) := HPA.out false ⟨fun e => (nomatch e), fun e => absurd (hcm.2 e) hz⟩
          clear HPA hcm
          go_wp2_with (go_at_fn 30; refine hcl.mono ?_; rintro e w2 ⟨rfl, hb2⟩)
          go_ret2
          exact ⟨hi, false, rfl, HPT.out, hb.trans (hb2.mono hb.size)⟩
      · obtain rfl : hi = L := by omega
        have HPT : Hid (PlaceAt fs Z hi false) := ⟨by rw [HX.out]; exact Nat.le_refl _, HLO.out, HHI.out, ⟨fun e => (nomatch e), fun ⟨h', _⟩ => by rw [HX.out] at h'; omega⟩⟩
        go_wp2
        go_ret2
        exact ⟨hi, false, rfl, HPT.out, hb⟩

set_option maxRecDepth 100000 in
set_option maxHeartbeats 1000000 in
theorem place_any (v : Value) (fs : List Fl) (p : ByteArray) (w : World) (a : Nat → Addr) (h : EnvN w a) (hx : FlsAt w v fs) (hl : fs.length ≤ 20000) (hr : fs.Pairwise fun f g => fk f < fk g) (hsz : ∀ g ∈ fs, g.1.size ≤ 100000 ∧ pathO g.1.data.toList ≠ none) (hp : p.size ≤ 100000) (hpo : pathO p.data.toList ≠ none) :
    Calls Tryd.prog 17 #[v, .string p] w (PlacePost fs (pk p.data.toList) w) := by
  have hse := searchF_any v fs p w a h hx hl hr hsz hp hpo
  obtain ⟨q, cap, rfl⟩ := hx.form
  generalize fs.length = L at hse ⊢
  clear hx hl hr hsz hp hpo h
  go_enter Tryd.func17, Tryd.ntmps17
  go_wp2_with fail
  refine hse.mono ?_
  rintro e w1 ⟨n, t, rfl, hpa, hb1⟩
  have HPA : Hid (PlaceAt fs (pk p.data.toList) n t) := hpa
  clear hse hpa
  go_wp2
  go_ret2
  exact ⟨n, t, rfl, HPA.out, hb1⟩
end Go.Proofs.YtpkoefpdpoikkaaDoor
