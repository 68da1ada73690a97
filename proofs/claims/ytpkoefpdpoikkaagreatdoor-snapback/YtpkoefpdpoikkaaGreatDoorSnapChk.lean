/-
  The contracts of snap.upTo, numbersRight, opRight and Check.
-/
import Derived.Test.YtpkoefpdpoikkaaGreatDoorListOrd
namespace Go.Proofs.YtpkoefpdpoikkaaGreatDoor
open Go.RowKit Go.Extern.Stop Go.Stop Go.Extern Go.Sort Go.Shelf Go.Lib

theorem beh_ahead {fs : List Fl} {n : Nat} (hn : n < fs.length) (he : fileE fs[n] = 0) : behE (fs.take n) fs[n] = if fk fs[n] ≤ ahead fs n then 9 else 0 := by
  unfold behE
  cases n with
  | zero =>
    have := fk_pos he
    rw [if_neg (by simp), if_neg]
    show ¬ fk fs[0] ≤ 0
    omega
  | succ m =>
    have hm : m < fs.length := by omega
    have hl : (fs.take (m + 1)).length = m + 1 := by rw [List.length_take]; omega
    rw [last_of (fs.take (m + 1)) m zeroF hl (by omega), ahead_succ hm, List.getElem_take]
    have hne : fs.take (m + 1) ≠ [] := fun e => by rw [e] at hl; simp at hl
    simp [hne]

set_option maxRecDepth 100000 in
set_option maxHeartbeats 8000000 in
theorem lcheck_any (v : Value) (fs : List Fl) (w : World) (a : Nat → Addr) (h : EnvL w a) (hx : FlsAt w v fs) (hl : fs.length ≤ 100) (hsz : Short fs) :
    Calls Tryz.prog 32 #[v] w fun e w' => ∃ ev, e = .returned ev ∧ ToldE w' a ev (listE fs) ∧ Below w.heap.size w w' := by
  obtain ⟨q, cap, rfl⟩ := hx.form
  have HFX : Hid (FlsAt w (.slice q fs.length cap) fs) := hx
  have HSZ : Hid (Short fs) := hsz
  have HEN : Hid (∀ W, Below w.heap.size w W → EnvL W a) := fun W hb => h.below hb
  obtain ⟨L, hL⟩ : ∃ L, fs.length = L := ⟨_, rfl⟩
  have HX : Hid (fs.length = L) := hL
  rw [hL] at hl ⊢
  generalize hR : listE fs = R
  have HR : Hid (listE fs = R) := hR
  clear hL hx hsz hR
  by_cases hbig : 60 < L
  · have hRR : R = (8, none) := by rw [← HR.out]; unfold listE; rw [if_pos (by rw [HX.out]; exact hbig)]
    subst hRR
    have hi : (60 : Int) < (L : Int) := by omega
    have hf := h.full
    go_enter Tryz.func32, Tryz.ntmps32
    go_wp2
    go_ret
    exact ⟨_, rfl, rfl, Below.refl _ _⟩
  · have HRR : Hid (R = lstG 0 fs 0) := by
      show _ = _
      rw [← HR.out]; unfold listE; rw [if_neg (by rw [HX.out]; exact hbig)]
    have hi : ¬ (60 : Int) < (L : Int) := by omega
    clear HR
    go_enter Tryz.func32, Tryz.ntmps32
    go_wp2
    go_loopw [12] (fun k wr => ∃ n : Nat, n ≤ L ∧ k = .int .i64 n ∧ LeftG fs n ∧ (∀ j (h : j < fs.length), j < n → fileE fs[j] = 0) ∧ Below w.heap.size w wr) (fun k _ => L - (intOf k).toNat)
    case atStart => exact ⟨0, by omega, rfl, left_zero fs, fun j h h' => absurd h' (Nat.not_lt_zero _), Below.refl _ _⟩
    case round =>
      obtain ⟨n, hn, rfl, hlg, hall, hb⟩ := hrel
      have HLG : Hid (LeftG fs n) := hlg
      have HAL : Hid (∀ j (h : j < fs.length), j < n → fileE fs[j] = 0) := hall
      clear hlg hall
      by_cases hlt : n < L
      · have hltx : n < fs.length := by rw [HX.out]; exact hlt
        have hcap : n ≤ cap ∧ L ≤ cap := by
          have := HFX.out.room.2 (fun e => by rw [e] at hltx; simp at hltx)
          rw [HX.out] at this
          omega
        obtain ⟨b, o, hq, hc⟩ := (HFX.out.below hb).cells (fun e => by rw [e] at hltx; simp at hltx)
        subst hq
        have HC : Hid (FlCells wr b o fs) := hc
        obtain ⟨c0, c1, c2, c3, c4, c5⟩ := hc n hltx
        obtain ⟨k1, k2⟩ := HSZ.out fs[n] (List.getElem_mem _)
        have hck := fun W (hW : EnvL W a) => fcheck_any fs[n] W a hW.file (by omega) (by omega)
        have hbad := fun e => left_bad HLG.out hltx e
        have hord := fun e o => left_order HLG.out hltx e o
        have hnxt := fun e o => left_succ HLG.out hltx e o
        have hbeh : fileE fs[n] = 0 → ∀ W, Below wr.heap.size wr W → Calls Tryz.prog 94 #[.slice (some ⟨b, o, none⟩) n cap, flV fs[n]] W fun e w' => e = .returned (errV a (if fk fs[n] ≤ ahead fs n then 9 else 0)) ∧ Below W.heap.size W w' := fun he W hW => by
          have h' := behind_any (.slice (some ⟨b, o, none⟩) n cap) (fs.take n) fs[n] W a (HEN.out W (hb.trans (hW.mono hb.size))) (flsAt_take (HC.out.below hW) (Nat.le_of_lt hltx) (by rw [HX.out]; exact hcap.2)) (by rw [List.length_take]; omega) (fun g hg => by
            obtain ⟨j, hj, rfl⟩ := List.mem_iff_getElem.1 hg
            rw [List.length_take] at hj
            rw [List.getElem_take]
            exact ⟨by have := (HSZ.out fs[j] (List.getElem_mem _)).1; omega, ok_path (HAL.out j (by omega) (by omega))⟩) (by omega) (ok_path he)
          rw [beh_ahead hltx he] at h'
          exact h'
        have HAN : Hid (fileE fs[n] = 0 → ∀ j (h : j < fs.length), j < n + 1 → fileE fs[j] = 0) := fun he j hj hjn => by
          by_cases e : j = n
          · subst e; exact he
          · exact HAL.out j hj (by omega)
        unfold flV at hck hbeh
        generalize fileE fs[n] = E at hck hbad hord hnxt hbeh HAN
        generalize fk fs[n] = Z at hord hnxt hbeh
        generalize ahead fs n = Y at hord hnxt hbeh
        generalize fs[n] = f at c0 c1 c2 c3 c4 c5 hck hbeh k1 k2
        have hfb := boxW_at wr f
        have hbb := boxW_below wr f
        unfold boxW at hfb hbb
        obtain ⟨fp, fq, fn, flo, fhi, fseq⟩ := f
        dsimp only at c0 c1 c2 c3 c4 c5 hck hbeh k1 k2 hfb hbb
        have hiL : (n : Int) < (L : Int) := by omega
        have hi0' : (0 : Int) ≤ (n : Int) := by omega
        have hic : (n : Int) ≤ (cap : Int) := by omega
        clear hc hltx HC
        go_upto_region 6 with fail
        clear c0 c1 c2 c3 c4 c5
        generalize wr.alloc (.cells #[.string fp, .string fq, .int .i64 fn, .int .i64 flo, .int .i64 fhi, .int .i64 fseq] 23) = W5 at hfb hbb ⊢
        have hB5 : Below w.heap.size w W5 := hb.trans (hbb.mono hb.size)
        obtain ⟨z0, z1, z2, z3, z4, z5, -⟩ := hfb.cells
        dsimp only at z0 z1 z2 z3 z4 z5
        have hck5 := hck W5 (HEN.out W5 hB5)
        clear hck
        go_wp2_with fail
        refine hck5.mono ?_
        rintro e w6 ⟨rfl, hb6⟩
        clear hck5 z0 z1 z2 z3 z4 z5
        have hB6 : Below w.heap.size w w6 := hB5.trans (hb6.mono hB5.size)
        have hw6 : Below wr.heap.size wr w6 := hbb.trans (hb6.mono hbb.size)
        by_cases hE : E = 0
        · subst hE
          replace hord := hord rfl
          replace hnxt := hnxt rfl
          have hbe := hbeh rfl
          have HA1 : Hid (∀ j (h : j < fs.length), j < n + 1 → fileE fs[j] = 0) := HAN.out rfl
          obtain ⟨z0, z1, z2, z3, z4, z5, -⟩ := (hfb.below hb6).cells
          dsimp only at z0 z1 z2 z3 z4 z5
          clear hbad hbeh HAN hfb hbb hb6 hB5
          by_cases ho : Z ≤ Y
          · rw [if_pos ho] at hbe
            have HRE : Hid (R = (9, some n)) := by rw [HRR.out]; exact hord ho
            have HBE : Hid (∀ W, Below wr.heap.size wr W → Calls Tryz.prog 94 #[.slice (some ⟨b, o, none⟩) n cap, .agg #[.string fp, .string fq, .int .i64 fn, .int .i64 flo, .int .i64 fhi, .int .i64 fseq]] W fun e w' => e = .returned (errV a 9) ∧ Below W.heap.size W w') := hbe
            clear hbe hord hnxt
            simp only [errV]
            go_upto_region 8 with fail
            go_region_held3 (fun w' => w'.cell? ⟨wr.heap.size, 0, none⟩ = some (.string fp) ∧ w'.cell? ⟨wr.heap.size, 1, none⟩ = some (.string fq) ∧ w'.cell? ⟨wr.heap.size, 2, none⟩ = some (.int .i64 fn) ∧ w'.cell? ⟨wr.heap.size, 3, none⟩ = some (.int .i64 flo) ∧ w'.cell? ⟨wr.heap.size, 4, none⟩ = some (.int .i64 fhi) ∧ w'.cell? ⟨wr.heap.size, 5, none⟩ = some (.int .i64 fseq) ∧ Below wr.heap.size wr w')
              (first
                | (go_split_ands; with_reducible exact ⟨below_keep hbX (by assumption), below_keep hbX (by assumption), below_keep hbX (by assumption), below_keep hbX (by assumption), below_keep hbX (by assumption), below_keep hbX (by assumption), Below.trans (by assumption) (hbX.mono (Below.size (by assumption)))⟩)
                | (go_split_ands; exact ⟨by go_keep, by go_keep, by go_keep, by go_keep, by go_keep, by go_keep, by assumption⟩)
                | (go_split_ands; exact ⟨by go_keep, by go_keep, by go_keep, by go_keep, by go_keep, by go_keep, Below.drew (by assumption)⟩))
              (first
                | (go_at_call 94; with_reducible refine (HBE.out _ (by go_split_ands; assumption)).mono ?_; rintro e wX ⟨rfl, hbX⟩))
            go_split_ands
            have hX : Below wr.heap.size wr wX := by assumption
            have hBX : Below w.heap.size w wX := hb.trans (hX.mono hb.size)
            try simp only [errV]
            have hal : Below wX.heap.size wX (wX.alloc (.cells #[.int .i64 n, .iface 289 (.pointer (some (a 8)))] 110)) := (Below.refl _ _).alloc (Nat.le_refl _) _
            go_wp2
            go_ret
            refine ⟨_, rfl, ?_, hBX.trans (hal.mono hBX.size)⟩
            rw [HRE.out]
            exact ⟨by simp, wX.heap.size, rfl, by simp, by simp [errV]⟩
          · rw [if_neg ho] at hbe
            have HNX : Hid (LeftG fs (n + 1)) := hnxt (by omega)
            have HBE : Hid (∀ W, Below wr.heap.size wr W → Calls Tryz.prog 94 #[.slice (some ⟨b, o, none⟩) n cap, .agg #[.string fp, .string fq, .int .i64 fn, .int .i64 flo, .int .i64 fhi, .int .i64 fseq]] W fun e w' => e = .returned (errV a 0) ∧ Below W.heap.size W w') := hbe
            clear hbe hord hnxt
            simp only [errV]
            go_upto_region 8 with fail
            go_region_held3 (fun w' => w'.cell? ⟨wr.heap.size, 0, none⟩ = some (.string fp) ∧ w'.cell? ⟨wr.heap.size, 1, none⟩ = some (.string fq) ∧ w'.cell? ⟨wr.heap.size, 2, none⟩ = some (.int .i64 fn) ∧ w'.cell? ⟨wr.heap.size, 3, none⟩ = some (.int .i64 flo) ∧ w'.cell? ⟨wr.heap.size, 4, none⟩ = some (.int .i64 fhi) ∧ w'.cell? ⟨wr.heap.size, 5, none⟩ = some (.int .i64 fseq) ∧ Below wr.heap.size wr w')
              (first
                | (go_split_ands; with_reducible exact ⟨below_keep hbX (by assumption), below_keep hbX (by assumption), below_keep hbX (by assumption), below_keep hbX (by assumption), below_keep hbX (by assumption), below_keep hbX (by assumption), Below.trans (by assumption) (hbX.mono (Below.size (by assumption)))⟩)
                | (go_split_ands; exact ⟨by go_keep, by go_keep, by go_keep, by go_keep, by go_keep, by go_keep, by assumption⟩)
                | (go_split_ands; exact ⟨by go_keep, by go_keep, by go_keep, by go_keep, by go_keep, by go_keep, Below.drew (by assumption)⟩))
              (first
                | (go_at_call 94; with_reducible refine (HBE.out _ (by go_split_ands; assumption)).mono ?_; rintro e wX ⟨rfl, hbX⟩))
            go_split_ands
            have hX : Below wr.heap.size wr wX := by assumption
            have hBX : Below w.heap.size w wX := hb.trans (hX.mono hb.size)
            try simp only [errV]
            go_wp2
            go_roundw
            case rel => exact ⟨n + 1, by omega, by go_num, HNX.out, HA1.out, hBX⟩
            case measure => simp [intOf]; omega
        · obtain ⟨j, rfl⟩ : ∃ j, E = j + 1 := ⟨E - 1, by omega⟩
          have HRE : Hid (R = (j + 1, some n)) := by rw [HRR.out]; exact hbad hE
          simp only [errV]
          clear hbad hord hnxt hbeh HAN hfb hbb hb6 hB5 hw6
          have hal : Below w6.heap.size w6 (w6.alloc (.cells #[.int .i64 n, .iface 289 (.pointer (some (a j)))] 110)) := (Below.refl _ _).alloc (Nat.le_refl _) _
          go_wp2
          go_ret
          refine ⟨_, rfl, ?_, hB6.trans (hal.mono hB6.size)⟩
          rw [HRE.out]
          exact ⟨by simp, w6.heap.size, rfl, by simp, by simp [errV]⟩
      · obtain rfl : n = L := by omega
        have HRE : Hid (R = (0, none)) := by
          show _ = _
          rw [HRR.out]
          have h' := HLG.out
          rw [← HX.out] at h'
          exact left_all h'
        go_wp2
        go_ret
        refine ⟨_, rfl, ?_, hb⟩
        rw [HRE.out]
        rfl
end Go.Proofs.YtpkoefpdpoikkaaGreatDoor
namespace Go.Proofs.YtpkoefpdpoikkaaGreatDoor
open Go.RowKit Go.Extern.Stop Go.Stop Go.Extern Go.Sort Go.Shelf Go.Lib

def upB (n m : Int) : Bool := decide (0 ≤ n) && decide (n ≤ m)

theorem upTo_any (n m : Int) (w : World) : Calls Tryz.prog 145 #[.int .i64 n, .int .i64 m] w fun e w' => e = .returned (.bool (upB n m)) ∧ w' = w := by
  by_cases h1 : 0 ≤ n
  · by_cases h2 : n ≤ m
    · have hr : upB n m = true := by simp [upB, h1, h2]
      rw [hr]
      go_enter Tryz.func145, Tryz.ntmps145
      go_wp2
      go_ret
      exact ⟨rfl, rfl⟩
    · have hr : upB n m = false := by simp [upB, h2]
      rw [hr]
      go_enter Tryz.func145, Tryz.ntmps145
      go_wp2
      go_ret
      exact ⟨rfl, rfl⟩
  · have hr : upB n m = false := by simp [upB, h1]
    rw [hr]
    go_enter Tryz.func145, Tryz.ntmps145
    go_wp2
    go_ret
    exact ⟨rfl, rfl⟩

theorem sbnd_up (s : Sn) : sbndB s = (decide (1 ≤ s.1) && (decide (s.1 ≤ 1073741824) && (decide (0 ≤ s.2.1) && (decide (s.2.1 < s.1) && (upB s.2.2.1 1073741824 && (upB s.2.2.2.1 100000 && upB s.2.2.2.2.1 1073741824)))))) := by
  unfold sbndB upB
  simp only [Bool.and_assoc]

set_option maxRecDepth 100000 in
set_option maxHeartbeats 4000000 in
theorem numbersRight_any (s : Sn) (vf : Value) (w : World) :
    Calls Tryz.prog 108 #[snV s vf] w fun e w' => e = .returned (.bool (sbndB s)) ∧ Below w.heap.size w w' := by
  have hsb := sbnd_up s
  generalize sbndB s = SB at hsb ⊢
  obtain ⟨id, par, seq, day, idx, op, fs⟩ := s
  unfold snV
  dsimp only at hsb ⊢
  have hal : Below w.heap.size w (w.alloc (.cells #[.int .i64 id, .int .i64 par, .int .i64 seq, .int .i64 day, .int .i64 idx, .string op, vf] 74)) := (Below.refl _ _).alloc (Nat.le_refl _) _
  have h5 := fun W => upTo_any seq 1073741824 W
  have h6 := fun W => upTo_any day 100000 W
  have h7 := fun W => upTo_any idx 1073741824 W
  by_cases c0 : 1 ≤ id
  case neg =>
    obtain rfl : SB = false := by rw [hsb]; simp [c0]
    clear hsb h5 h6 h7
    go_enter Tryz.func108, Tryz.ntmps108
    go_wp2
    go_ret
    exact ⟨rfl, hal⟩
  by_cases c1 : id ≤ 1073741824
  case neg =>
    obtain rfl : SB = false := by rw [hsb]; simp [c1]
    clear hsb h5 h6 h7
    go_enter Tryz.func108, Tryz.ntmps108
    go_wp2
    go_ret
    exact ⟨rfl, hal⟩
  by_cases c2 : 0 ≤ par
  case neg =>
    obtain rfl : SB = false := by rw [hsb]; simp [c2]
    clear hsb h5 h6 h7
    go_enter Tryz.func108, Tryz.ntmps108
    go_wp2
    go_ret
    exact ⟨rfl, hal⟩
  by_cases c3 : par < id
  case neg =>
    obtain rfl : SB = false := by rw [hsb]; simp [c3]
    clear hsb h5 h6 h7
    go_enter Tryz.func108, Tryz.ntmps108
    go_wp2
    go_ret
    exact ⟨rfl, hal⟩
  cases u0 : upB seq 1073741824
  case false =>
    obtain rfl : SB = false := by rw [hsb]; simp [u0]
    rw [u0] at h5
    clear hsb
    go_enter Tryz.func108, Tryz.ntmps108
    go_wp2_with (go_at_call 145; first | (with_reducible refine (h5 _).mono ?_; rintro e w1 ⟨rfl, rfl⟩))
    go_ret
    exact ⟨rfl, hal⟩
  rw [u0] at h5
  cases u1 : upB day 100000
  case false =>
    obtain rfl : SB = false := by rw [hsb]; simp [u1]
    rw [u1] at h6
    clear hsb
    go_enter Tryz.func108, Tryz.ntmps108
    go_wp2_with (go_at_call 145; first | (with_reducible refine (h5 _).mono ?_; rintro e w1 ⟨rfl, rfl⟩) | (with_reducible refine (h6 _).mono ?_; rintro e w1 ⟨rfl, rfl⟩))
    go_ret
    exact ⟨rfl, hal⟩
  rw [u1] at h6
  cases u2 : upB idx 1073741824
  case false =>
    obtain rfl : SB = false := by rw [hsb]; simp [u2]
    rw [u2] at h7
    clear hsb
    go_enter Tryz.func108, Tryz.ntmps108
    go_wp2_with (go_at_call 145; first | (with_reducible refine (h5 _).mono ?_; rintro e w1 ⟨rfl, rfl⟩) | (with_reducible refine (h6 _).mono ?_; rintro e w1 ⟨rfl, rfl⟩) | (with_reducible refine (h7 _).mono ?_; rintro e w1 ⟨rfl, rfl⟩))
    go_ret
    exact ⟨rfl, hal⟩
  rw [u2] at h7
  obtain rfl : SB = true := by rw [hsb]; simp [c0, c1, c2, c3, u0, u1, u2]
  clear hsb
  go_enter Tryz.func108, Tryz.ntmps108
  go_wp2_with (go_at_call 145; first | (with_reducible refine (h5 _).mono ?_; rintro e w1 ⟨rfl, rfl⟩) | (with_reducible refine (h6 _).mono ?_; rintro e w1 ⟨rfl, rfl⟩) | (with_reducible refine (h7 _).mono ?_; rintro e w1 ⟨rfl, rfl⟩))
  go_ret
  exact ⟨rfl, hal⟩

set_option maxRecDepth 100000 in
set_option maxHeartbeats 2000000 in
theorem opRight_any (op : ByteArray) (w : World) :
    Calls Tryz.prog 109 #[.string op] w fun e w' => e = .returned (.bool (opB op.data.toList)) ∧ w' = w := by
  by_cases e0 : op.data.toList = kStart
  · have hr : opB op.data.toList = true := by simp [opB, e0]
    rw [hr]
    have d0 := eqB_of e0
    simp only [kStart] at d0
    clear hr e0
    go_enter Tryz.func109, Tryz.ntmps109
    go_wp2
    go_ret
    exact ⟨rfl, rfl⟩
  have d0 := neB_of e0
  simp only [kStart] at d0
  by_cases e1 : op.data.toList = kAppend
  · have hr : opB op.data.toList = true := by simp [opB, e1]
    rw [hr]
    have d1 := eqB_of e1
    simp only [kAppend] at d1
    clear hr e1
    go_enter Tryz.func109, Tryz.ntmps109
    go_wp2
    go_ret
    exact ⟨rfl, rfl⟩
  have d1 := neB_of e1
  simp only [kAppend] at d1
  by_cases e2 : op.data.toList = kDelete
  · have hr : opB op.data.toList = true := by simp [opB, e2]
    rw [hr]
    have d2 := eqB_of e2
    simp only [kDelete] at d2
    clear hr e2
    go_enter Tryz.func109, Tryz.ntmps109
    go_wp2
    go_ret
    exact ⟨rfl, rfl⟩
  have d2 := neB_of e2
  simp only [kDelete] at d2
  by_cases e3 : op.data.toList = kRewrite
  · have hr : opB op.data.toList = true := by simp [opB, e3]
    rw [hr]
    have d3 := eqB_of e3
    simp only [kRewrite] at d3
    clear hr e3
    go_enter Tryz.func109, Tryz.ntmps109
    go_wp2
    go_ret
    exact ⟨rfl, rfl⟩
  have d3 := neB_of e3
  simp only [kRewrite] at d3
  have hr : opB op.data.toList = false := by simp [opB, e0, e1, e2, e3]
  rw [hr]
  clear hr e0 e1 e2 e3
  go_enter Tryz.func109, Tryz.ntmps109
  go_wp2
  go_ret
  exact ⟨rfl, rfl⟩

set_option maxRecDepth 100000 in
set_option maxHeartbeats 8000000 in
theorem scheck_any (s : Sn) (vf : Value) (w : World) (a : Nat → Addr) (h : EnvL w a) (hx : FlsAt w vf s.2.2.2.2.2.2) (hl : s.2.2.2.2.2.2.length ≤ 100) (hsz : Short s.2.2.2.2.2.2) :
    Calls Tryz.prog 52 #[snV s vf] w fun e w' => ∃ ev, e = .returned ev ∧ ToldE w' a ev (snapE s) ∧ Below w.heap.size w w' := by
  have hrs := @snapE_rest s
  have hub : sbndB s = false → snapE s = (2, none) := fun e => by unfold snapE; rw [if_pos e]
  have hnr := fun W => numbersRight_any s vf W
  have hop := fun W => opRight_any s.2.2.2.2.2.1 W
  have hlc := fun W (hb : Below w.heap.size w W) => lcheck_any vf s.2.2.2.2.2.2 W a (h.below hb) (hx.below hb) hl hsz
  have HEN : Hid (∀ W, Below w.heap.size w W → EnvL W a) := fun W hb => h.below hb
  have HXX : Hid (FlsAt w vf s.2.2.2.2.2.2) := hx
  obtain ⟨id, par, seq, day, idx, op, fs⟩ := s
  unfold snV at hnr ⊢
  dsimp only at hrs hub hnr hop hlc HXX hl ⊢
  generalize hR : snapE (id, par, seq, day, idx, op, fs) = R at hrs hub ⊢
  generalize hSB : sbndB (id, par, seq, day, idx, op, fs) = SB at hrs hub hnr
  generalize hOB : opB op.data.toList = OB at hrs hop
  generalize hLE : listE fs = LE at hrs hlc
  clear hR hSB hOB hLE hx hsz h
  have hal : Below w.heap.size w (w.alloc (.cells #[.int .i64 id, .int .i64 par, .int .i64 seq, .int .i64 day, .int .i64 idx, .string op, vf] 74)) := (Below.refl _ _).alloc (Nat.le_refl _) _
  have hsn : SnAt (w.alloc (.cells #[.int .i64 id, .int .i64 par, .int .i64 seq, .int .i64 day, .int .i64 idx, .string op, vf] 74)) w.heap.size (id, par, seq, day, idx, op, fs) vf := SnAt.new w (id, par, seq, day, idx, op, fs) vf
  have hnr1 := hnr (w.alloc (.cells #[.int .i64 id, .int .i64 par, .int .i64 seq, .int .i64 day, .int .i64 idx, .string op, vf] 74))
  go_enter Tryz.func52, Tryz.ntmps52
  go_wp2_with fail
  generalize w.alloc (.cells #[.int .i64 id, .int .i64 par, .int .i64 seq, .int .i64 day, .int .i64 idx, .string op, vf] 74) = WA at hal hsn hnr1 ⊢
  refine hnr1.mono ?_
  rintro e w1 ⟨rfl, hb1⟩
  clear hnr hnr1
  have hB1 : Below w.heap.size w w1 := hal.trans (hb1.mono hal.size)
  have hsn1 := hsn.below hb1
  clear hsn hb1 hal
  cases SB
  case false =>
    obtain rfl := hub rfl
    have et := (HEN.out w1 hB1).file.env.bound
    clear hub hrs hop hlc
    go_wp2
    go_ret
    exact ⟨_, rfl, rfl, hB1⟩
  case true =>
  clear hub
  replace hrs := hrs rfl
  have z5 := hsn1.cells.2.2.2.2.2.1
  dsimp only at z5
  have hop1 := hop w1
  clear hop
  go_wp2_with fail
  refine hop1.mono ?_
  rintro e w2 ⟨rfl, rfl⟩
  clear hop1 z5
  cases OB
  case false =>
    obtain rfl := hrs.1 rfl
    have et := (HEN.out w2 hB1).file.kind
    clear hrs hlc
    go_wp2
    go_ret
    exact ⟨_, rfl, rfl, hB1⟩
  case true =>
  obtain ⟨hl1, hl2⟩ := hrs.2 rfl
  clear hrs
  have z6 := hsn1.cells.2.2.2.2.2.2
  have hlc1 := hlc w2 hB1
  clear hlc
  obtain ⟨qf, cf, hvf⟩ := HXX.out.form
  subst hvf
  obtain ⟨L, hL⟩ : ∃ L, fs.length = L := ⟨_, rfl⟩
  have HL : Hid (fs.length = L) := hL
  rw [hL] at hlc1 z6 hl hsn1
  clear hL
  go_wp2_with fail
  refine hlc1.mono ?_
  rintro e w3 ⟨ev, rfl, ht, hb3⟩
  clear hlc1 z6
  have hB3 : Below w.heap.size w w3 := hB1.trans (hb3.mono hB1.size)
  have hsn3 := hsn1.below hb3
  clear hsn1 hb3 hB1
  by_cases hE : LE.1 = 0
  case neg =>
    obtain rfl := hl1 hE
    obtain ⟨t, u, rfl⟩ := ht.bad hE
    have HT : Hid (ToldE w3 a (.iface t u) R) := ht
    clear ht hl1 hl2 hsn3
    go_wp2
    go_ret
    exact ⟨_, rfl, HT.out, hB3⟩
  case pos =>
  obtain rfl := ht.ok hE
  have HRE : Hid (R = seqG seq fs 0) := hl2 hE
  clear ht hl1 hl2 hE
  have z6 := hsn3.cells.2.2.2.2.2.2
  go_wp2
  go_loopw [24] (fun k wr => ∃ n : Nat, n ≤ L ∧ k = .int .i64 n ∧ SeqLeft seq fs n ∧ Below w.heap.size w wr ∧ SnAt wr w.heap.size (id, par, seq, day, idx, op, fs) (.slice qf L cf)) (fun k _ => L - (intOf k).toNat)
  case atStart => exact ⟨0, by omega, rfl, seqL_zero seq fs, hB3, hsn3⟩
  case round =>
    clear hB3 hsn3 z6
    obtain ⟨n, hn, rfl, hsl, hb, hsn⟩ := hrel
    have HSL : Hid (SeqLeft seq fs n) := hsl
    have HSN : Hid (SnAt wr w.heap.size (id, par, seq, day, idx, op, fs) (.slice qf L cf)) := hsn
    clear hsl hsn
    by_cases hlt : n < L
    · have hltx : n < fs.length := by rw [HL.out]; exact hlt
      obtain ⟨b, o, hq, hc⟩ := (HXX.out.below hb).cells (fun e => by rw [e] at hltx; simp at hltx)
      subst hq
      obtain ⟨c0, c1, c2, c3, c4, c5⟩ := hc n hltx
      have hbad := fun e => seqL_bad HSL.out hltx e
      have hnxt := fun e => seqL_succ HSL.out hltx e
      generalize fs[n] = f at c0 c1 c2 c3 c4 c5 hbad hnxt
      have hfb := boxW_at wr f
      have hbb := boxW_below wr f
      unfold boxW at hfb hbb
      obtain ⟨fp, fq, fn, flo, fhi, fseq⟩ := f
      dsimp only at c0 c1 c2 c3 c4 c5 hbad hnxt hfb hbb
      have hiL : (n : Int) < (L : Int) := by omega
      have hi0' : (0 : Int) ≤ (n : Int) := by omega
      clear hc hltx
      go_upto_region 11 with fail
      clear c0 c1 c2 c3 c4 c5
      generalize wr.alloc (.cells #[.string fp, .string fq, .int .i64 fn, .int .i64 flo, .int .i64 fhi, .int .i64 fseq] 23) = W5 at hfb hbb ⊢
      have hB5 : Below w.heap.size w W5 := hb.trans (hbb.mono hb.size)
      have hsn5 := HSN.out.below hbb
      have HS5 : Hid (SnAt W5 w.heap.size (id, par, seq, day, idx, op, fs) (.slice (some ⟨b, o, none⟩) L cf)) := hsn5
      have z5 := hfb.cells.2.2.2.2.2.1
      have y2 := hsn5.cells.2.2.1
      dsimp only at z5 y2
      clear hsn5 hfb hbb
      by_cases hz : seq < fseq
      · have HRR : Hid (R = (9, some n)) := by
          show _ = _
          rw [HRE.out]; exact hbad hz
        have et := (HEN.out W5 hB5).order
        have hal : Below W5.heap.size W5 (W5.alloc (.cells #[.int .i64 n, .iface 289 (.pointer (some (a 8)))] 110)) := (Below.refl _ _).alloc (Nat.le_refl _) _
        clear hbad hnxt
        go_wp2
        go_ret
        refine ⟨_, rfl, ?_, hB5.trans (hal.mono hB5.size)⟩
        rw [HRR.out]
        exact ⟨by simp, W5.heap.size, rfl, by simp, by simp [errV]⟩
      · have HNX : Hid (SeqLeft seq fs (n + 1)) := hnxt hz
        clear hbad hnxt
        go_wp2
        go_roundw
        case rel => exact ⟨n + 1, by omega, by go_num, HNX.out, hB5, HS5.out⟩
        case measure => simp [intOf]; omega
    · obtain rfl : n = L := by omega
      have HRR : Hid (R = (0, none)) := by
        show _ = _
        rw [HRE.out]
        have h' := HSL.out
        rw [← HL.out] at h'
        exact seqL_all h'
      go_wp2
      go_ret
      refine ⟨_, rfl, ?_, hb⟩
      rw [HRR.out]
      rfl
end Go.Proofs.YtpkoefpdpoikkaaGreatDoor
