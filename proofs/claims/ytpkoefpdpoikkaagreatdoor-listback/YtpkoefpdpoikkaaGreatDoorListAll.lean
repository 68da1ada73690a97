/-
  All that the statements ask of the program's functions on lists.
-/
import Derived.Test.YtpkoefpdpoikkaaGreatDoorListRd
import Derived.Test.YtpkoefpdpoikkaaGreatDoorListAdd
namespace Go.Proofs.YtpkoefpdpoikkaaGreatDoor
open Go.RowKit Go.Extern.Stop Go.Stop Go.Extern Go.Sort Go.Shelf Go.Lib

set_option maxRecDepth 100000 in
set_option maxHeartbeats 8000000 in
theorem prune_any (v : Value) (fs : List Fl) (lo hi : Int) (w : World) (hx : FlsAt w v fs) (hl : fs.length ≤ 20000) :
    Calls Tryz.prog 35 #[v, .int .i64 lo, .int .i64 hi] w fun e w' => ∃ v', e = .returned v' ∧ FlsAt w' v' (fs.filter (inP lo hi)) ∧ Below w.heap.size w w' := by
  obtain ⟨i0, hi0, hz0, hs0, hby0⟩ := Tryz.fileInfo
  obtain ⟨q, cap, rfl⟩ := hx.form
  have HFX : Hid (FlsAt w (.slice q fs.length cap) fs) := hx
  obtain ⟨L, hL⟩ : ∃ L, fs.length = L := ⟨_, rfl⟩
  have HX : Hid (fs.length = L) := hL
  rw [hL] at hl ⊢
  clear hL hx
  go_enter Tryz.func35, Tryz.ntmps35
  go_wp2
  go_loopw [7, 12] (fun out k wr => ∃ n : Nat, n ≤ L ∧ k = .int .i64 n ∧ Below w.heap.size w wr ∧ wr.ownsRow w.heap.size 23 6 out (kept (inP lo hi) fs n).length (flatF (kept (inP lo hi) fs n))) (fun _ k _ => L - (intOf k).toNat)
  case atStart => exact ⟨0, by omega, rfl, Below.refl _ _, by rw [kept_zero]; exact World.ownsRow_nil _ _ _ _⟩
  case round =>
    obtain ⟨n, hn, rfl, hb, hown⟩ := hrel
    have OW : Hid (wr.ownsRow w.heap.size 23 6 u7 (kept (inP lo hi) fs n).length (flatF (kept (inP lo hi) fs n))) := hown
    clear hown
    by_cases hlt : n < L
    · have hltx : n < fs.length := by rw [HX.out]; exact hlt
      obtain ⟨b, o, hq, hc⟩ := (HFX.out.below hb).cells (fun e => by rw [e] at hltx; simp at hltx)
      subst hq
      obtain ⟨c0, c1, c2, c3, c4, c5⟩ := hc n hltx
      have HKL : Hid ((kept (inP lo hi) fs n).length ≤ L) := by
        show _ ≤ _
        have := kept_len (inP lo hi) fs n
        omega
      have hke : (kept (inP lo hi) fs (n + 1)) = if (inP lo hi) fs[n] = true then (kept (inP lo hi) fs n) ++ [fs[n]] else (kept (inP lo hi) fs n) := kept_succ (inP lo hi) fs n hltx
      generalize fs[n] = f at c0 c1 c2 c3 c4 c5 hke
      have hfb := boxW_at wr f
      have hbb := boxW_below wr f
      unfold boxW at hfb hbb
      obtain ⟨fp, fq, fn, flo, fhi, fseq⟩ := f
      dsimp only at c0 c1 c2 c3 c4 c5 hfb hbb
      have hiL : (n : Int) < (L : Int) := by omega
      have hi0' : (0 : Int) ≤ (n : Int) := by omega
      clear hc hltx
      go_upto_region 5 with fail
      clear c0 c1 c2 c3 c4 c5
      generalize wr.alloc (.cells #[.string fp, .string fq, .int .i64 fn, .int .i64 flo, .int .i64 fhi, .int .i64 fseq] 23) = W5 at hfb hbb ⊢
      have hB5 : Below w.heap.size w W5 := hb.trans (hbb.mono hb.size)
      have OW5 : Hid (W5.ownsRow w.heap.size 23 6 u7 (kept (inP lo hi) fs n).length (flatF (kept (inP lo hi) fs n))) := own_below OW.out hbb
      obtain ⟨z0, z1, z2, z3, z4, z5, -⟩ := hfb.cells
      dsimp only at z0 z1 z2 z3 z4 z5
      have hal : Below W5.heap.size W5 (W5.alloc (.cells #[.string fp, .string fq, .int .i64 fn, .int .i64 flo, .int .i64 fhi, .int .i64 fseq] 23)) := (Below.refl _ _).alloc (Nat.le_refl _) _
      have hbA : Below w.heap.size w (W5.alloc (.cells #[.string fp, .string fq, .int .i64 fn, .int .i64 flo, .int .i64 fhi, .int .i64 fseq] 23)) := hB5.alloc hB5.size _
      clear hfb hbb OW
      have split8 : ((flo < lo ∧ hi < fhi ∧ lo ≤ hi) ∨ (flo < lo ∧ hi < fhi ∧ ¬ lo ≤ hi)) ∨ ((flo < lo ∧ ¬ hi < fhi ∧ lo ≤ fhi) ∨ (flo < lo ∧ ¬ hi < fhi ∧ ¬ lo ≤ fhi)) ∨ ((¬ flo < lo ∧ hi < fhi ∧ flo ≤ hi) ∨ (¬ flo < lo ∧ hi < fhi ∧ ¬ flo ≤ hi)) ∨ ((¬ flo < lo ∧ ¬ hi < fhi ∧ flo ≤ fhi) ∨ (¬ flo < lo ∧ ¬ hi < fhi ∧ ¬ flo ≤ fhi)) := by omega
      rcases split8 with (hs8 | hs8) | (hs8 | hs8) | (hs8 | hs8) | (hs8 | hs8) <;> obtain ⟨q1, q2, q3⟩ := hs8
      · have HKE : Hid ((kept (inP lo hi) fs (n + 1)) = (kept (inP lo hi) fs n) ++ [(fp, fq, fn, flo, fhi, fseq)]) := by
          show _ = _
          rw [hke, if_pos (by simp [inP, q1, q2, q3])]
        clear hke
        go_wp2_with (at_builtin; refine wpList_append_own _ rfl _ _ 50 rfl w.heap.size 23 i0 (.agg #[.string ⟨#[]⟩, .string ⟨#[]⟩, .int .i64 0, .int .i64 0, .int .i64 0, .int .i64 0]) 6 64 Tryz.underlying50 hi0 hz0 hs0 hby0 rfl (by decide) u7 (kept (inP lo hi) fs n).length (flatF (kept (inP lo hi) fs n)) rfl ?qc0 ⟨W5.heap.size, 0, none⟩ 1 1 (encF (fp, fq, fn, flo, fhi, fseq)) rfl ?qc1 ?qc2 ?qc3 ?qc4 ?qc5 ?qc6 ?_)
        case qc0 => exact own_below OW5.out hal
        case qc1 => rfl
        case qc2 => first | exact cells6 _ _ | exact fun j u hu => hu
        case qc3 => exact encF_one _
        case qc4 => have := HKL.out; unfold maxLen; omega
        case qc5 => have := HKL.out; omega
        case qc6 => first | exact hbA.size | (have := hB5.size; omega)
        intro v' w4 hown4 hgrow hnil
        have hbC : Below w.heap.size w w4 := hbA.grown hgrow hbA.size (fun k hk => by
          rcases OW5.out.2 with ⟨e, _⟩ | ⟨g', cap', cur, e, hg', _⟩
          · rw [e] at hk; simp [Value.ownBlock] at hk
          · rw [e] at hk; simp [Value.ownBlock] at hk; omega)
        have OW4 : Hid (w4.ownsRow w.heap.size 23 6 v' ((kept (inP lo hi) fs n).length + 1) (flatF (kept (inP lo hi) fs n) ++ encF (fp, fq, fn, flo, fhi, fseq))) := hown4
        clear hown4 hnil hgrow
        go_wp2
        go_roundw
        case rel => exact ⟨n + 1, by omega, by go_num, hbC, by rw [HKE.out, List.length_append, flatF_append]; simpa [flatF] using OW4.out⟩
        case measure => simp [intOf]; omega
      · have HKE : Hid ((kept (inP lo hi) fs (n + 1)) = (kept (inP lo hi) fs n)) := by
          show _ = _
          rw [hke, if_neg (by simp [inP, q1, q2, q3])]
        clear hke hal hbA
        go_wp2
        go_roundw
        case rel => exact ⟨n + 1, by omega, by go_num, hB5, by rw [HKE.out]; exact OW5.out⟩
        case measure => simp [intOf]; omega
      · have HKE : Hid ((kept (inP lo hi) fs (n + 1)) = (kept (inP lo hi) fs n) ++ [(fp, fq, fn, flo, fhi, fseq)]) := by
          show _ = _
          rw [hke, if_pos (by simp [inP, q1, q2, q3])]
        clear hke
        go_wp2_with (at_builtin; refine wpList_append_own _ rfl _ _ 50 rfl w.heap.size 23 i0 (.agg #[.string ⟨#[]⟩, .string ⟨#[]⟩, .int .i64 0, .int .i64 0, .int .i64 0, .int .i64 0]) 6 64 Tryz.underlying50 hi0 hz0 hs0 hby0 rfl (by decide) u7 (kept (inP lo hi) fs n).length (flatF (kept (inP lo hi) fs n)) rfl ?qc0 ⟨W5.heap.size, 0, none⟩ 1 1 (encF (fp, fq, fn, flo, fhi, fseq)) rfl ?qc1 ?qc2 ?qc3 ?qc4 ?qc5 ?qc6 ?_)
        case qc0 => exact own_below OW5.out hal
        case qc1 => rfl
        case qc2 => first | exact cells6 _ _ | exact fun j u hu => hu
        case qc3 => exact encF_one _
        case qc4 => have := HKL.out; unfold maxLen; omega
        case qc5 => have := HKL.out; omega
        case qc6 => first | exact hbA.size | (have := hB5.size; omega)
        intro v' w4 hown4 hgrow hnil
        have hbC : Below w.heap.size w w4 := hbA.grown hgrow hbA.size (fun k hk => by
          rcases OW5.out.2 with ⟨e, _⟩ | ⟨g', cap', cur, e, hg', _⟩
          · rw [e] at hk; simp [Value.ownBlock] at hk
          · rw [e] at hk; simp [Value.ownBlock] at hk; omega)
        have OW4 : Hid (w4.ownsRow w.heap.size 23 6 v' ((kept (inP lo hi) fs n).length + 1) (flatF (kept (inP lo hi) fs n) ++ encF (fp, fq, fn, flo, fhi, fseq))) := hown4
        clear hown4 hnil hgrow
        go_wp2
        go_roundw
        case rel => exact ⟨n + 1, by omega, by go_num, hbC, by rw [HKE.out, List.length_append, flatF_append]; simpa [flatF] using OW4.out⟩
        case measure => simp [intOf]; omega
      · have HKE : Hid ((kept (inP lo hi) fs (n + 1)) = (kept (inP lo hi) fs n)) := by
          show _ = _
          rw [hke, if_neg (by simp [inP, q1, q2, q3])]
        clear hke hal hbA
        go_wp2
        go_roundw
        case rel => exact ⟨n + 1, by omega, by go_num, hB5, by rw [HKE.out]; exact OW5.out⟩
        case measure => simp [intOf]; omega
      · have HKE : Hid ((kept (inP lo hi) fs (n + 1)) = (kept (inP lo hi) fs n) ++ [(fp, fq, fn, flo, fhi, fseq)]) := by
          show _ = _
          rw [hke, if_pos (by simp [inP, q1, q2, q3])]
        clear hke
        go_wp2_with (at_builtin; refine wpList_append_own _ rfl _ _ 50 rfl w.heap.size 23 i0 (.agg #[.string ⟨#[]⟩, .string ⟨#[]⟩, .int .i64 0, .int .i64 0, .int .i64 0, .int .i64 0]) 6 64 Tryz.underlying50 hi0 hz0 hs0 hby0 rfl (by decide) u7 (kept (inP lo hi) fs n).length (flatF (kept (inP lo hi) fs n)) rfl ?qc0 ⟨W5.heap.size, 0, none⟩ 1 1 (encF (fp, fq, fn, flo, fhi, fseq)) rfl ?qc1 ?qc2 ?qc3 ?qc4 ?qc5 ?qc6 ?_)
        case qc0 => exact own_below OW5.out hal
        case qc1 => rfl
        case qc2 => first | exact cells6 _ _ | exact fun j u hu => hu
        case qc3 => exact encF_one _
        case qc4 => have := HKL.out; unfold maxLen; omega
        case qc5 => have := HKL.out; omega
        case qc6 => first | exact hbA.size | (have := hB5.size; omega)
        intro v' w4 hown4 hgrow hnil
        have hbC : Below w.heap.size w w4 := hbA.grown hgrow hbA.size (fun k hk => by
          rcases OW5.out.2 with ⟨e, _⟩ | ⟨g', cap', cur, e, hg', _⟩
          · rw [e] at hk; simp [Value.ownBlock] at hk
          · rw [e] at hk; simp [Value.ownBlock] at hk; omega)
        have OW4 : Hid (w4.ownsRow w.heap.size 23 6 v' ((kept (inP lo hi) fs n).length + 1) (flatF (kept (inP lo hi) fs n) ++ encF (fp, fq, fn, flo, fhi, fseq))) := hown4
        clear hown4 hnil hgrow
        go_wp2
        go_roundw
        case rel => exact ⟨n + 1, by omega, by go_num, hbC, by rw [HKE.out, List.length_append, flatF_append]; simpa [flatF] using OW4.out⟩
        case measure => simp [intOf]; omega
      · have HKE : Hid ((kept (inP lo hi) fs (n + 1)) = (kept (inP lo hi) fs n)) := by
          show _ = _
          rw [hke, if_neg (by simp [inP, q1, q2, q3])]
        clear hke hal hbA
        go_wp2
        go_roundw
        case rel => exact ⟨n + 1, by omega, by go_num, hB5, by rw [HKE.out]; exact OW5.out⟩
        case measure => simp [intOf]; omega
      · have HKE : Hid ((kept (inP lo hi) fs (n + 1)) = (kept (inP lo hi) fs n) ++ [(fp, fq, fn, flo, fhi, fseq)]) := by
          show _ = _
          rw [hke, if_pos (by simp [inP, q1, q2, q3])]
        clear hke
        go_wp2_with (at_builtin; refine wpList_append_own _ rfl _ _ 50 rfl w.heap.size 23 i0 (.agg #[.string ⟨#[]⟩, .string ⟨#[]⟩, .int .i64 0, .int .i64 0, .int .i64 0, .int .i64 0]) 6 64 Tryz.underlying50 hi0 hz0 hs0 hby0 rfl (by decide) u7 (kept (inP lo hi) fs n).length (flatF (kept (inP lo hi) fs n)) rfl ?qc0 ⟨W5.heap.size, 0, none⟩ 1 1 (encF (fp, fq, fn, flo, fhi, fseq)) rfl ?qc1 ?qc2 ?qc3 ?qc4 ?qc5 ?qc6 ?_)
        case qc0 => exact own_below OW5.out hal
        case qc1 => rfl
        case qc2 => first | exact cells6 _ _ | exact fun j u hu => hu
        case qc3 => exact encF_one _
        case qc4 => have := HKL.out; unfold maxLen; omega
        case qc5 => have := HKL.out; omega
        case qc6 => first | exact hbA.size | (have := hB5.size; omega)
        intro v' w4 hown4 hgrow hnil
        have hbC : Below w.heap.size w w4 := hbA.grown hgrow hbA.size (fun k hk => by
          rcases OW5.out.2 with ⟨e, _⟩ | ⟨g', cap', cur, e, hg', _⟩
          · rw [e] at hk; simp [Value.ownBlock] at hk
          · rw [e] at hk; simp [Value.ownBlock] at hk; omega)
        have OW4 : Hid (w4.ownsRow w.heap.size 23 6 v' ((kept (inP lo hi) fs n).length + 1) (flatF (kept (inP lo hi) fs n) ++ encF (fp, fq, fn, flo, fhi, fseq))) := hown4
        clear hown4 hnil hgrow
        go_wp2
        go_roundw
        case rel => exact ⟨n + 1, by omega, by go_num, hbC, by rw [HKE.out, List.length_append, flatF_append]; simpa [flatF] using OW4.out⟩
        case measure => simp [intOf]; omega
      · have HKE : Hid ((kept (inP lo hi) fs (n + 1)) = (kept (inP lo hi) fs n)) := by
          show _ = _
          rw [hke, if_neg (by simp [inP, q1, q2, q3])]
        clear hke hal hbA
        go_wp2
        go_roundw
        case rel => exact ⟨n + 1, by omega, by go_num, hB5, by rw [HKE.out]; exact OW5.out⟩
        case measure => simp [intOf]; omega
    · obtain rfl : n = L := by omega
      have HKA : Hid (FlsAt wr u7 (fs.filter (inP lo hi))) := by
        have h' := (flsAt_of_own OW.out).1
        rw [← HX.out, kept_all] at h'
        exact h'
      go_wp2
      go_ret
      exact ⟨_, rfl, HKA.out, hb⟩
end Go.Proofs.YtpkoefpdpoikkaaGreatDoor
namespace Go.Proofs.YtpkoefpdpoikkaaGreatDoor
open Go.RowKit Go.Extern.Stop Go.Stop Go.Extern Go.Sort Go.Shelf Go.Lib

theorem listK (a : Nat → Addr) : ListK a (fun W => EnvL W a) where
  below := fun _ _ h hb => h.below hb
  check := fun W v fs h hx hl hs => lcheck_any v fs W a h hx hl hs
  text := fun W v fs h hx hl hs => ltext_any v fs W a h hx hl hs
  add := fun W v fs f h hx hl hs h1 h2 => ladd_any v fs f W a h hx hl hs h1 h2
  remove := fun W v fs p h hx hl hs _ => lremove_any v fs p W a h hx hl hs
  find := fun W v fs p _ hx hl => find_any v fs p W hx (by omega)

theorem listKT (a : Nat → Addr) : ListK a (fun W => EnvT W a) where
  below := fun _ _ h hb => h.below hb
  check := fun W v fs h hx hl hs => lcheck_any v fs W a h.list hx hl hs
  text := fun W v fs h hx hl hs => ltext_any v fs W a h.list hx hl hs
  add := fun W v fs f h hx hl hs h1 h2 => ladd_any v fs f W a h.list hx hl hs h1 h2
  remove := fun W v fs p h hx hl hs _ => lremove_any v fs p W a h.list hx hl hs
  find := fun W v fs p _ hx hl => find_any v fs p W hx (by omega)

theorem listR (a : Nat → Addr) : ListR a (fun W => EnvT W a) where
  core := listKT a
  read := fun W s h hs => lread_any s W a h hs
  prune := fun W v fs lo hi _ hx hl => prune_any v fs lo hi W hx (by omega)
end Go.Proofs.YtpkoefpdpoikkaaGreatDoor
