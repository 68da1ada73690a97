/-
  The contract of the document's own Placed.
  The contract of the document's own GoneOf.
-/
import Derived.Test.YtoobgeekmaeccaaGreatDoorStoreActs2
import Derived.Deep.CutBlock
import Derived.Test.YtoobgeekmaeccaaGreatDoorFileNum
import Derived.Test.YtoobgeekmaeccaaGreatDoorDataFile
import Derived.Laws.IdiomStrings
import Derived.Test.YtoobgeekmaeccaaGreatDoorRefRise
import Derived.Test.YtoobgeekmaeccaaGreatDoorProg
import Derived.WalkKit
import Derived.Deep.QuietTactic
import Derived.BigQuiet
import Derived.Test.YtoobgeekmaeccaaGreatDoorAppendSrc
namespace Go.Proofs.YtoobgeekmaeccaaGreatDoor
open Go.RowKit Go.Extern.Stop Go.Stop Go.Extern Go.Sort Go.Shelf Go.Lib

theorem low_succ {fs : List Fl} {z : Int} {n : Nat} (h : ∀ j (h : j < fs.length), j < n → fk fs[j] < z) (hn : n < fs.length) (e : fk fs[n] < z) : ∀ j (h : j < fs.length), j < n + 1 → fk fs[j] < z := fun j hj hjn => by
  rcases Nat.lt_or_ge j n with h' | h'
  · exact h j hj h'
  · obtain rfl : j = n := by omega
    exact e

def NewF (w : World) (v : Value) : Prop := ∀ k, v.ownBlock = some k → w.heap.size ≤ k
set_option maxRecDepth 100000 in
set_option maxHeartbeats 8000000 in
theorem placed_new (v : Value) (fs : List Fl) (f : Fl) (w : World) (hx : FlsAt w v fs) (hl : fs.length ≤ 1000) (hsz : ∀ g ∈ fs, g.1.size ≤ 100000) (hf : f.1.size ≤ 100000) :
    Calls Tryz.prog 26 #[v, flV f] w fun e w' => ∃ v', e = .returned v' ∧ FlsAt w' v' (placeL fs f) ∧ NewF w v' ∧ Below w.heap.size w w' := by
  obtain ⟨i0, hi0, hz0, hs0, hby0⟩ := Tryz.fileInfo
  obtain ⟨q, cap, rfl⟩ := hx.form
  have HFX : Hid (FlsAt w (.slice q fs.length cap) fs) := hx
  have HSZ : Hid (∀ g ∈ fs, g.1.size ≤ 100000) := hsz
  obtain ⟨L, hL⟩ : ∃ L, fs.length = L := ⟨_, rfl⟩
  have HX : Hid (fs.length = L) := hL
  rw [hL] at hl ⊢
  obtain ⟨FK, hFK⟩ : ∃ z, fk f = z := ⟨_, rfl⟩
  have HFK : Hid (fk f = FK) := hFK
  have HPF : Hid (pk f.1.data.toList = FK) := hFK
  have HPL : Hid (∀ n, n ≤ fs.length → (∀ j (h : j < fs.length), j < n → fk fs[j] < FK) → (∀ h : n < fs.length, ¬ fk fs[n] < FK) → placeL fs f = fs.take n ++ f :: fs.drop n) := fun n h1 h2 h3 => place_at h1 (by rw [hFK]; exact h2) (by rw [hFK]; exact h3)
  have HLA : Hid (FlAt (w.alloc (.cells #[.string f.1, .string f.2.1, .int .i64 f.2.2.1, .int .i64 f.2.2.2.1, .int .i64 f.2.2.2.2.1, .int .i64 f.2.2.2.2.2] 63)) w.heap.size f) := FlAt.new w f
  have hal : Below w.heap.size w (w.alloc (.cells #[.string f.1, .string f.2.1, .int .i64 f.2.2.1, .int .i64 f.2.2.2.1, .int .i64 f.2.2.2.2.1, .int .i64 f.2.2.2.2.2] 63)) := (Below.refl _ _).alloc (Nat.le_refl _) _
  clear hL hx hsz hFK
  unfold flV
  obtain ⟨P, hP⟩ : ∃ P, placeL fs f = P := ⟨_, rfl⟩
  rw [hP]
  rw [hP] at HPL
  clear hP
  obtain ⟨fp, fq, fn, flo, fhi, fseq⟩ := f
  dsimp only at HLA hal hf HPF HPL ⊢
  go_enter Tryz.func26, Tryz.ntmps26
  go_upto_block 0 with fail
  generalize w.alloc (.cells #[.string fp, .string fq, .int .i64 fn, .int .i64 flo, .int .i64 fhi, .int .i64 fseq] 63) = WA at HLA hal ⊢
  go_cut [5, 6] from 8 to 23 (fun k _ wx => ∃ n : Nat, n ≤ L ∧ k = .int .i64 n ∧ (∀ j (h : j < fs.length), j < n → fk fs[j] < FK) ∧ (∀ h : n < fs.length, ¬ fk fs[n] < FK) ∧ Below w.heap.size w wx ∧ FlAt wx w.heap.size (fp, fq, fn, flo, fhi, fseq))
  case first =>
    go_wp2_with fail
    go_loopw [5, 6] (fun k _ wr => ∃ n : Nat, n ≤ L ∧ k = .int .i64 n ∧ (∀ j (h : j < fs.length), j < n → fk fs[j] < FK) ∧ Below w.heap.size w wr ∧ FlAt wr w.heap.size (fp, fq, fn, flo, fhi, fseq)) (fun k _ _ => L - (intOf k).toNat)
    case atStart => exact ⟨0, by omega, rfl, fun j h h' => absurd h' (Nat.not_lt_zero _), hal, HLA.out⟩
    case round =>
      clear HLA hal
      obtain ⟨n, hn, rfl, hlow, hb, hfl⟩ := hrel
      have HLO : Hid (∀ j (h : j < fs.length), j < n → fk fs[j] < FK) := hlow
      have HFL : Hid (FlAt wr w.heap.size (fp, fq, fn, flo, fhi, fseq)) := hfl
      clear hlow
      by_cases hlt : n < L
      · have hltx : n < fs.length := by rw [HX.out]; exact hlt
        obtain ⟨b, o, hq, hc⟩ := (HFX.out.below hb).cells (fun e => by rw [e] at hltx; simp at hltx)
        subst hq
        have c0 := (hc n hltx).1
        have z0 := hfl.cells.1
        dsimp only at z0
        have hib := fun W => isBehind_any fp fs[n].1 W hf (HSZ.out fs[n] (List.getElem_mem _))
        rw [HPF.out] at hib
        have hib' : ∀ W, Calls Tryz.prog 68 #[.string fp, .string fs[n].1] W fun e w' => e = .returned (.bool (decide (fk fs[n] < FK))) ∧ w' = W := hib
        have hnx := fun e => low_succ HLO.out hltx e
        obtain ⟨Z, hZ⟩ : ∃ z, fk fs[n] = z := ⟨_, rfl⟩
        have HZ : Hid (fk fs[n] = Z) := hZ
        rw [hZ] at hib' hnx
        clear hc hib hZ
        generalize fs[n].1 = gp at c0 hib'
        have hiL : (n : Int) < (L : Int) := by omega
        have hi0' : (0 : Int) ≤ (n : Int) := by omega
        have hbs : Below wr.heap.size wr wr := Below.refl _ _
        have hbd : Below wr.heap.size wr wr.drew := hbs.drew
        have hBd : Below w.heap.size w wr.drew := hb.drew
        have HFD : Hid (FlAt wr.drew w.heap.size (fp, fq, fn, flo, fhi, fseq)) := hfl.below hbd
        clear hfl
        go_wp2_with fail
        go_region_held3 (fun w' => w'.cell? ⟨b, o + n * 6, none⟩ = some (.string gp) ∧ w'.cell? ⟨w.heap.size, 0, none⟩ = some (.string fp) ∧ Below wr.heap.size wr w')
          (first
            | (go_split_ands; with_reducible exact ⟨below_keep hbd c0, below_keep hbd z0, hbd⟩)
            | (go_split_ands; exact ⟨by assumption, by assumption, by assumption⟩))
          (first
            | (go_at_call 68; with_reducible refine (hib' _).mono ?_; rintro e wX ⟨rfl, rfl⟩))
        go_split_ands
        by_cases ho : Z < FK
        · have hd : decide (Z < FK) = true := decide_eq_true ho
          rw [hd]
          have HNX : Hid (∀ j (h : j < fs.length), j < n + 1 → fk fs[j] < FK) := hnx ho
          clear hib' hnx
          go_wp2
          go_roundw
          case rel => exact ⟨n + 1, by omega, by go_num, HNX.out, hBd, HFD.out⟩
          case measure => simp [intOf]; omega
        · have hd : decide (Z < FK) = false := decide_eq_false ho
          rw [hd]
          have HN2 : Hid (∀ h : n < fs.length, ¬ fk fs[n] < FK) := fun _ => by rw [HZ.out]; exact ho
          clear hib' hnx
          go_wp2
          go_meet
          case rel => exact ⟨n, by omega, rfl, HLO.out, HN2.out, hBd, HFD.out⟩
      · obtain rfl : n = L := by omega
        have HN2 : Hid (∀ h : n < fs.length, ¬ fk fs[n] < FK) := fun h => absurd h (by rw [HX.out]; exact Nat.lt_irrefl _)
        go_wp2
        go_meet
        case rel => exact ⟨n, by omega, rfl, HLO.out, HN2.out, hb, HFL.out⟩
  case rest =>
    obtain ⟨n, hn, rfl, hlow, hhi, hb, hfl⟩ := hcut
    have HPP : Hid (P = fs.take n ++ (fp, fq, fn, flo, fhi, fseq) :: fs.drop n) := HPL.out n (by rw [HX.out]; exact hn) hlow hhi
    have HFL : Hid (FlAt wc w.heap.size (fp, fq, fn, flo, fhi, fseq)) := hfl
    clear hlow hhi hfl HPL HLA hal
    have hvq : (q = none ∧ L = 0 ∧ cap = 0) ∨ (∃ ad, q = some ad ∧ L = 0) ∨ ∃ b o, q = some ⟨b, o, none⟩ ∧ L ≤ cap ∧ FlCells w b o fs := by
      have h := HFX.out
      rcases h with ⟨p, c', e, hp, he⟩ | ⟨b, o, c', e, hl', hc⟩
      · simp only [Value.slice.injEq] at e
        obtain ⟨rfl, h0, rfl⟩ := e
        rw [HX.out] at h0
        cases q with
        | none => exact Or.inl ⟨rfl, h0, hp rfl⟩
        | some ad => exact Or.inr (Or.inl ⟨ad, rfl, h0⟩)
      · simp only [Value.slice.injEq] at e
        obtain ⟨rfl, _, rfl⟩ := e
        exact Or.inr (Or.inr ⟨b, o, rfl, by rw [← HX.out]; exact hl', hc⟩)
    rcases hvq with ⟨rfl, rfl, rfl⟩ | ⟨ad, rfl, rfl⟩ | ⟨b, o, rfl, hcap, hcs⟩
    · obtain rfl : n = 0 := by omega
      go_wp2_with (at_builtin; (refine wpList_append_src rfl _ _ 23 rfl w.heap.size 63 i0 (.agg #[.string ⟨#[]⟩, .string ⟨#[]⟩, .int .i64 0, .int .i64 0, .int .i64 0, .int .i64 0]) 6 64 Tryz.underlying23 hi0 hz0 hs0 hby0 rfl (by decide) (.slice none 0 0) 0 [] rfl ?a0 _ _ _ (flatF (fs.take 0)) rfl ?a1 ?a2 ?a3 ?a4 ?a5 ?a6 ?_))
      case a0 => exact World.ownsRow_nil _ _ _ _
      case a1 => have h := HX.out; rw [flatF_len]; simp
      case a2 => exact Or.inl ⟨rfl, fun _ => rfl⟩
      case a3 => exact flatF_one _
      case a4 => unfold maxLen; omega
      case a5 => omega
      case a6 => exact hb.size
      intro v1 y1 ho1 hg1 _
      have hb1 : Below w.heap.size w y1 := hb.grown hg1 hb.size (fun k hk => by simp [Value.ownBlock] at hk)
      have hk1 : Below wc.heap.size wc y1 := (Below.refl _ _).grown hg1 (Nat.le_refl _) (fun k hk => by simp [Value.ownBlock] at hk)
      have OW1 : Hid (y1.ownsRow w.heap.size 63 6 v1 0 (flatF (fs.take 0))) := by
        show y1.ownsRow _ _ _ _ _ _
        simpa using ho1
      obtain ⟨z0, z1, z2, z3, z4, z5, -⟩ := (HFL.out.below hk1).cells
      dsimp only at z0 z1 z2 z3 z4 z5
      clear ho1 hg1
      have hal1 : Below y1.heap.size y1 (y1.alloc (.cells #[.string fp, .string fq, .int .i64 fn, .int .i64 flo, .int .i64 fhi, .int .i64 fseq] 63)) := (Below.refl _ _).alloc (Nat.le_refl _) _
      have hba1 : Below w.heap.size w (y1.alloc (.cells #[.string fp, .string fq, .int .i64 fn, .int .i64 flo, .int .i64 fhi, .int .i64 fseq] 63)) := hb1.alloc hb1.size _
      go_wp2_with (at_builtin; refine wpList_append_own _ rfl _ _ 23 rfl w.heap.size 63 i0 (.agg #[.string ⟨#[]⟩, .string ⟨#[]⟩, .int .i64 0, .int .i64 0, .int .i64 0, .int .i64 0]) 6 64 Tryz.underlying23 hi0 hz0 hs0 hby0 rfl (by decide) v1 0 (flatF (fs.take 0)) rfl ?qc0 ⟨y1.heap.size, 0, none⟩ 1 1 (encF (fp, fq, fn, flo, fhi, fseq)) rfl ?qc1 ?qc2 ?qc3 ?qc4 ?qc5 ?qc6 ?_)
      case qc0 => exact own_below OW1.out hal1
      case qc1 => rfl
      case qc2 => first | exact cells6 _ _ | exact fun j u hu => hu
      case qc3 => exact encF_one _
      case qc4 => unfold maxLen; omega
      case qc5 => omega
      case qc6 => first | exact hba1.size | (have := hb1.size; omega)
      intro v2 y2 ho2 hg2 _
      have hb2 : Below w.heap.size w y2 := hba1.grown hg2 hba1.size (fun k hk => by
        rcases OW1.out.2 with ⟨e, _⟩ | ⟨g', cap', cur, e, hg', _⟩
        · rw [e] at hk; simp [Value.ownBlock] at hk
        · rw [e] at hk; simp [Value.ownBlock] at hk; omega)
      have OW2 : Hid (y2.ownsRow w.heap.size 63 6 v2 (0 + 1) (flatF (fs.take 0 ++ [(fp, fq, fn, flo, fhi, fseq)]))) := by
        show y2.ownsRow _ _ _ _ _ _
        rw [flatF_append]
        simpa [flatF] using ho2
      clear ho2 hg2 z0 z1 z2 z3 z4 z5
      go_wp2_with (at_builtin; (refine wpList_append_src rfl _ _ 23 rfl w.heap.size 63 i0 (.agg #[.string ⟨#[]⟩, .string ⟨#[]⟩, .int .i64 0, .int .i64 0, .int .i64 0, .int .i64 0]) 6 64 Tryz.underlying23 hi0 hz0 hs0 hby0 rfl (by decide) v2 (0 + 1) (flatF (fs.take 0 ++ [(fp, fq, fn, flo, fhi, fseq)])) rfl ?a0 _ _ _ (flatF (fs.drop 0)) rfl ?a1 ?a2 ?a3 ?a4 ?a5 ?a6 ?_))
      case a0 => exact OW2.out
      case a1 => have h := HX.out; rw [flatF_len]; simp [h]
      case a2 => exact Or.inl ⟨rfl, fun _ => rfl⟩
      case a3 => exact flatF_one _
      case a4 => unfold maxLen; omega
      case a5 => omega
      case a6 => exact hb2.size
      intro v3 y3 ho3 hg3 _
      have hb3 : Below w.heap.size w y3 := hb2.grown hg3 hb2.size (fun k hk => by
        rcases OW2.out.2 with ⟨e, _⟩ | ⟨g', cap', cur, e, hg', _⟩
        · rw [e] at hk; simp [Value.ownBlock] at hk
        · rw [e] at hk; simp [Value.ownBlock] at hk; omega)
      have HFN : Hid (FlsAt y3 v3 P) := by
        show FlsAt _ _ _
        rw [HPP.out]
        have e : fs.take 0 ++ (fp, fq, fn, flo, fhi, fseq) :: fs.drop 0 = (fs.take 0 ++ [(fp, fq, fn, flo, fhi, fseq)]) ++ fs.drop 0 := by simp
        rw [e]
        refine (flsAt_of_own (base := w.heap.size) (n := 0 + 1 + 0) ?_).1
        rw [flatF_append]
        exact ho3
      have HNW : Hid (NewF w v3) := fun k hk => (ho3.lt k hk).1
      clear ho3 hg3
      go_wp2
      go_ret
      exact ⟨v3, rfl, HFN.out, HNW.out, hb3⟩
    · obtain rfl : n = 0 := by omega
      go_wp2_with (at_builtin; (refine wpList_append_src rfl _ _ 23 rfl w.heap.size 63 i0 (.agg #[.string ⟨#[]⟩, .string ⟨#[]⟩, .int .i64 0, .int .i64 0, .int .i64 0, .int .i64 0]) 6 64 Tryz.underlying23 hi0 hz0 hs0 hby0 rfl (by decide) (.slice none 0 0) 0 [] rfl ?a0 _ _ _ (flatF (fs.take 0)) rfl ?a1 ?a2 ?a3 ?a4 ?a5 ?a6 ?_))
      case a0 => exact World.ownsRow_nil _ _ _ _
      case a1 => have h := HX.out; rw [flatF_len]; simp
      case a2 => exact Or.inl ⟨rfl, fun h => nomatch h⟩
      case a3 => exact flatF_one _
      case a4 => unfold maxLen; omega
      case a5 => omega
      case a6 => exact hb.size
      intro v1 y1 ho1 hg1 _
      have hb1 : Below w.heap.size w y1 := hb.grown hg1 hb.size (fun k hk => by simp [Value.ownBlock] at hk)
      have hk1 : Below wc.heap.size wc y1 := (Below.refl _ _).grown hg1 (Nat.le_refl _) (fun k hk => by simp [Value.ownBlock] at hk)
      have OW1 : Hid (y1.ownsRow w.heap.size 63 6 v1 0 (flatF (fs.take 0))) := by
        show y1.ownsRow _ _ _ _ _ _
        simpa using ho1
      obtain ⟨z0, z1, z2, z3, z4, z5, -⟩ := (HFL.out.below hk1).cells
      dsimp only at z0 z1 z2 z3 z4 z5
      clear ho1 hg1
      have hal1 : Below y1.heap.size y1 (y1.alloc (.cells #[.string fp, .string fq, .int .i64 fn, .int .i64 flo, .int .i64 fhi, .int .i64 fseq] 63)) := (Below.refl _ _).alloc (Nat.le_refl _) _
      have hba1 : Below w.heap.size w (y1.alloc (.cells #[.string fp, .string fq, .int .i64 fn, .int .i64 flo, .int .i64 fhi, .int .i64 fseq] 63)) := hb1.alloc hb1.size _
      go_wp2_with (at_builtin; refine wpList_append_own _ rfl _ _ 23 rfl w.heap.size 63 i0 (.agg #[.string ⟨#[]⟩, .string ⟨#[]⟩, .int .i64 0, .int .i64 0, .int .i64 0, .int .i64 0]) 6 64 Tryz.underlying23 hi0 hz0 hs0 hby0 rfl (by decide) v1 0 (flatF (fs.take 0)) rfl ?qc0 ⟨y1.heap.size, 0, none⟩ 1 1 (encF (fp, fq, fn, flo, fhi, fseq)) rfl ?qc1 ?qc2 ?qc3 ?qc4 ?qc5 ?qc6 ?_)
      case qc0 => exact own_below OW1.out hal1
      case qc1 => rfl
      case qc2 => first | exact cells6 _ _ | exact fun j u hu => hu
      case qc3 => exact encF_one _
      case qc4 => unfold maxLen; omega
      case qc5 => omega
      case qc6 => first | exact hba1.size | (have := hb1.size; omega)
      intro v2 y2 ho2 hg2 _
      have hb2 : Below w.heap.size w y2 := hba1.grown hg2 hba1.size (fun k hk => by
        rcases OW1.out.2 with ⟨e, _⟩ | ⟨g', cap', cur, e, hg', _⟩
        · rw [e] at hk; simp [Value.ownBlock] at hk
        · rw [e] at hk; simp [Value.ownBlock] at hk; omega)
      have OW2 : Hid (y2.ownsRow w.heap.size 63 6 v2 (0 + 1) (flatF (fs.take 0 ++ [(fp, fq, fn, flo, fhi, fseq)]))) := by
        show y2.ownsRow _ _ _ _ _ _
        rw [flatF_append]
        simpa [flatF] using ho2
      clear ho2 hg2 z0 z1 z2 z3 z4 z5
      go_wp2_with (at_builtin; (refine wpList_append_src rfl _ _ 23 rfl w.heap.size 63 i0 (.agg #[.string ⟨#[]⟩, .string ⟨#[]⟩, .int .i64 0, .int .i64 0, .int .i64 0, .int .i64 0]) 6 64 Tryz.underlying23 hi0 hz0 hs0 hby0 rfl (by decide) v2 (0 + 1) (flatF (fs.take 0 ++ [(fp, fq, fn, flo, fhi, fseq)])) rfl ?a0 _ _ _ (flatF (fs.drop 0)) rfl ?a1 ?a2 ?a3 ?a4 ?a5 ?a6 ?_))
      case a0 => exact OW2.out
      case a1 => have h := HX.out; rw [flatF_len]; simp [h]
      case a2 => exact Or.inl ⟨rfl, fun h => nomatch h⟩
      case a3 => exact flatF_one _
      case a4 => unfold maxLen; omega
      case a5 => omega
      case a6 => exact hb2.size
      intro v3 y3 ho3 hg3 _
      have hb3 : Below w.heap.size w y3 := hb2.grown hg3 hb2.size (fun k hk => by
        rcases OW2.out.2 with ⟨e, _⟩ | ⟨g', cap', cur, e, hg', _⟩
        · rw [e] at hk; simp [Value.ownBlock] at hk
        · rw [e] at hk; simp [Value.ownBlock] at hk; omega)
      have HFN : Hid (FlsAt y3 v3 P) := by
        show FlsAt _ _ _
        rw [HPP.out]
        have e : fs.take 0 ++ (fp, fq, fn, flo, fhi, fseq) :: fs.drop 0 = (fs.take 0 ++ [(fp, fq, fn, flo, fhi, fseq)]) ++ fs.drop 0 := by simp
        rw [e]
        refine (flsAt_of_own (base := w.heap.size) (n := 0 + 1 + 0) ?_).1
        rw [flatF_append]
        exact ho3
      have HNW : Hid (NewF w v3) := fun k hk => (ho3.lt k hk).1
      clear ho3 hg3
      go_wp2
      go_ret
      exact ⟨v3, rfl, HFN.out, HNW.out, hb3⟩
    · have hnL : n ≤ fs.length := by rw [HX.out]; exact hn
      have HCS : Hid (FlCells w b o fs) := hcs
      have i1 : (0 : Int) ≤ (n : Int) := by omega
      have i2 : (n : Int) ≤ (L : Int) := by omega
      have i3 : (n : Int) ≤ (cap : Int) := by omega
      have i4 : (L : Int) ≤ (cap : Int) := by omega
      clear hcs
      by_cases hcn : cap = n
      · obtain rfl : n = cap := hcn.symm
        obtain rfl : L = n := by omega
        go_wp2_with (at_builtin; (refine wpList_append_src rfl _ _ 23 rfl w.heap.size 63 i0 (.agg #[.string ⟨#[]⟩, .string ⟨#[]⟩, .int .i64 0, .int .i64 0, .int .i64 0, .int .i64 0]) 6 64 Tryz.underlying23 hi0 hz0 hs0 hby0 rfl (by decide) (.slice none 0 0) 0 [] rfl ?a0 _ _ _ (flatF (fs.take L)) rfl ?a1 ?a2 ?a3 ?a4 ?a5 ?a6 ?_))
        case a0 => exact World.ownsRow_nil _ _ _ _
        case a1 => rw [flatF_len, List.length_take]; have := HX.out; omega
        case a2 => exact Or.inr ⟨b, o, rfl, cellsF_flat (flCells_take (HCS.out.below hb) L)⟩
        case a3 => exact flatF_one _
        case a4 => unfold maxLen; omega
        case a5 => omega
        case a6 => exact hb.size
        intro v1 y1 ho1 hg1 _
        have hb1 : Below w.heap.size w y1 := hb.grown hg1 hb.size (fun k hk => by simp [Value.ownBlock] at hk)
        have hk1 : Below wc.heap.size wc y1 := (Below.refl _ _).grown hg1 (Nat.le_refl _) (fun k hk => by simp [Value.ownBlock] at hk)
        have OW1 : Hid (y1.ownsRow w.heap.size 63 6 v1 L (flatF (fs.take L))) := by
          show y1.ownsRow _ _ _ _ _ _
          simpa using ho1
        obtain ⟨z0, z1, z2, z3, z4, z5, -⟩ := (HFL.out.below hk1).cells
        dsimp only at z0 z1 z2 z3 z4 z5
        clear ho1 hg1
        have hal1 : Below y1.heap.size y1 (y1.alloc (.cells #[.string fp, .string fq, .int .i64 fn, .int .i64 flo, .int .i64 fhi, .int .i64 fseq] 63)) := (Below.refl _ _).alloc (Nat.le_refl _) _
        have hba1 : Below w.heap.size w (y1.alloc (.cells #[.string fp, .string fq, .int .i64 fn, .int .i64 flo, .int .i64 fhi, .int .i64 fseq] 63)) := hb1.alloc hb1.size _
        go_wp2_with (at_builtin; refine wpList_append_own _ rfl _ _ 23 rfl w.heap.size 63 i0 (.agg #[.string ⟨#[]⟩, .string ⟨#[]⟩, .int .i64 0, .int .i64 0, .int .i64 0, .int .i64 0]) 6 64 Tryz.underlying23 hi0 hz0 hs0 hby0 rfl (by decide) v1 L (flatF (fs.take L)) rfl ?qc0 ⟨y1.heap.size, 0, none⟩ 1 1 (encF (fp, fq, fn, flo, fhi, fseq)) rfl ?qc1 ?qc2 ?qc3 ?qc4 ?qc5 ?qc6 ?_)
        case qc0 => exact own_below OW1.out hal1
        case qc1 => rfl
        case qc2 => first | exact cells6 _ _ | exact fun j u hu => hu
        case qc3 => exact encF_one _
        case qc4 => unfold maxLen; omega
        case qc5 => omega
        case qc6 => first | exact hba1.size | (have := hb1.size; omega)
        intro v2 y2 ho2 hg2 _
        have hb2 : Below w.heap.size w y2 := hba1.grown hg2 hba1.size (fun k hk => by
          rcases OW1.out.2 with ⟨e, _⟩ | ⟨g', cap', cur, e, hg', _⟩
          · rw [e] at hk; simp [Value.ownBlock] at hk
          · rw [e] at hk; simp [Value.ownBlock] at hk; omega)
        have OW2 : Hid (y2.ownsRow w.heap.size 63 6 v2 (L + 1) (flatF (fs.take L ++ [(fp, fq, fn, flo, fhi, fseq)]))) := by
          show y2.ownsRow _ _ _ _ _ _
          rw [flatF_append]
          simpa [flatF] using ho2
        clear ho2 hg2 z0 z1 z2 z3 z4 z5
        go_wp2_with (at_builtin; (refine wpList_append_src rfl _ _ 23 rfl w.heap.size 63 i0 (.agg #[.string ⟨#[]⟩, .string ⟨#[]⟩, .int .i64 0, .int .i64 0, .int .i64 0, .int .i64 0]) 6 64 Tryz.underlying23 hi0 hz0 hs0 hby0 rfl (by decide) v2 (L + 1) (flatF (fs.take L ++ [(fp, fq, fn, flo, fhi, fseq)])) rfl ?a0 _ _ _ (flatF (fs.drop L)) rfl ?a1 ?a2 ?a3 ?a4 ?a5 ?a6 ?_))
        case a0 => exact OW2.out
        case a1 => rw [flatF_len, List.length_drop]; have := HX.out; omega
        case a2 => exact Or.inl ⟨by omega, fun h => nomatch h⟩
        case a3 => exact flatF_one _
        case a4 => unfold maxLen; omega
        case a5 => omega
        case a6 => exact hb2.size
        intro v3 y3 ho3 hg3 _
        have hb3 : Below w.heap.size w y3 := hb2.grown hg3 hb2.size (fun k hk => by
          rcases OW2.out.2 with ⟨e, _⟩ | ⟨g', cap', cur, e, hg', _⟩
          · rw [e] at hk; simp [Value.ownBlock] at hk
          · rw [e] at hk; simp [Value.ownBlock] at hk; omega)
        have HFN : Hid (FlsAt y3 v3 P) := by
          show FlsAt _ _ _
          rw [HPP.out]
          have e : fs.take L ++ (fp, fq, fn, flo, fhi, fseq) :: fs.drop L = (fs.take L ++ [(fp, fq, fn, flo, fhi, fseq)]) ++ fs.drop L := by simp
          rw [e]
          refine (flsAt_of_own (base := w.heap.size) (n := L + 1 + 0) ?_).1
          rw [flatF_append]
          exact ho3
        have HNW : Hid (NewF w v3) := fun k hk => (ho3.lt k hk).1
        clear ho3 hg3
        go_wp2
        go_ret
        exact ⟨v3, rfl, HFN.out, HNW.out, hb3⟩
      · skip
        go_wp2_with (at_builtin; (refine wpList_append_src rfl _ _ 23 rfl w.heap.size 63 i0 (.agg #[.string ⟨#[]⟩, .string ⟨#[]⟩, .int .i64 0, .int .i64 0, .int .i64 0, .int .i64 0]) 6 64 Tryz.underlying23 hi0 hz0 hs0 hby0 rfl (by decide) (.slice none 0 0) 0 [] rfl ?a0 _ _ _ (flatF (fs.take n)) rfl ?a1 ?a2 ?a3 ?a4 ?a5 ?a6 ?_))
        case a0 => exact World.ownsRow_nil _ _ _ _
        case a1 => rw [flatF_len, List.length_take]; have := HX.out; omega
        case a2 => exact Or.inr ⟨b, o, rfl, cellsF_flat (flCells_take (HCS.out.below hb) n)⟩
        case a3 => exact flatF_one _
        case a4 => unfold maxLen; omega
        case a5 => omega
        case a6 => exact hb.size
        intro v1 y1 ho1 hg1 _
        have hb1 : Below w.heap.size w y1 := hb.grown hg1 hb.size (fun k hk => by simp [Value.ownBlock] at hk)
        have hk1 : Below wc.heap.size wc y1 := (Below.refl _ _).grown hg1 (Nat.le_refl _) (fun k hk => by simp [Value.ownBlock] at hk)
        have OW1 : Hid (y1.ownsRow w.heap.size 63 6 v1 n (flatF (fs.take n))) := by
          show y1.ownsRow _ _ _ _ _ _
          simpa using ho1
        obtain ⟨z0, z1, z2, z3, z4, z5, -⟩ := (HFL.out.below hk1).cells
        dsimp only at z0 z1 z2 z3 z4 z5
        clear ho1 hg1
        have hal1 : Below y1.heap.size y1 (y1.alloc (.cells #[.string fp, .string fq, .int .i64 fn, .int .i64 flo, .int .i64 fhi, .int .i64 fseq] 63)) := (Below.refl _ _).alloc (Nat.le_refl _) _
        have hba1 : Below w.heap.size w (y1.alloc (.cells #[.string fp, .string fq, .int .i64 fn, .int .i64 flo, .int .i64 fhi, .int .i64 fseq] 63)) := hb1.alloc hb1.size _
        go_wp2_with (at_builtin; refine wpList_append_own _ rfl _ _ 23 rfl w.heap.size 63 i0 (.agg #[.string ⟨#[]⟩, .string ⟨#[]⟩, .int .i64 0, .int .i64 0, .int .i64 0, .int .i64 0]) 6 64 Tryz.underlying23 hi0 hz0 hs0 hby0 rfl (by decide) v1 n (flatF (fs.take n)) rfl ?qc0 ⟨y1.heap.size, 0, none⟩ 1 1 (encF (fp, fq, fn, flo, fhi, fseq)) rfl ?qc1 ?qc2 ?qc3 ?qc4 ?qc5 ?qc6 ?_)
        case qc0 => exact own_below OW1.out hal1
        case qc1 => rfl
        case qc2 => first | exact cells6 _ _ | exact fun j u hu => hu
        case qc3 => exact encF_one _
        case qc4 => unfold maxLen; omega
        case qc5 => omega
        case qc6 => first | exact hba1.size | (have := hb1.size; omega)
        intro v2 y2 ho2 hg2 _
        have hb2 : Below w.heap.size w y2 := hba1.grown hg2 hba1.size (fun k hk => by
          rcases OW1.out.2 with ⟨e, _⟩ | ⟨g', cap', cur, e, hg', _⟩
          · rw [e] at hk; simp [Value.ownBlock] at hk
          · rw [e] at hk; simp [Value.ownBlock] at hk; omega)
        have OW2 : Hid (y2.ownsRow w.heap.size 63 6 v2 (n + 1) (flatF (fs.take n ++ [(fp, fq, fn, flo, fhi, fseq)]))) := by
          show y2.ownsRow _ _ _ _ _ _
          rw [flatF_append]
          simpa [flatF] using ho2
        clear ho2 hg2 z0 z1 z2 z3 z4 z5
        go_wp2_with (at_builtin; (refine wpList_append_src rfl _ _ 23 rfl w.heap.size 63 i0 (.agg #[.string ⟨#[]⟩, .string ⟨#[]⟩, .int .i64 0, .int .i64 0, .int .i64 0, .int .i64 0]) 6 64 Tryz.underlying23 hi0 hz0 hs0 hby0 rfl (by decide) v2 (n + 1) (flatF (fs.take n ++ [(fp, fq, fn, flo, fhi, fseq)])) rfl ?a0 _ _ _ (flatF (fs.drop n)) rfl ?a1 ?a2 ?a3 ?a4 ?a5 ?a6 ?_))
        case a0 => exact OW2.out
        case a1 => rw [flatF_len, List.length_drop]; have := HX.out; omega
        case a2 => exact Or.inr ⟨b, o + n * 6, rfl, cellsF_flat (flCells_drop (HCS.out.below hb2) n)⟩
        case a3 => exact flatF_one _
        case a4 => unfold maxLen; omega
        case a5 => omega
        case a6 => exact hb2.size
        intro v3 y3 ho3 hg3 _
        have hb3 : Below w.heap.size w y3 := hb2.grown hg3 hb2.size (fun k hk => by
          rcases OW2.out.2 with ⟨e, _⟩ | ⟨g', cap', cur, e, hg', _⟩
          · rw [e] at hk; simp [Value.ownBlock] at hk
          · rw [e] at hk; simp [Value.ownBlock] at hk; omega)
        have HFN : Hid (FlsAt y3 v3 P) := by
          show FlsAt _ _ _
          rw [HPP.out]
          have e : fs.take n ++ (fp, fq, fn, flo, fhi, fseq) :: fs.drop n = (fs.take n ++ [(fp, fq, fn, flo, fhi, fseq)]) ++ fs.drop n := by simp
          rw [e]
          refine (flsAt_of_own (base := w.heap.size) (n := n + 1 + (L - n)) ?_).1
          rw [flatF_append]
          exact ho3
        have HNW : Hid (NewF w v3) := fun k hk => (ho3.lt k hk).1
        clear ho3 hg3
        go_wp2
        go_ret
        exact ⟨v3, rfl, HFN.out, HNW.out, hb3⟩
end Go.Proofs.YtoobgeekmaeccaaGreatDoor
namespace Go.Proofs.YtoobgeekmaeccaaGreatDoor
open Go.RowKit Go.Extern.Stop Go.Stop Go.Extern Go.Sort Go.Shelf Go.Lib

set_option maxRecDepth 100000 in
set_option maxHeartbeats 2000000 in
theorem goneOf_full (v : Value) (zs : List Int) (w : World) (hz : KeysAt w v zs) (hl : zs.length ≤ 1000) (hn : 40 < (riseZ zs).length) :
    Calls Tryz.prog 34 #[v] w fun e w' => e = .returned (.tuple #[.string ⟨#[]⟩, .agg #[.int .i64 8, .int .i64 (-1)]]) ∧ Below w.heap.size w w' := by
  have hi : (40 : Int) < ((riseZ zs).length : Int) := by omega
  have hf0 := FC.new w
  have hbr := fun W => bare_of 8 W
  have hal : Below w.heap.size w (w.alloc (.cells #[.int .i64 0, .int .i64 0] 46)) := (Below.refl _ _).alloc (Nat.le_refl _) _
  have hro := risingOf_any v zs _ (hz.below hal) hl
  obtain ⟨q0, c0, rfl⟩ := hz.form
  clear hz
  go_enter Tryz.func34, Tryz.ntmps34
  go_wp2_with fail
  refine hro.mono ?_
  rintro e w1 ⟨v1, rfl, hk1, hb1⟩
  clear hro
  obtain ⟨q1, c1, rfl⟩ := hk1.form
  have hf1 := hf0.below hb1
  have hB1 : Below w.heap.size w w1 := hal.trans (hb1.mono hal.size)
  clear hk1 hn hf0 hal hb1
  generalize (riseZ zs).length = L1 at hi ⊢
  go_wp2_with fail
  refine (hbr _).mono ?_
  rintro e w2 ⟨rfl, hb2⟩
  clear hbr
  have hf2 := hf1.below hb2
  have hB2 : Below w.heap.size w w2 := hB1.trans (hb2.mono hB1.size)
  have j0 := hf2.c0
  have j1 := hf2.c1
  have jz := hf2.fz
  clear hf1 hf2
  go_wp2
  refine bodyPost_ret (v := .tuple #[.string ⟨#[]⟩, .agg #[.int .i64 8, .int .i64 (-1)]]) (by simp [results, Tryz.results34, go_sem, j0, j1]) rfl ⟨rfl, ?_⟩
  exact (hB2.setCell (by simp) _).setCell (by simp) _

theorem klines_take (xs : List Int) (n : Nat) (h : n < xs.length) : linesG goneK (xs.take (n + 1)) = linesG goneK (xs.take n) ++ (itoa xs[n] ++ [10]) := by
  rw [← List.take_append_getElem h]; exact linesG_snoc goneK _ _

set_option maxRecDepth 100000 in
set_option maxHeartbeats 4000000 in
theorem goneOf_any (v : Value) (zs : List Int) (w : World) (hz : KeysAt w v zs) (hl : zs.length ≤ 1000) (hn40 : (riseZ zs).length ≤ 40)
    (m : Nat) (hm : m ≤ zs.length) (hgood : ∀ i (h : i < zs.length), i < m → inNum zs[i] = true) (hend : ∀ (h : m < zs.length), inNum zs[m] = false) :
    Calls Tryz.prog 34 #[v] w fun e w' => (m = zs.length ∧ e = .returned (.tuple #[.string (bytesOf (goneF (riseZ zs))), .agg #[.int .i64 0, .int .i64 (-1)]]) ∧ Below w.heap.size w w') ∨
      (m < zs.length ∧ e = .returned (.tuple #[.string ⟨#[]⟩, .agg #[.int .i64 2, .int .i64 m]]) ∧ Below w.heap.size w w') := by
  have HALL : Hid (m = zs.length → ∀ x ∈ riseZ zs, inNum x = true) := fun e x hxm => by
    obtain ⟨i, hi, e'⟩ := List.mem_iff_getElem.1 ((rise_mem zs x).1 hxm)
    rw [← e']
    exact hgood i hi (by omega)
  have hf0 := FC.new w
  have hal : Below w.heap.size w (w.alloc (.cells #[.int .i64 0, .int .i64 0] 46)) := (Below.refl _ _).alloc (Nat.le_refl _) _
  have hro := risingOf_any v zs _ (hz.below hal) hl
  obtain ⟨q, cap, rfl⟩ := hz.form
  obtain ⟨L, hL⟩ : ∃ L, zs.length = L := ⟨_, rfl⟩
  have HX : Hid (zs.length = L) := hL
  have HGOOD : Hid (∀ i (h : i < zs.length), i < m → inNum zs[i] = true) := hgood
  have HEND : Hid (∀ (h : m < zs.length), inNum zs[m] = false) := hend
  have HZZ : Hid (∀ W, Below w.heap.size w W → KeysAt W (.slice q zs.length cap) zs) := fun W hW => hz.below hW
  rw [hL] at hm hl HZZ
  have harg : (Value.slice q zs.length cap) = .slice q L cap := by rw [hL]
  rw [harg] at hro ⊢
  obtain ⟨L1, hL1⟩ : ∃ L1, (riseZ zs).length = L1 := ⟨_, rfl⟩
  have HL1 : Hid ((riseZ zs).length = L1) := hL1
  rw [hL1] at hn40
  have hi40 : ¬ (40 : Int) < (L1 : Int) := by omega
  clear hL hL1 hgood hend harg hz
  go_enter Tryz.func34, Tryz.ntmps34
  go_wp2_with fail
  generalize w.alloc (.cells #[.int .i64 0, .int .i64 0] 46) = w0 at hf0 hal hro ⊢
  refine hro.mono ?_
  rintro e w1 ⟨v1, rfl, hk1, hb1⟩
  clear hro
  obtain ⟨q1, c1, hv1⟩ := hk1.form
  rw [HL1.out] at hv1
  subst hv1
  have HK1 : Hid (KeysAt w1 (.slice q1 L1 c1) (riseZ zs)) := hk1
  have hf1 := hf0.below hb1
  have hB1 : Below w.heap.size w w1 := hal.trans (hb1.mono hal.size)
  clear hk1 hf0 hal hb1
  go_wp2
  go_loopw [5] (fun k wr => ∃ n : Nat, n ≤ m ∧ k = .int .i64 n ∧ Below w1.heap.size w1 wr) (fun k _ => L - (intOf k).toNat)
  case atStart => exact ⟨0, by omega, rfl, Below.refl _ _⟩
  case round =>
    obtain ⟨n, hn, rfl, hb⟩ := hrel
    have hBr : Below w.heap.size w wr := hB1.trans (hb.mono hB1.size)
    by_cases hlt : n < L
    · have hltx : n < zs.length := by rw [HX.out]; exact hlt
      rcases HZZ.out wr hBr with ⟨_, _, e, e'⟩ | ⟨b, o, cap2, e, hcells⟩
      · exfalso; have := HX.out; rw [e'] at this; simp at this; omega
      injection e with e1 e2 e3
      subst e1
      clear e2 e3
      have d1 := hcells n hltx
      clear hcells
      have hi : (n : Int) < (L : Int) := by omega
      have hi0 : (0 : Int) ≤ (n : Int) := by omega
      have hre := isFar_any zs[n] wr
      by_cases hltm : n < m
      · rw [HGOOD.out n hltx hltm] at hre
        generalize zs[n] = xk at d1 hre
        simp only [Bool.not_true] at hre
        go_wp2_with fail
        refine hre.mono ?_
        rintro e w2 ⟨rfl, rfl⟩
        clear hre
        go_wp2
        go_roundw
        case rel => exact ⟨n + 1, by omega, by go_num, hb⟩
        case measure => simp [intOf]; omega
      · have hnm : n = m := by omega
        subst hnm
        rw [HEND.out hltx] at hre
        generalize zs[n] = xk at d1 hre
        simp only [Bool.not_false] at hre
        have hf2 := hf1.below hb
        have j0 := hf2.c0
        have j1 := hf2.c1
        have jz := hf2.fz
        clear hf1 hf2
        go_wp2_with fail
        refine hre.mono ?_
        rintro e w2 ⟨rfl, rfl⟩
        clear hre d1
        go_wp2
        refine bodyPost_ret (v := .tuple #[.string ⟨#[]⟩, .agg #[.int .i64 2, .int .i64 n]]) (by simp [results, Tryz.results34, go_sem, j0, j1]) rfl (Or.inr ⟨hltx, rfl, ?_⟩)
        exact (hBr.setCell (by simp) _).setCell (by simp) _
    · have hn' : n = L := by omega
      subst hn'
      have hmL : m = n := by omega
      have hall := HALL.out (by rw [HX.out]; exact hmL)
      have HOK : Hid (∀ x ∈ riseZ zs, inNum x = true) := hall
      have HLL : Hid (∀ k, (linesG goneK ((riseZ zs).take k)).length ≤ 33 * k) := fun k => by
        have h1 := linesG_len gone_fine ((riseZ zs).take k) (fun x hxx => hall x (List.mem_of_mem_take hxx))
        rw [List.length_take] at h1
        omega
      have hinE := ends_inG gone_fine hall
      rw [keysG_gone] at hinE
      have HFL : Hid (bytesOf (headL (⟨#[103, 111, 110, 101]⟩ : ByteArray).data.toList (riseZ zs).length (endsZ (riseZ zs)).1 (endsZ (riseZ zs)).2 (sumL (linesG goneK (riseZ zs))) ++ 10 :: linesG goneK (riseZ zs)) = bytesOf (goneF (riseZ zs))) := by
        show _ = _
        have e : goneF (riseZ zs) = headL kGone (riseZ zs).length (endsZ (keysG goneK (riseZ zs))).1 (endsZ (keysG goneK (riseZ zs))).2 (sumL (linesG goneK (riseZ zs))) ++ 10 :: linesG goneK (riseZ zs) := rfl
        rw [e, keysG_gone]
        rfl
      have HKW : Hid (∀ W, Below wr.heap.size wr W → KeysAt W (.slice q1 L1 c1) (riseZ zs)) := fun W hW => (HK1.out.below hb).below hW
      clear hall
      generalize hSS : riseZ zs = S at HOK HLL HFL HKW HL1 hinE
      have HSS : Hid (riseZ zs = S) := hSS
      clear hSS
      have hfr := hf1.below hb
      clear hf1
      generalize wr = w2 at *
      go_wp2
      go_loopw [7, 8] (fun bd k w3 => ∃ i : Nat, i ≤ L1 ∧ k = .int .i64 i ∧ Below w2.heap.size w2 w3 ∧ bd = .string (bytesOf (linesG goneK (S.take i)))) (fun _ k _ => L1 - (intOf k).toNat)
      case atStart => exact ⟨0, by omega, rfl, Below.refl _ _, rfl⟩
      case round =>
        obtain ⟨i, hin, rfl, hb3, rfl⟩ := hrel
        by_cases hilt : i < L1
        · have hix : i < S.length := by rw [HL1.out]; exact hilt
          rcases HKW.out wr hb3 with ⟨_, _, e, e'⟩ | ⟨b, o, cap2, e, hcells⟩
          · exfalso; rw [e'] at hix; simp at hix
          injection e with e1 e2 e3
          subst e1
          clear e2 e3
          have d1 := hcells i hix
          clear hcells
          have hi : (i : Int) < (L1 : Int) := by omega
          have hi0 : (0 : Int) ≤ (i : Int) := by omega
          have hr0 := HOK.out S[i] (List.getElem_mem _)
          have htl : (bytesOf (itoa S[i])).size ≤ 32 := by rw [bytes_len]; exact gone_fine.len _ hr0
          simp only [inNum, Bool.and_eq_true, decide_eq_true_eq] at hr0
          have hrt := decimal_any S[i] wr (by omega) (by omega)
          have hbl : (bytesOf (linesG goneK (S.take i))).size ≤ 33 * i := by rw [bytes_len]; exact HLL.out i
          have HT : Hid (bytesOf (linesG goneK (S.take i)) ++ bytesOf (itoa S[i]) ++ ⟨#[10]⟩ = bytesOf (linesG goneK (S.take (i + 1)))) := by
            show _ = _
            apply part_ext
            rw [klines_take S i hix]
            simp [bytesOf, ByteArray.data_append]
          generalize bytesOf (linesG goneK (S.take i)) = B0 at hbl HT ⊢
          generalize S[i] = x at d1 hrt htl HT
          generalize bytesOf (itoa x) = tx at hrt htl HT
          clear hix hr0
          go_wp2_with fail
          refine hrt.mono ?_
          rintro e w4 ⟨rfl, hg4⟩
          clear hrt
          have hb4 := hg4.below
          have hb5 : Below w2.heap.size w2 w4 := hb3.trans (hb4.mono hb3.size)
          go_wp2
          go_roundw
          case rel => exact ⟨i + 1, by omega, by go_num, hb5, by rw [HT.out]⟩
          case measure => simp [intOf]; omega
        · have hin' : i = L1 := by omega
          subst hin'
          have hta : S.take i = S := List.take_of_length_le (by rw [HL1.out]; exact Nat.le_refl _)
          have hll := HLL.out i
          rw [hta] at hll ⊢
          have hB3 : Below w.heap.size w wr := hBr.trans (hb3.mono hBr.size)
          have hw5 := wholeText_any ⟨#[103, 111, 110, 101]⟩ (by decide) (.slice q1 i c1) S (bytesOf (linesG goneK S)) wr (HKW.out wr hb3) (by rw [HL1.out]; omega) (by rw [bytes_len]; omega) (by have := hinE.1; simp only [inNum, Bool.and_eq_true, decide_eq_true_eq] at this; omega) (by have := hinE.2; simp only [inNum, Bool.and_eq_true, decide_eq_true_eq] at this; omega)
          have eBd : (bytesOf (linesG goneK S)).data.toList = linesG goneK S := by simp [bytesOf]
          rw [eBd, HFL.out] at hw5
          generalize hTT : bytesOf (goneF S) = T at hw5
          have HTT : Hid (bytesOf (goneF S) = T) := hTT
          clear hTT
          generalize bytesOf (linesG goneK S) = BD at hw5 ⊢
          clear hta hll hinE eBd
          go_wp2_with fail
          refine hw5.mono ?_
          rintro e w6 ⟨rfl, hb6⟩
          clear hw5
          have hfin := fine_of w6
          go_wp2_with fail
          refine hfin.mono ?_
          rintro e w7 ⟨rfl, hb7⟩
          clear hfin
          have hB6 : Below w.heap.size w w6 := hB3.trans (hb6.mono hB3.size)
          have hB : Below w.heap.size w w7 := hB6.trans (hb7.mono hB6.size)
          have hf7 := ((hfr.below hb3).below hb6).below hb7
          have j0 := hf7.c0
          have j1 := hf7.c1
          have jz := hf7.fz
          clear hfr
          go_wp2
          refine bodyPost_ret (v := .tuple #[.string T, .agg #[.int .i64 0, .int .i64 (-1)]]) (by simp [results, Tryz.results34, go_sem, j0, j1]) rfl (Or.inl ⟨by rw [HX.out]; exact hmL, by rw [HSS.out, HTT.out], ?_⟩)
          exact (hB.setCell (by simp) _).setCell (by simp) _
end Go.Proofs.YtoobgeekmaeccaaGreatDoor
