/-
  The contracts of list.lines, of the function that list.Read hands over, of data.EachLine with it, and of list.Read.
-/
import Derived.Test.YtpkoefpdpoikkaaGreatDoorListChk
namespace Go.Proofs.YtpkoefpdpoikkaaGreatDoor
open Go.RowKit Go.Extern.Stop Go.Stop Go.Extern Go.Sort Go.Shelf Go.Lib

theorem last_piece : ∀ (n : Nat) (s : List UInt8), s.length ≤ n → ((pieces 10 s).getLastD [] = [] ↔ s = [] ∨ Lib.hasSuffix s [10] = true)
  | 0, s, h => by
    obtain rfl : s = [] := List.length_eq_zero_iff.1 (by omega)
    simp [pieces_none 10 [] (by simp)]
  | n + 1, s, h => by
    have hsuf : ∀ t : List UInt8, Lib.hasSuffix t [10] = true ↔ [10] <:+ t := fun t => by unfold Lib.hasSuffix; exact List.isSuffixOf_iff_suffix
    rcases cut_cases 10 s with ⟨hno, _⟩ | ⟨a, b, rfl, hno, _⟩
    · rw [pieces_none 10 s hno, hsuf]
      constructor
      · intro e; exact Or.inl e
      · rintro (e | ⟨t, e⟩)
        · exact e
        · exact absurd rfl (hno 10 (by rw [← e]; simp))
    · have hb : b.length ≤ n := by simp at h; omega
      have ih := last_piece n b hb
      rw [pieces_append 10 a b hno]
      obtain ⟨l2, r, e⟩ := List.exists_cons_of_ne_nil (pieces_ne 10 b)
      have e1 : (a :: pieces 10 b).getLastD [] = (pieces 10 b).getLastD [] := by rw [e]; simp [List.getLastD_eq_getLast?, List.getLast?_cons_cons]
      rw [e1, ih, hsuf, hsuf]
      constructor
      · rintro (rfl | ⟨t, rfl⟩)
        · exact Or.inr ⟨a, rfl⟩
        · exact Or.inr ⟨a ++ 10 :: t, by simp⟩
      · rintro (e' | ⟨t, e'⟩)
        · simp at e'
        · by_cases hb0 : b = []
          · exact Or.inl hb0
          · refine Or.inr ?_
            have hl : (a ++ 10 :: b).getLast? = some 10 := by rw [← e']; simp
            have hl2 : b.getLast? = some 10 := by
              rw [List.getLast?_append, List.getLast?_cons] at hl
              cases hbl : b.getLast? with
              | none => exact absurd (List.getLast?_eq_none_iff.1 hbl) hb0
              | some c => rw [hbl] at hl; simpa using hl
            obtain ⟨ys, hys⟩ := List.getLast?_eq_some_iff.1 hl2
            exact ⟨ys, hys.symm⟩

theorem many_is (s : List UInt8) : (manyL (pieces 10 s) : Int) = if s ≠ [] ∧ Lib.hasSuffix s [10] = false then (s.count 10 : Int) + 1 else s.count 10 := by
  have hc := pieces_count 10 s
  have hl := last_piece s.length s (Nat.le_refl _)
  unfold manyL
  by_cases h : (pieces 10 s).getLastD [] = []
  · rw [if_pos h, if_neg, hc]
    · simp
    · rintro ⟨h1, h2⟩
      rcases hl.1 h with h' | h'
      · exact h1 h'
      · rw [h2] at h'; cases h'
  · rw [if_neg h, if_pos, hc]
    · simp
    · refine ⟨fun e => h (hl.2 (Or.inl e)), ?_⟩
      cases hs : Lib.hasSuffix s [10] with
      | false => rfl
      | true => exact absurd (hl.2 (Or.inr hs)) h

set_option maxRecDepth 100000 in
set_option maxHeartbeats 1000000 in
theorem lines_any (s : ByteArray) (w : World) (hs : s.size ≤ 100000) :
    Calls Tryz.prog 91 #[.string s] w fun e w' => e = .returned (.int .i64 (manyL (pieces 10 s.data.toList))) ∧ w' = w := by
  have hct := Tryz.strings_Count_one s 10 w
  have hsf := Tryz.strings_HasSuffix s ⟨#[10]⟩ w (by omega)
  rw [many_is]
  unfold Lib.countByte at hct
  have hcl := List.count_le_length (a := (10 : UInt8)) (l := s.data.toList)
  rw [size_list] at hcl
  have eS : (⟨#[10]⟩ : ByteArray).data.toList = [10] := rfl
  rw [eS] at hsf
  generalize List.count 10 s.data.toList = N at hct hcl ⊢
  by_cases he : s.data.toList = []
  · have hb : (s.toList == []) = true := eqB_of he
    rw [if_neg (by simp [he])]
    clear hsf eS he
    go_enter Tryz.func91, Tryz.ntmps91
    go_wp2_with fail
    refine hct.mono ?_
    rintro e w1 ⟨rfl, rfl⟩
    clear hct
    go_wp2
    go_ret
    exact ⟨rfl, rfl⟩
  · have hb : (s.toList == []) = false := neB_of he
    cases hS : Lib.hasSuffix s.data.toList [10] with
    | true =>
      rw [if_neg (by simp)]
      rw [hS] at hsf
      clear eS he
      go_enter Tryz.func91, Tryz.ntmps91
      go_wp2_with fail
      refine hct.mono ?_
      rintro e w1 ⟨rfl, rfl⟩
      clear hct
      go_wp2_with fail
      refine hsf.mono ?_
      rintro e w2 ⟨rfl, rfl⟩
      clear hsf
      go_wp2
      go_ret
      exact ⟨rfl, rfl⟩
    | false =>
      rw [if_pos ⟨he, rfl⟩]
      rw [hS] at hsf
      clear eS he
      go_enter Tryz.func91, Tryz.ntmps91
      go_wp2_with fail
      refine hct.mono ?_
      rintro e w1 ⟨rfl, rfl⟩
      clear hct
      go_wp2_with fail
      refine hsf.mono ?_
      rintro e w2 ⟨rfl, rfl⟩
      clear hsf
      go_wp2
      go_ret
      exact ⟨by go_num, rfl⟩

structure BoxF (W : World) (B bl : Nat) (v : Value) (acc : List Fl) : Prop where
  box : W.heap[bl]? = some (.cells #[v] 50 (0, 0))
  own : W.ownsRow B 23 6 v acc.length (flatF acc)
  off : v.ownBlock ≠ some bl
  low : B ≤ bl
  good : ∀ g ∈ acc, fileE g = 0

theorem BoxF.below {W W' : World} {B bl : Nat} {v : Value} {acc : List Fl} (h : BoxF W B bl v acc) (hb : Below W.heap.size W W') : BoxF W' B bl v acc :=
  ⟨(hb.block bl (lt_of_block h.box)).trans h.box, own_below h.own hb, h.off, h.low, h.good⟩

theorem boxF_put {W w5 : World} {B bl : Nat} {v v' : Value} {acc : List Fl} {x : Fl} (h : BoxF W B bl v acc) (hx : fileE x = 0) (ho : w5.ownsRow B 23 6 v' (acc.length + 1) (flatF acc ++ encF x)) (hg : W.grownBy w5 v.ownBlock) (hat : v'.ownBlock = v.ownBlock ∨ v'.ownBlock = some W.heap.size) :
    BoxF (w5.setCell ⟨bl, 0, none⟩ v') B bl v' (acc ++ [x]) ∧ w5.heap[bl]? = some (.cells #[v] 50 (0, 0)) := by
  have hlt := lt_of_block h.box
  have hb5 : w5.heap[bl]? = some (.cells #[v] 50 (0, 0)) := (hg.block bl hlt (fun e => h.off e.symm)).trans h.box
  have hoff : v'.ownBlock ≠ some bl := by
    rcases hat with e | e
    · rw [e]; exact h.off
    · rw [e]; intro e'; have := Option.some.inj e'; omega
  refine ⟨⟨one_setCell hb5, ?_, hoff, h.low, fun g hg => ?_⟩, hb5⟩
  · rw [List.length_append, flatF_append]
    have e1 : flatF [x] = encF x := by simp [flatF]
    rw [e1]
    exact ownsRow_setCell_other ho hoff _
  · rw [List.mem_append, List.mem_singleton] at hg
    rcases hg with hg | rfl
    · exact h.good g hg
    · exact hx

theorem step_file (acc : List Fl) (l : List UInt8) : stepE fileK acc l = if (readF l).2 ≠ 0 then (readF l).2 else behE acc (readF l).1 := by
  show (if (readF l).2 ≠ 0 then (readF l).2 else if acc ≠ [] ∧ decide (fk (readF l).1 ≤ fk (acc.getLastD zeroF)) = true then 9 else 0) = _
  unfold behE
  simp only [decide_eq_true_eq]

def TookF (a : Nat → Addr) (B bl : Nat) (acc : List Fl) (l : List UInt8) (W : World) (e : Ending) (w' : World) : Prop := Below B W w' ∧
  ((stepE fileK acc l ≠ 0 ∧ e = .returned (errV a (stepE fileK acc l))) ∨ (stepE fileK acc l = 0 ∧ e = .returned .nilIface ∧ ∃ v', BoxF w' B bl v' (acc ++ [(readF l).1])))

set_option maxRecDepth 100000 in
set_option maxHeartbeats 8000000 in
theorem took_any (line : ByteArray) (bl B : Nat) (v : Value) (acc : List Fl) (W : World) (a : Nat → Addr) (h : EnvT W a) (hB : BoxF W B bl v acc) (hs : line.size ≤ 100000) (hl : acc.length ≤ 100000) :
    Calls Tryz.prog 93 #[.string line, .pointer (some ⟨bl, 0, none⟩)] W (TookF a B bl acc line.data.toList W) := by
  obtain ⟨i0, hi0, hz0, hs0, hby0⟩ := Tryz.fileInfo
  unfold TookF
  rw [step_file]
  have hrd := fread_any line W a ⟨h.list.file, h.text⟩ hs
  have hok := readF_ok line.data.toList
  have HEN : Hid (∀ W', Below W.heap.size W W' → EnvL W' a) := fun W' hb => (h.below hb).list
  have hBW : B ≤ W.heap.size := Nat.le_trans hB.low (Nat.le_of_lt (lt_of_block hB.box))
  generalize readF line.data.toList = RF at hrd hok ⊢
  obtain ⟨f, E⟩ := RF
  dsimp only at hrd hok ⊢
  by_cases hE : E = 0
  · subst hE
    replace hok := hok rfl
    have hbh := fun W' (hb : Below W.heap.size W W') => behind_any v acc f W' a (HEN.out W' hb) (flsAt_of_own (hB.below hb).own).1 hl (fun g hg => ⟨by have := ok_size (hB.good g hg); omega, ok_path (hB.good g hg)⟩) (by have := ok_size hok; omega) (ok_path hok)
    simp only [ne_eq, not_true_eq_false, if_false]
    simp only [errV] at hrd
    obtain ⟨q, cp, rfl⟩ := own_slice hB.own
    have HOK : Hid (fileE f = 0) := hok
    have HBX : Hid (∀ W', Below W.heap.size W W' → BoxF W' B bl (.slice q acc.length cp) acc) := fun W' hb => hB.below hb
    have HGO : Hid (∀ k, Value.ownBlock (.slice q acc.length cp) = some k → B ≤ k ∧ k < W.heap.size) := fun k hk => hB.own.lt k hk
    clear hok hB
    obtain ⟨X, hX⟩ : ∃ X, behE acc f = X := ⟨_, rfl⟩
    have hX9 : X = 0 ∨ X = 9 := by
      rw [← hX]; unfold behE; split
      · exact Or.inr rfl
      · exact Or.inl rfl
    rw [hX] at hbh
    simp only [hX]
    clear hX
    have hfb := fun w1 => boxW_at w1 f
    have hbb := fun w1 => boxW_below w1 f
    unfold boxW at hfb hbb
    unfold flV at hrd hbh
    obtain ⟨N, hN⟩ : ∃ N, acc.length = N := ⟨_, rfl⟩
    have HN : Hid (acc.length = N) := hN
    rw [hN] at hbh HBX HGO hl
    clear hN
    obtain ⟨fp, fq, fn, flo, fhi, fseq⟩ := f
    dsimp only at hrd hbh hfb hbb ⊢
    go_enter Tryz.func93, Tryz.ntmps93
    go_wp2_with fail
    refine hrd.mono ?_
    rintro e w1 ⟨rfl, hb1⟩
    clear hrd
    have hf2 := hfb w1
    have hb2 := hbb w1
    clear hfb hbb
    go_upto_region 3 with fail
    generalize w1.alloc (.cells #[.string fp, .string fq, .int .i64 fn, .int .i64 flo, .int .i64 fhi, .int .i64 fseq] 23) = W2 at hf2 hb2 ⊢
    have hB2 : Below W.heap.size W W2 := hb1.trans (hb2.mono hb1.size)
    have hbx2 := HBX.out W2 hB2
    have k0 := cell_of_one hbx2.box
    obtain ⟨z0, z1, z2, z3, z4, z5, -⟩ := hf2.cells
    dsimp only at z0 z1 z2 z3 z4 z5
    have hbe := hbh W2 hB2
    clear hbh hbx2
    go_wp2_with fail
    refine hbe.mono ?_
    rintro e w3 ⟨rfl, hb3⟩
    clear hbe k0 z0 z1 z2 z3 z4 z5
    have hB3 : Below W.heap.size W w3 := hB2.trans (hb3.mono hB2.size)
    have hf3 := hf2.below hb3
    have hbx3 := HBX.out w3 hB3
    obtain ⟨z0, z1, z2, z3, z4, z5, -⟩ := hf3.cells
    dsimp only at z0 z1 z2 z3 z4 z5
    clear hf2 hb2 hb3 hf3 hB2
    rcases hX9 with rfl | rfl
    · have hal : Below w3.heap.size w3 (w3.alloc (.cells #[.string fp, .string fq, .int .i64 fn, .int .i64 flo, .int .i64 fhi, .int .i64 fseq] 23)) := (Below.refl _ _).alloc (Nat.le_refl _) _
      have hb4 : Below W.heap.size W (w3.alloc (.cells #[.string fp, .string fq, .int .i64 fn, .int .i64 flo, .int .i64 fhi, .int .i64 fseq] 23)) := hB3.trans (hal.mono hB3.size)
      have k0 := cell_of_one hbx3.box
      have HB4 : Hid (BoxF (w3.alloc (.cells #[.string fp, .string fq, .int .i64 fn, .int .i64 flo, .int .i64 fhi, .int .i64 fseq] 23)) B bl (.slice q N cp) acc) := hbx3.below hal
      clear hbx3
      simp only [errV]
      go_wp2_with (at_builtin; refine wpList_append_own_at _ rfl _ _ 50 rfl B 23 i0 (.agg #[.string ⟨#[]⟩, .string ⟨#[]⟩, .int .i64 0, .int .i64 0, .int .i64 0, .int .i64 0]) 6 64 Tryz.underlying50 hi0 hz0 hs0 hby0 rfl (by decide) (.slice q N cp) acc.length (flatF acc) rfl HB4.out.own ⟨w3.heap.size, 0, none⟩ 1 1 (encF (fp, fq, fn, flo, fhi, fseq)) rfl ?qd1 ?qd2 ?qd3 ?qd4 ?qd5 ?qd6 ?_)
      case qd1 => rfl
      case qd2 => first | exact cells6 _ _ | exact fun j u hu => hu
      case qd3 => exact encF_one _
      case qd4 => have := HN.out; unfold maxLen; omega
      case qd5 => have := HN.out; omega
      case qd6 => exact Nat.le_trans hBW hb4.size
      intro v7 w7 hown7 hgrow7 _ hat7
      obtain ⟨g7, cap7, rfl⟩ := own_next hown7
      obtain ⟨hput, hb7⟩ := boxF_put (x := (fp, fq, fn, flo, fhi, fseq)) HB4.out HOK.out hown7 hgrow7 (by simpa using hat7)
      have hcb7 := cell_of_one hb7
      have hfb7 := free_of_one hb7
      have hW7 : Below B W w7 := (hb4.mono hBW).grown hgrow7 (Nat.le_trans hBW hb4.size) (fun k hk => own_far HB4.out.own hk)
      have hW8 : Below B W (w7.setCell ⟨bl, 0, none⟩ (.slice (some ⟨g7, 0, none⟩) (acc.length + 1) cap7)) := hW7.setCell HB4.out.low _
      have HPUT : Hid (BoxF (w7.setCell ⟨bl, 0, none⟩ (.slice (some ⟨g7, 0, none⟩) (acc.length + 1) cap7)) B bl (.slice (some ⟨g7, 0, none⟩) (acc.length + 1) cap7) (acc ++ [(fp, fq, fn, flo, fhi, fseq)])) := hput
      clear hown7 hgrow7 hat7 hput z0 z1 z2 z3 z4 z5 k0
      go_wp2
      go_ret
      first | exact ⟨hW8, Or.inr ⟨rfl, rfl, _, HPUT.out⟩⟩ | exact ⟨hW8, rfl, _, HPUT.out⟩
    · simp only [errV]
      clear hbx3 z0 z1 z2 z3 z4 z5
      go_wp2
      go_ret
      first | exact ⟨hB3.mono hBW, Or.inl ⟨by decide, rfl⟩⟩ | exact ⟨hB3.mono hBW, rfl⟩
  · obtain ⟨j, rfl⟩ : ∃ j, E = j + 1 := ⟨E - 1, by omega⟩
    simp only [ne_eq, hE, not_false_eq_true, if_true]
    simp only [errV] at hrd ⊢
    have hbb := fun w1 => boxW_below w1 f
    unfold boxW at hbb
    unfold flV at hrd
    clear hok hB
    obtain ⟨fp, fq, fn, flo, fhi, fseq⟩ := f
    dsimp only at hrd hbb ⊢
    go_enter Tryz.func93, Tryz.ntmps93
    go_wp2_with fail
    refine hrd.mono ?_
    rintro e w1 ⟨rfl, hb1⟩
    clear hrd
    have hb2 := hbb w1
    clear hbb
    go_upto_region 2 with fail
    generalize w1.alloc (.cells #[.string fp, .string fq, .int .i64 fn, .int .i64 flo, .int .i64 fhi, .int .i64 fseq] 23) = W2 at hb2 ⊢
    have hB2 : Below W.heap.size W W2 := hb1.trans (hb2.mono hb1.size)
    go_wp2
    go_ret
    first | exact ⟨hB2.mono hBW, Or.inl ⟨by simp, rfl⟩⟩ | exact ⟨hB2.mono hBW, rfl⟩

def EachPost (a : Nat → Addr) (B bl : Nat) (W : World) (R : List Fl × Nat × Nat) (e : Ending) (w' : World) : Prop := Below B W w' ∧ ((R.2.1 = 0 ∧ e = .returned .nilIface ∧ ∃ v', BoxF w' B bl v' R.1) ∨
    (R.2.1 ≠ 0 ∧ ∃ fb, e = .returned (.iface 108 (.pointer (some ⟨fb, 0, none⟩))) ∧ w'.cell? ⟨fb, 0, none⟩ = some (.int .i64 R.2.2) ∧ w'.cell? ⟨fb, 1, none⟩ = some (errV a R.2.1)))

set_option maxRecDepth 100000 in
set_option maxHeartbeats 8000000 in
theorem eachFile_any (bl B : Nat) (v : Value) (body : ByteArray) (W : World) (a : Nat → Addr) (hlowE : ∀ W', Below B W W' → EnvT W' a) (hB0 : BoxF W B bl v []) (hBW : B ≤ W.heap.size) (hs : body.size ≤ 20000) :
    Calls Tryz.prog 92 #[.string body, .func (.func 93) #[] #[.pointer (some ⟨bl, 0, none⟩)]] W (EachPost a B bl W (rowsG fileK (pieces 10 body.data.toList) 0 [])) := by
  have eg : ∀ args w, (callFunc 93 args).run Tryz.prog w = .ok (.enter 93 args) w := enters_of Tryz.func93 (by kernel_rfl) rfl
  unfold EachPost
  obtain ⟨R, hR⟩ : ∃ R, rowsG fileK (pieces 10 body.data.toList) 0 [] = R := ⟨_, rfl⟩
  rw [hR]
  have HR : Hid (rowsG fileK (pieces 10 body.data.toList) 0 [] = R) := hR
  clear hR
  go_enter Tryz.func92, Tryz.ntmps92
  go_wp2
  go_loopw [0, 5] (fun sv n wr => ∃ (rest : ByteArray) (acc : List Fl), sv = .string rest ∧ n = .int .i64 acc.length ∧ rest.size + acc.length ≤ 20000 ∧ Below B W wr ∧ (∃ v', BoxF wr B bl v' acc) ∧ rowsG fileK (pieces 10 rest.data.toList) acc.length acc = R) (fun sv _ _ => strLen sv)
  case atStart => exact ⟨body, [], rfl, rfl, by simpa using hs, Below.refl _ _, ⟨v, hB0⟩, HR.out⟩
  case round =>
    clear hB0
    obtain ⟨rest, acc, rfl, rfl, hsz, hb, ⟨v1, hIr⟩, hrec⟩ := hrel
    have HREC : Hid (rowsG fileK (pieces 10 rest.data.toList) acc.length acc = R) := hrec
    clear hrec HR
    have hEr := hlowE wr hb
    have hBr : B ≤ wr.heap.size := Nat.le_trans hBW hb.size
    obtain ⟨n, hn⟩ : ∃ n, acc.length = n := ⟨_, rfl⟩
    have HN : Hid (acc.length = n) := hn
    rw [hn] at hsz
    simp only [hn]
    clear hn
    by_cases he : rest.size = 0
    · have hre : rest.data.toList = [] := List.length_eq_zero_iff.1 (by rw [size_list]; exact he)
      have hbe : (rest.toList == []) = true := eqB_of hre
      have HRE : Hid (R = (acc, 0, 0)) := by
        show _ = _
        rw [← HREC.out, hre]; rfl
      have HIr : Hid (BoxF wr B bl v1 acc) := hIr
      clear hre hIr
      go_wp2
      go_ret
      refine ⟨hb, Or.inl ⟨by rw [HRE.out], rfl, v1, ?_⟩⟩
      rw [HRE.out]; exact HIr.out
    · have hne : rest.data.toList ≠ [] := fun e => he (by rw [← size_list, e]; rfl)
      have hbe : (rest.toList == []) = false := neB_of hne
      obtain ⟨mx, hmx⟩ := hEr.list.file.env.base.maxl
      have hcut := Tryz.strings_Cut rest ⟨#[10]⟩ mx wr (by omega) hmx
      dsimp only at hcut
      rcases cut_cases 10 rest.data.toList with ⟨hno, hc⟩ | ⟨la, lb, hl, hno, hc⟩
      · rw [hc] at hcut
        dsimp only at hcut
        have HRE : Hid (R = ([], 1, n)) := by
          show _ = _
          rw [← HREC.out, pieces_none 10 _ hno, rowsG_one, if_neg hne, HN.out]
        clear hc hno hne hIr
        generalize (⟨rest.data.toList.toArray⟩ : ByteArray) = fB at hcut
        go_wp2_with fail
        refine hcut.mono ?_
        rintro e w1 ⟨rfl, q, rfl⟩
        clear hcut
        have hbq : Below wr.heap.size wr (wr.drewN q) := below_drewN (Below.refl _ _) q
        have hb1 : Below B W (wr.drewN q) := hb.trans (hbq.mono hBr)
        have ht := (hlowE _ hb1).text
        clear hEr hmx hbq
        generalize wr.drewN q = W1 at hb1 ht ⊢
        have hal : Below W1.heap.size W1 (W1.alloc (.cells #[.int .i64 n, .iface 289 (.pointer (some (a 0)))] 110)) := (Below.refl _ _).alloc (Nat.le_refl _) _
        have hb2 : Below B W (W1.alloc (.cells #[.int .i64 n, .iface 289 (.pointer (some (a 0)))] 110)) := hb1.trans (hal.mono (Nat.le_trans hBW hb1.size))
        go_wp2
        go_ret
        exact ⟨hb2, Or.inr ⟨by rw [HRE.out]; exact Nat.one_ne_zero, W1.heap.size, rfl, by rw [HRE.out]; simp, by rw [HRE.out]; simp [errV]⟩⟩
      · rw [hc] at hcut
        dsimp only at hcut
        have hlen : la.length + lb.length + 1 = rest.size := by rw [← size_list, hl]; simp; omega
        have hrw : R = if stepE fileK acc la ≠ 0 then ([], stepE fileK acc la, n) else rowsG fileK (pieces 10 lb) (n + 1) (acc ++ [(readF la).1]) := by
          rw [← HREC.out, hl, pieces_append 10 la lb hno, rowsG_step fileK la _ (pieces_ne 10 lb), HN.out]
          rfl
        have eA : (⟨la.toArray⟩ : ByteArray) = bytesOf la := rfl
        have eB : (⟨lb.toArray⟩ : ByteArray) = bytesOf lb := rfl
        rw [eA, eB] at hcut
        have eAd : (bytesOf la).data.toList = la := by simp [bytesOf]
        have eBd : (bytesOf lb).data.toList = lb := by simp [bytesOf]
        have hsA : (bytesOf la).size ≤ 100000 := by rw [bytes_len]; omega
        have hszB : (bytesOf lb).size + n + 1 ≤ 20000 ∧ (bytesOf lb).size < rest.size := by rw [bytes_len]; omega
        have hacl : acc.length ≤ 100000 := by rw [HN.out]; omega
        clear hc hno hne hl eA eB hlen
        go_wp2_with fail
        refine hcut.mono ?_
        rintro e w1 ⟨rfl, q, rfl⟩
        clear hcut
        have hbq : Below wr.heap.size wr (wr.drewN q) := below_drewN (Below.refl _ _) q
        have hb1 : Below B W (wr.drewN q) := hb.trans (hbq.mono hBr)
        have hE1 := hlowE _ hb1
        have hI1 := hIr.below hbq
        clear hIr hEr hmx hbq
        generalize wr.drewN q = W1 at hb1 hE1 hI1 ⊢
        have hln := took_any (bytesOf la) bl B v1 acc W1 a hE1 hI1 hsA hacl
        rw [eAd] at hln
        unfold TookF at hln
        have HBD : Hid ((bytesOf lb).data.toList = lb) := eBd
        clear hI1 eAd eBd hacl
        obtain ⟨E, hEE⟩ : ∃ E, stepE fileK acc la = E := ⟨_, rfl⟩
        rw [hEE] at hln hrw
        clear hEE
        by_cases hE0 : E = 0
        · subst hE0
          rw [if_neg (by simp)] at hrw
          have HRE : Hid (rowsG fileK (pieces 10 lb) (n + 1) (acc ++ [(readF la).1]) = R) := hrw.symm
          clear hrw
          simp only [ne_eq, not_true_eq_false, false_and, false_or, true_and] at hln
          generalize (readF la).1 = x at hln HRE
          generalize bytesOf la = lA at hln hsA ⊢
          generalize bytesOf lb = lB at hszB HBD ⊢
          go_wp2_with (go_at_fn 93; refine hln.mono ?_; rintro e w2 ⟨hb2, rfl, v2, hI2⟩)
          have hb3 : Below B W w2 := hb1.trans hb2
          have HALL : Hid (BoxF w2 B bl v2 (acc ++ [x])) := hI2
          clear hI2 hln
          go_roundw
          case rel => exact ⟨lB, acc ++ [x], rfl, by rw [List.length_append, HN.out]; go_num, by rw [List.length_append, HN.out]; simp; omega, hb3, ⟨v2, HALL.out⟩, by rw [HBD.out, List.length_append, HN.out]; exact HRE.out⟩
          case measure => simp only [strLen]; exact hszB.2
        · rw [if_pos hE0] at hrw
          obtain ⟨E', hE'⟩ : ∃ E', E = E' + 1 := ⟨E - 1, by omega⟩
          subst hE'
          have HRE : Hid (R = ([], E' + 1, n)) := hrw
          clear hrw
          simp only [errV, ne_eq, Nat.succ_ne_zero, not_false_eq_true, false_and, or_false, true_and] at hln
          generalize bytesOf la = lA at hln hsA ⊢
          generalize bytesOf lb = lB at hszB HBD ⊢
          go_wp2_with (go_at_fn 93; refine hln.mono ?_; rintro e w2 ⟨hb2, rfl⟩)
          have hb3 : Below B W w2 := hb1.trans hb2
          have hal : Below w2.heap.size w2 (w2.alloc (.cells #[.int .i64 n, .iface 289 (.pointer (some (a E')))] 110)) := (Below.refl _ _).alloc (Nat.le_refl _) _
          have hb4 : Below B W (w2.alloc (.cells #[.int .i64 n, .iface 289 (.pointer (some (a E')))] 110)) := hb3.trans (hal.mono (Nat.le_trans hBW hb3.size))
          clear hln
          go_wp2
          go_ret
          exact ⟨hb4, Or.inr ⟨by rw [HRE.out]; exact Nat.succ_ne_zero _, w2.heap.size, rfl, by rw [HRE.out]; simp, by rw [HRE.out]; simp [errV]⟩⟩

set_option maxRecDepth 100000 in
set_option maxHeartbeats 2000000 in
theorem lread_new (s : ByteArray) (w : World) (a : Nat → Addr) (h : EnvT w a) (hs : s.size ≤ 20000) :
    Calls Tryz.prog 29 #[.string s] w fun e w' => ∃ v' ev, e = .returned (.tuple #[v', ev]) ∧ FlsAt w' v' (readL s.data.toList).1 ∧ ToldE w' a ev (readL s.data.toList).2 ∧ Below w.heap.size w w' ∧ NewL w v' := by
  have hln := lines_any s w (by omega)
  rw [readL_def]
  by_cases hm : 60 < manyL (pieces 10 s.data.toList)
  · rw [if_pos hm]
    dsimp only
    have hi : (60 : Int) < (manyL (pieces 10 s.data.toList) : Int) := by omega
    generalize manyL (pieces 10 s.data.toList) = M at hln hi
    have hf := h.list.full
    clear hm
    go_enter Tryz.func29, Tryz.ntmps29
    go_wp2_with fail
    refine hln.mono ?_
    rintro e w1 ⟨rfl, rfl⟩
    clear hln
    go_wp2
    go_quiet (fail)
    go_wp2
    go_ret2
    exact ⟨_, _, rfl, Or.inl ⟨none, 0, rfl, fun _ => rfl, rfl⟩, rfl, below_drewN (Below.refl _ _) nq, newL_nil _⟩
  · rw [if_neg hm]
    have hi : ¬ (60 : Int) < (manyL (pieces 10 s.data.toList) : Int) := by omega
    have hal : Below w.heap.size w (w.alloc (.cells #[.slice none 0 0] 50)) := (Below.refl _ _).alloc (Nat.le_refl _) _
    have hbx : BoxF (w.alloc (.cells #[.slice none 0 0] 50)) w.heap.size w.heap.size (.slice none 0 0) [] := ⟨heap_alloc_new _ _, World.ownsRow_nil _ _ _ _, by simp [Value.ownBlock], Nat.le_refl _, by simp⟩
    have hea := eachFile_any w.heap.size w.heap.size (.slice none 0 0) s (w.alloc (.cells #[.slice none 0 0] 50)) a (fun W' hb => h.below (hal.trans hb)) hbx hal.size hs
    unfold EachPost at hea
    generalize manyL (pieces 10 s.data.toList) = M at hln hi
    generalize rowsG fileK (pieces 10 s.data.toList) 0 [] = R at hea ⊢
    obtain ⟨xs, E, n⟩ := R
    dsimp only at hea ⊢
    clear hm hbx
    by_cases hE : E = 0
    · subst hE
      simp only [ne_eq, not_true_eq_false, false_and, or_false, true_and, if_false] at hea ⊢
      go_enter Tryz.func29, Tryz.ntmps29
      go_wp2_with fail
      refine hln.mono ?_
      rintro e w1 ⟨rfl, rfl⟩
      clear hln
      go_wp2_with fail
      refine hea.mono ?_
      rintro e w2 ⟨hb2, rfl, v2, hbx⟩
      clear hea
      have hB2 := hal.trans hb2
      have k0 := cell_of_one hbx.box
      have HFL : Hid (FlsAt w2 v2 xs) := (flsAt_of_own hbx.own).1
      have hnw : Hid (NewL w1 v2) := fun k hk => own_ge hbx.own hk
      obtain ⟨q2, c2, rfl⟩ := own_slice hbx.own
      generalize xs.length = N at HFL k0 hnw
      clear hbx
      go_wp2
      go_ret2
      exact ⟨_, _, rfl, HFL.out, rfl, hB2, hnw.out⟩
    · simp only [ne_eq, hE, not_false_eq_true, true_and, false_and, false_or, if_true] at hea ⊢
      go_enter Tryz.func29, Tryz.ntmps29
      go_wp2_with fail
      refine hln.mono ?_
      rintro e w1 ⟨rfl, rfl⟩
      clear hln
      go_wp2_with fail
      refine hea.mono ?_
      rintro e w2 ⟨hb2, fb, rfl, k0, k1⟩
      clear hea
      have hB2 := hal.trans hb2
      go_wp2
      go_ret2
      exact ⟨_, _, rfl, Or.inl ⟨none, 0, rfl, fun _ => rfl, rfl⟩, ⟨hE, fb, rfl, k0, k1⟩, hB2, newL_nil _⟩
end Go.Proofs.YtpkoefpdpoikkaaGreatDoor
