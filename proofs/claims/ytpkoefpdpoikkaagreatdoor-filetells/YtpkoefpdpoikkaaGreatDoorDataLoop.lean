/-
  The contracts of data.eachLine and data.ReadLines, for any kind of file: the lines of a body, one behind the other, each handed to the function that takes it.
-/
import Derived.Test.YtpkoefpdpoikkaaGreatDoorDataRead
import Derived.Maps.AppendAt
import Derived.Deep.Onto
namespace Go.Proofs.YtpkoefpdpoikkaaGreatDoor
open Go.RowKit Go.Extern.Stop Go.Stop Go.Extern Go.Sort Go.Shelf Go.Lib

def strLen : Value → Nat
  | .string s => s.size
  | _ => 0

def stepE {β : Type} (k : FK β) (acc : List β) (l : List UInt8) : Nat := if (k.rd l).2 ≠ 0 then (k.rd l).2 else if acc ≠ [] ∧ k.bad (k.rd l).1 (acc.getLastD k.d) = true then 9 else 0

theorem rowsG_step {β : Type} (k : FK β) (l : List UInt8) (r : List (List UInt8)) (hr : r ≠ []) (at_ : Nat) (acc : List β) : rowsG k (l :: r) at_ acc = if stepE k acc l ≠ 0 then ([], stepE k acc l, at_) else rowsG k r (at_ + 1) (acc ++ [(k.rd l).1]) := by
  obtain ⟨l2, r2, rfl⟩ := List.exists_cons_of_ne_nil hr
  rw [rowsG_cons]
  unfold stepE
  by_cases h1 : (k.rd l).2 ≠ 0
  · simp only [if_pos h1]
  · simp only [if_neg h1]
    by_cases h2 : acc ≠ [] ∧ k.bad (k.rd l).1 (acc.getLastD k.d) = true
    · simp only [if_pos h2]; rfl
    · simp only [if_neg h2]; rfl

structure Taker {β : Type} (k : FK β) (a : Nat → Addr) (En : World → Prop) (F bl B P Q : Nat) (Inv : World → List β → Prop) : Prop where
  env : ∀ {W : World}, En W → EnvD0 W a
  ent : ∀ args w, (callFunc F args).run Tryz.prog w = .ok (.enter F args) w
  low : B ≤ P
  keep : ∀ {W W' : World} {acc : List β}, Inv W acc → Below W.heap.size W W' → Inv W' acc
  set : ∀ {W : World} {acc : List β} (j o : Nat) (u : Value), P ≤ j → j < Q → Inv W acc → Inv (W.setCell ⟨j, o, none⟩ u) acc
  take : ∀ (W : World) (line : ByteArray) (acc : List β), En W → Inv W acc → Q ≤ W.heap.size → line.size ≤ 100000 → acc.length ≤ 100000 →
    Calls Tryz.prog F #[.string line, .pointer (some ⟨bl, 0, none⟩)] W fun e w' => Below B W w' ∧ (∀ j, P ≤ j → j < Q → w'.heap[j]? = W.heap[j]?) ∧
      ((stepE k acc line.data.toList ≠ 0 ∧ e = .returned (.tuple #[.int .i64 0, errV a (stepE k acc line.data.toList)]) ∧ Inv w' acc) ∨
       (stepE k acc line.data.toList = 0 ∧ e = .returned (.tuple #[.int .i64 (k.key (k.rd line.data.toList).1), .nilIface]) ∧ Inv w' (acc ++ [(k.rd line.data.toList).1])))

def FunAt (W : World) (t F bl : Nat) : Prop := W.heap[t]? = some (.cells #[.func (.func F) #[] #[.pointer (some ⟨bl, 0, none⟩)]] 132 (0, 0))

theorem FunAt.cell {W : World} {t F bl : Nat} (h : FunAt W t F bl) : W.cell? ⟨t, 0, none⟩ = some (.func (.func F) #[] #[.pointer (some ⟨bl, 0, none⟩)]) := cell_of_one h
theorem FunAt.below {W W' : World} {t F bl : Nat} (h : FunAt W t F bl) (hb : Below W.heap.size W W') : FunAt W' t F bl := by
  unfold FunAt at *
  exact (hb.block t (lt_of_block h)).trans h

set_option maxRecDepth 100000 in
set_option maxHeartbeats 2000000 in
theorem line1_any {β : Type} {k : FK β} {a : Nat → Addr} {En : World → Prop} {F bl B P Q : Nat} {Inv : World → List β → Prop} (T : Taker k a En F bl B P Q Inv) (t g : Nat) (line : ByteArray) (acc : List β) (W : World) (hE : En W) (hI : Inv W acc) (hQ : Q ≤ W.heap.size) (hF : FunAt W t F bl) (hH : HeadAt W g acc.length (endsZ (keysG k acc))) (ht : P ≤ t ∧ t < Q) (hg : P ≤ g ∧ g < Q) (htg : t ≠ g) (hs : line.size ≤ 100000) (hl : acc.length ≤ 100000) :
    Calls Tryz.prog 210 #[.string line, .pointer (some ⟨t, 0, none⟩), .pointer (some ⟨g, 0, none⟩)] W fun e w' => Below B W w' ∧ FunAt w' t F bl ∧ (∀ j, P ≤ j → j < Q → j ≠ g → w'.heap[j]? = W.heap[j]?) ∧
      ((stepE k acc line.data.toList ≠ 0 ∧ e = .returned (errV a (stepE k acc line.data.toList))) ∨
       (stepE k acc line.data.toList = 0 ∧ e = .returned .nilIface ∧ Inv w' (acc ++ [(k.rd line.data.toList).1]) ∧ HeadAt w' g (acc.length + 1) (endsZ (keysG k (acc ++ [(k.rd line.data.toList).1]))))) := by
  have eg := T.ent
  have htk := T.take W line acc hE hI hQ hs hl
  have hc := hF.cell
  have hBg : B ≤ g := Nat.le_trans T.low hg.1
  have HFA : Hid (FunAt W t F bl) := hF
  have HHA : Hid (HeadAt W g acc.length (endsZ (keysG k acc))) := hH
  have HKE : Hid (endsZ (keysG k (acc ++ [(k.rd line.data.toList).1])) = endsP acc.length (endsZ (keysG k acc)) (k.key (k.rd line.data.toList).1)) := by
    show _ = _
    have := ends_more (keysG k acc) (k.key (k.rd line.data.toList).1)
    rw [show (keysG k acc).length = acc.length by simp [keysG]] at this
    rw [← this]
    simp [keysG]
  have HT : Hid (Taker k a En F bl B P Q Inv) := T
  clear hF hH hI T
  obtain ⟨E, hEE⟩ : ∃ E, stepE k acc line.data.toList = E := ⟨_, rfl⟩
  rw [hEE] at htk
  simp only [hEE]
  clear hEE
  obtain ⟨x, hx⟩ : ∃ x, (k.rd line.data.toList).1 = x := ⟨_, rfl⟩
  rw [hx] at htk HKE
  simp only [hx]
  clear hx
  by_cases hE0 : E = 0
  · subst hE0
    have htk2 : Calls Tryz.prog F #[.string line, .pointer (some ⟨bl, 0, none⟩)] W fun e w' => e = .returned (.tuple #[.int .i64 (k.key x), .nilIface]) ∧ Below B W w' ∧ (∀ j, P ≤ j → j < Q → w'.heap[j]? = W.heap[j]?) ∧ Inv w' (acc ++ [x]) := htk.mono fun e w' ⟨h1, h2, h3⟩ => by
      rcases h3 with ⟨h, _⟩ | ⟨_, h, h'⟩
      · exact absurd rfl h
      · exact ⟨h, h1, h2, h'⟩
    clear htk
    generalize k.key x = key at htk2 HKE
    go_enter Tryz.func210, Tryz.ntmps210
    go_wp2_with (go_at_fn F; refine htk2.mono ?_; rintro e w1 ⟨rfl, hb1, hfr, hI1⟩)
    clear htk2
    have hFA1 : FunAt w1 t F bl := by have := HFA.out; unfold FunAt at *; rw [hfr t ht.1 ht.2]; exact this
    have hHA1 : HeadAt w1 g acc.length (endsZ (keysG k acc)) := by have := HHA.out; unfold HeadAt at *; rw [hfr g hg.1 hg.2]; exact this
    have HFR : Hid (∀ j, P ≤ j → j < Q → w1.heap[j]? = W.heap[j]?) := hfr
    have HF1 : Hid (FunAt w1 t F bl) := hFA1
    have hct := count_any g acc.length (endsZ (keysG k acc)) key w1 hHA1 hl
    have HI1 : Hid (Inv w1 (acc ++ [x])) := hI1
    have HH1 : Hid (HeadAt w1 g acc.length (endsZ (keysG k acc))) := hHA1
    clear hfr hFA1 hc hHA1 hI1
    refine hct.mono ?_
    rintro e w2 ⟨rfl, rfl⟩
    clear hct
    go_wp2
    go_ret
    refine ⟨headW_below hb1 hBg, ?_, fun j h1 h2 h3 => ?_, Or.inr ⟨by first | rfl | trivial, rfl, ?_, ?_⟩⟩
    · have := HF1.out
      unfold FunAt at *
      rw [headW_other _ _ _ _ _ htg]; exact this
    · rw [headW_other _ _ _ _ _ h3]; exact HFR.out j h1 h2
    · exact HT.out.set g 0 _ hg.1 hg.2 (HT.out.set g 2 _ hg.1 hg.2 (HT.out.set g 1 _ hg.1 hg.2 HI1.out))
    · rw [HKE.out]; exact headW_at HH1.out
  · obtain ⟨E', hE'⟩ : ∃ E', E = E' + 1 := ⟨E - 1, by omega⟩
    subst hE'
    have htk2 : Calls Tryz.prog F #[.string line, .pointer (some ⟨bl, 0, none⟩)] W fun e w' => e = .returned (.tuple #[.int .i64 0, .iface 289 (.pointer (some (a E')))]) ∧ Below B W w' ∧ (∀ j, P ≤ j → j < Q → w'.heap[j]? = W.heap[j]?) := htk.mono fun e w' ⟨h1, h2, h3⟩ => by
      rcases h3 with ⟨_, h, _⟩ | ⟨h, _⟩
      · exact ⟨h, h1, h2⟩
      · exact absurd h hE0
    clear htk
    simp only [errV]
    go_enter Tryz.func210, Tryz.ntmps210
    go_wp2_with (go_at_fn F; refine htk2.mono ?_; rintro e w1 ⟨rfl, hb1, hfr⟩)
    clear htk2
    have hFA1 : FunAt w1 t F bl := by have := HFA.out; unfold FunAt at *; rw [hfr t ht.1 ht.2]; exact this
    go_ret
    exact ⟨hb1, hFA1, fun j h1 h2 _ => hfr j h1 h2, Or.inl ⟨hE0, rfl⟩⟩

def LinesPost {β : Type} (k : FK β) (W : World) (a : Nat → Addr) (B P Q g : Nat) (Inv : World → List β → Prop) (R : List β × Nat × Nat) (e : Ending) (w' : World) : Prop :=
  Below B W w' ∧ (∀ j, P ≤ j → j < Q → j ≠ g → w'.heap[j]? = W.heap[j]?) ∧ ((R.2.1 = 0 ∧ e = .returned .nilIface ∧ Inv w' R.1 ∧ HeadAt w' g R.1.length (endsZ (keysG k R.1))) ∨
    (R.2.1 ≠ 0 ∧ ∃ fb, e = .returned (.iface 108 (.pointer (some ⟨fb, 0, none⟩))) ∧ w'.cell? ⟨fb, 0, none⟩ = some (.int .i64 R.2.2) ∧ w'.cell? ⟨fb, 1, none⟩ = some (errV a R.2.1)))

theorem frame_below {B W w w' P Q g} (_ : Below B W w) (h : ∀ j, P ≤ j → j < Q → j ≠ g → w.heap[j]? = W.heap[j]?) (hQ : Q ≤ w.heap.size) (hb : Below w.heap.size w w') : ∀ j, P ≤ j → j < Q → j ≠ g → w'.heap[j]? = W.heap[j]? :=
  fun j h1 h2 h3 => (hb.block j (Nat.lt_of_lt_of_le h2 hQ)).trans (h j h1 h2 h3)

set_option maxRecDepth 100000 in
set_option maxHeartbeats 8000000 in
theorem eachLine_any {β : Type} {k : FK β} {a : Nat → Addr} {En : World → Prop} {F bl B P Q : Nat} {Inv : World → List β → Prop} (T : Taker k a En F bl B P Q Inv) (t g : Nat) (body : ByteArray) (W : World) (hlowE : ∀ W', Below B W W' → En W') (hI : Inv W []) (hQ : Q ≤ W.heap.size) (hBW : B ≤ W.heap.size) (hF : FunAt W t F bl) (hH : HeadAt W g 0 (0, 0)) (ht : P ≤ t ∧ t < Q) (hg : P ≤ g ∧ g < Q) (htg : t ≠ g) (hs : body.size ≤ 20000) :
    Calls Tryz.prog 92 #[.string body, .func (.func 210) #[] #[.pointer (some ⟨t, 0, none⟩), .pointer (some ⟨g, 0, none⟩)]] W fun e w' => LinesPost k W a B P Q g Inv (rowsG k (pieces 10 body.data.toList) 0 []) e w' := by
  have eg : ∀ args w, (callFunc 210 args).run Tryz.prog w = .ok (.enter 210 args) w := enters_of Tryz.func210 (by kernel_rfl) rfl
  obtain ⟨R, hR⟩ : ∃ R, rowsG k (pieces 10 body.data.toList) 0 [] = R := ⟨_, rfl⟩
  rw [hR]
  have HR : Hid (rowsG k (pieces 10 body.data.toList) 0 [] = R) := hR
  clear hR
  have HT : Hid (Taker k a En F bl B P Q Inv) := T
  have hHn : HeadAt W g ([] : List β).length (endsZ (keysG k [])) := hH
  clear T hH
  go_enter Tryz.func92, Tryz.ntmps92
  go_wp2
  go_loopw [0, 5] (fun sv n wr => ∃ (rest : ByteArray) (acc : List β), sv = .string rest ∧ n = .int .i64 acc.length ∧ rest.size + acc.length ≤ 20000 ∧ Below B W wr ∧ (∀ j, P ≤ j → j < Q → j ≠ g → wr.heap[j]? = W.heap[j]?) ∧ Inv wr acc ∧ FunAt wr t F bl ∧ HeadAt wr g acc.length (endsZ (keysG k acc)) ∧ rowsG k (pieces 10 rest.data.toList) acc.length acc = R) (fun sv _ _ => strLen sv)
  case atStart => exact ⟨body, [], rfl, rfl, by simpa using hs, Below.refl _ _, fun _ _ _ _ => rfl, hI, hF, hHn, HR.out⟩
  case round =>
    clear hI hF hHn
    obtain ⟨rest, acc, rfl, rfl, hsz, hb, hfr, hIr, hFr, hHr, hrec⟩ := hrel
    have HREC : Hid (rowsG k (pieces 10 rest.data.toList) acc.length acc = R) := hrec
    have HFR : Hid (∀ j, P ≤ j → j < Q → j ≠ g → wr.heap[j]? = W.heap[j]?) := hfr
    clear hrec HR hfr
    have hEr := hlowE wr hb
    have hQr : Q ≤ wr.heap.size := Nat.le_trans hQ hb.size
    have hBr : B ≤ wr.heap.size := Nat.le_trans hBW hb.size
    obtain ⟨n, hn⟩ : ∃ n, acc.length = n := ⟨_, rfl⟩
    have HN : Hid (acc.length = n) := hn
    rw [hn] at hsz
    simp only [hn]
    clear hn
    by_cases he : rest.size = 0
    · have hre : rest.data.toList = [] := List.length_eq_zero_iff.1 (by rw [size_list]; exact he)
      have hbe : (rest.toList == []) = true := eqB_of hre
      have HRE : Hid (R = (acc, 0, 0)) := by
        show _ = _
        rw [← HREC.out, hre]; rfl
      have HIr : Hid (Inv wr acc ∧ HeadAt wr g acc.length (endsZ (keysG k acc))) := ⟨hIr, hHr⟩
      clear hre hIr hHr hFr
      go_wp2
      go_ret
      refine ⟨hb, HFR.out, Or.inl ⟨by rw [HRE.out], rfl, ?_, ?_⟩⟩
      · rw [HRE.out]; exact HIr.out.1
      · rw [HRE.out]; exact HIr.out.2
    · have hne : rest.data.toList ≠ [] := fun e => he (by rw [← size_list, e]; rfl)
      have hbe : (rest.toList == []) = false := neB_of hne
      obtain ⟨mx, hmx⟩ := (HT.out.env hEr).env.maxl
      have hcut := Tryz.strings_Cut rest ⟨#[10]⟩ mx wr (by omega) hmx
      dsimp only at hcut
      rcases cut_cases 10 rest.data.toList with ⟨hno, hc⟩ | ⟨la, lb, hl, hno, hc⟩
      · rw [hc] at hcut
        dsimp only at hcut
        have HRE : Hid (R = ([], 1, n)) := by
          show _ = _
          rw [← HREC.out, pieces_none 10 _ hno, rowsG_one, if_neg hne, HN.out]
        clear hc hno hne hIr hHr hFr
        generalize (⟨rest.data.toList.toArray⟩ : ByteArray) = fB at hcut
        go_wp2_with fail
        refine hcut.mono ?_
        rintro e w1 ⟨rfl, q, rfl⟩
        clear hcut
        have hbq : Below wr.heap.size wr (wr.drewN q) := below_drewN (Below.refl _ _) q
        have hb1 : Below B W (wr.drewN q) := hb.trans (hbq.mono hBr)
        have HF1 : Hid (∀ j, P ≤ j → j < Q → j ≠ g → (wr.drewN q).heap[j]? = W.heap[j]?) := frame_below hb HFR.out hQr hbq
        have ht := (HT.out.env (hlowE _ hb1)).env.text
        have hQ1 : Q ≤ (wr.drewN q).heap.size := Nat.le_trans hQ hb1.size
        clear hEr hmx hbq
        generalize wr.drewN q = W1 at hb1 ht HF1 hQ1 ⊢
        have hal : Below W1.heap.size W1 (W1.alloc (.cells #[.int .i64 n, .iface 289 (.pointer (some (a 0)))] 110)) := (Below.refl _ _).alloc (Nat.le_refl _) _
        have hb2 : Below B W (W1.alloc (.cells #[.int .i64 n, .iface 289 (.pointer (some (a 0)))] 110)) := hb1.trans (hal.mono (Nat.le_trans hBW hb1.size))
        have HF2 : Hid (∀ j, P ≤ j → j < Q → j ≠ g → (W1.alloc (.cells #[.int .i64 n, .iface 289 (.pointer (some (a 0)))] 110)).heap[j]? = W.heap[j]?) := frame_below hb1 HF1.out hQ1 hal
        go_wp2
        go_ret
        exact ⟨hb2, HF2.out, Or.inr ⟨by rw [HRE.out]; exact Nat.one_ne_zero, W1.heap.size, rfl, by rw [HRE.out]; simp, by rw [HRE.out]; simp [errV]⟩⟩
      · rw [hc] at hcut
        dsimp only at hcut
        have hlen : la.length + lb.length + 1 = rest.size := by rw [← size_list, hl]; simp; omega
        have hrw : R = if stepE k acc la ≠ 0 then ([], stepE k acc la, n) else rowsG k (pieces 10 lb) (n + 1) (acc ++ [(k.rd la).1]) := by
          rw [← HREC.out, hl, pieces_append 10 la lb hno, rowsG_step k la _ (pieces_ne 10 lb), HN.out]
        have eA : (⟨la.toArray⟩ : ByteArray) = bytesOf la := rfl
        have eB : (⟨lb.toArray⟩ : ByteArray) = bytesOf lb := rfl
        rw [eA, eB] at hcut
        have eAd : (bytesOf la).data.toList = la := by simp [bytesOf]
        have eBd : (bytesOf lb).data.toList = lb := by simp [bytesOf]
        have hsA : (bytesOf la).size ≤ 100000 := by rw [bytes_len]; omega
        have hszB : (bytesOf lb).size + n + 1 ≤ 20000 ∧ (bytesOf lb).size < rest.size := by rw [bytes_len]; omega
        have hacl : acc.length ≤ 100000 := by rw [HN.out]; omega
        clear hc hno hne hl eA eB hlen
        go_wp2_with fail
        refine hcut.mono ?_
        rintro e w1 ⟨rfl, q, rfl⟩
        clear hcut
        have hbq : Below wr.heap.size wr (wr.drewN q) := below_drewN (Below.refl _ _) q
        have hb1 : Below B W (wr.drewN q) := hb.trans (hbq.mono hBr)
        have HF1 : Hid (∀ j, P ≤ j → j < Q → j ≠ g → (wr.drewN q).heap[j]? = W.heap[j]?) := frame_below hb HFR.out hQr hbq
        have hE1 := hlowE _ hb1
        have hQ1 : Q ≤ (wr.drewN q).heap.size := Nat.le_trans hQ hb1.size
        have hI1 := HT.out.keep hIr hbq
        have hFn1 := hFr.below hbq
        have hH1 := hHr.below hbq
        clear hIr hFr hHr hEr hmx hbq
        generalize wr.drewN q = W1 at hb1 HF1 hE1 hQ1 hI1 hFn1 hH1 ⊢
        have hln := line1_any HT.out t g (bytesOf la) acc W1 hE1 hI1 hQ1 hFn1 hH1 ht hg htg hsA hacl
        rw [eAd] at hln
        have HBD : Hid ((bytesOf lb).data.toList = lb) := eBd
        clear hI1 hFn1 hH1 eAd eBd hacl
        obtain ⟨E, hEE⟩ : ∃ E, stepE k acc la = E := ⟨_, rfl⟩
        rw [hEE] at hln hrw
        clear hEE
        by_cases hE0 : E = 0
        · subst hE0
          rw [if_neg (by simp)] at hrw
          have HRE : Hid (rowsG k (pieces 10 lb) (n + 1) (acc ++ [(k.rd la).1]) = R) := hrw.symm
          clear hrw
          simp only [ne_eq, not_true_eq_false, false_and, false_or, true_and] at hln
          generalize (k.rd la).1 = x at hln HRE
          generalize bytesOf la = lA at hln hsA ⊢
          generalize bytesOf lb = lB at hszB HBD ⊢
          go_wp2_with (go_at_fn 210; refine hln.mono ?_; rintro e w2 ⟨hb2, hF2, hfr2, rfl, hI2, hH2⟩)
          have hb3 : Below B W w2 := hb1.trans hb2
          have HALL : Hid ((∀ j, P ≤ j → j < Q → j ≠ g → w2.heap[j]? = W.heap[j]?) ∧ Inv w2 (acc ++ [x]) ∧ FunAt w2 t F bl ∧ HeadAt w2 g (acc ++ [x]).length (endsZ (keysG k (acc ++ [x])))) :=
            ⟨fun j h1 h2 h3 => (hfr2 j h1 h2 h3).trans (HF1.out j h1 h2 h3), hI2, hF2, by rw [List.length_append]; exact hH2⟩
          clear hfr2 hI2 hF2 hH2 hln
          go_roundw
          case rel => exact ⟨lB, acc ++ [x], rfl, by rw [List.length_append, HN.out]; go_num, by rw [List.length_append, HN.out]; simp; omega, hb3, HALL.out.1, HALL.out.2.1, HALL.out.2.2.1, HALL.out.2.2.2, by rw [HBD.out, List.length_append, HN.out]; exact HRE.out⟩
          case measure => simp only [strLen]; exact hszB.2
        · rw [if_pos hE0] at hrw
          obtain ⟨E', hE'⟩ : ∃ E', E = E' + 1 := ⟨E - 1, by omega⟩
          subst hE'
          have HRE : Hid (R = ([], E' + 1, n)) := hrw
          clear hrw
          simp only [errV, ne_eq, Nat.succ_ne_zero, not_false_eq_true, false_and, or_false, true_and] at hln
          generalize bytesOf la = lA at hln hsA ⊢
          generalize bytesOf lb = lB at hszB HBD ⊢
          go_wp2_with (go_at_fn 210; refine hln.mono ?_; rintro e w2 ⟨hb2, hF2, hfr2, rfl⟩)
          have hb3 : Below B W w2 := hb1.trans hb2
          have HF3 : Hid (∀ j, P ≤ j → j < Q → j ≠ g → w2.heap[j]? = W.heap[j]?) := fun j h1 h2 h3 => (hfr2 j h1 h2 h3).trans (HF1.out j h1 h2 h3)
          have hQ3 : Q ≤ w2.heap.size := Nat.le_trans hQ hb3.size
          have hal : Below w2.heap.size w2 (w2.alloc (.cells #[.int .i64 n, .iface 289 (.pointer (some (a E')))] 110)) := (Below.refl _ _).alloc (Nat.le_refl _) _
          have hb4 : Below B W (w2.alloc (.cells #[.int .i64 n, .iface 289 (.pointer (some (a E')))] 110)) := hb3.trans (hal.mono (Nat.le_trans hBW hb3.size))
          have HF4 : Hid (∀ j, P ≤ j → j < Q → j ≠ g → (w2.alloc (.cells #[.int .i64 n, .iface 289 (.pointer (some (a E')))] 110)).heap[j]? = W.heap[j]?) := frame_below hb3 HF3.out hQ3 hal
          clear hfr2 hF2 hln
          go_wp2
          go_ret
          exact ⟨hb4, HF4.out, Or.inr ⟨by rw [HRE.out]; exact Nat.succ_ne_zero _, w2.heap.size, rfl, by rw [HRE.out]; simp, by rw [HRE.out]; simp [errV]⟩⟩
end Go.Proofs.YtpkoefpdpoikkaaGreatDoor
