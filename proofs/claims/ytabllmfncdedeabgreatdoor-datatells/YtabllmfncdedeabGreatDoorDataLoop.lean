/-
  The contracts of data.eachLine and data.readRows: the lines of a body, one behind the other.
-/
import Derived.Test.YtabllmfncdedeabGreatDoorDataRows
namespace Go.Proofs.YtabllmfncdedeabGreatDoor
open Go.RowKit Go.Extern.Stop Go.Stop Go.Extern Go.Sort Go.Shelf Go.Lib

def strLen : Value → Nat
  | .string s => s.size
  | _ => 0

/-- What eachLine hands back. -/
def LinesPost (W : World) (a : Nat → Addr) (B bl : Nat) (R : List Rw × Nat × Nat) (e : Ending) (w' : World) : Prop :=
  Below B W w' ∧ ((R.2.1 = 0 ∧ e = .returned .nilIface ∧ ∃ v, BoxR w' B bl v R.1) ∨
    (R.2.1 ≠ 0 ∧ ∃ fb v acc, e = .returned (.iface 47 (.pointer (some ⟨fb, 0, none⟩))) ∧ w'.cell? ⟨fb, 0, none⟩ = some (.int .i64 R.2.2) ∧ w'.cell? ⟨fb, 1, none⟩ = some (errV a R.2.1) ∧ BoxR w' B bl v acc))

theorem last_is (acc : List Rw) (k : Nat) (d : Rw) (hk : acc.length = k + 1) (hkk : k < acc.length) : acc.getLastD d = acc[k] := by
  have hne : acc ≠ [] := by intro e; rw [e] at hk; simp at hk
  rw [List.getLastD_eq_getLast?, List.getLast?_eq_some_getLast hne, Option.getD_some, List.getLast_eq_getElem]
  congr 1
  omega

theorem rowsO_one (l : List UInt8) (at_ : Nat) (acc : List Rw) : rowsO [l] at_ acc = if l = [] then (acc, 0, 0) else ([], 1, at_) := rfl

set_option maxRecDepth 100000 in
set_option maxHeartbeats 8000000 in
theorem eachLine_any (body : ByteArray) (bl B : Nat) (v0 : Value) (W : World) (a : Nat → Addr) (hB0 : BoxR W B bl v0 []) (hs : body.size ≤ 20000) (hbW : B < W.heap.size) (hlowE : ∀ W', Below B W W' → EnvD W' a) :
    Calls Tryz.prog 55 #[.string body, .func (.func 56) #[] #[.pointer (some ⟨bl, 0, none⟩)]] W fun e w' => LinesPost W a B bl (rowsO (pieces 10 body.data.toList) 0 []) e w' := by
  have eg : ∀ args w, (callFunc 56 args).run Tryz.prog w = .ok (.enter 56 args) w := enters_of Tryz.func56 (by kernel_rfl) rfl
  obtain ⟨R, hR⟩ : ∃ R, rowsO (pieces 10 body.data.toList) 0 [] = R := ⟨_, rfl⟩
  rw [hR]
  have HR : Hid (rowsO (pieces 10 body.data.toList) 0 [] = R) := hR
  clear hR
  go_enter Tryz.func55, Tryz.ntmps55
  go_wp2
  go_loopw [0, 5] (fun sv k wr => ∃ (rest : ByteArray) (n : Nat) (acc : List Rw) (v : Value), sv = .string rest ∧ k = .int .i64 n ∧ rest.size + n ≤ 20000 ∧ acc.length ≤ n ∧ Below B W wr ∧ BoxR wr B bl v acc ∧ rowsO (pieces 10 rest.data.toList) n acc = R) (fun sv _ _ => strLen sv)
  case atStart => exact ⟨body, 0, [], v0, rfl, rfl, by omega, Nat.le_refl _, Below.refl _ _, hB0, HR.out⟩
  case round =>
    obtain ⟨rest, n, acc, v, rfl, rfl, hsz, hacc, hb, hB, hrec⟩ := hrel
    have HREC : Hid (rowsO (pieces 10 rest.data.toList) n acc = R) := hrec
    have HACC : Hid (acc.length ≤ n) := hacc
    clear hrec hacc HR
    have hEr := hlowE wr hb
    by_cases he : rest.size = 0
    · have hre : rest.data.toList = [] := List.length_eq_zero_iff.1 (by rw [size_list]; exact he)
      have hbe : (rest.toList == []) = true := eqB_of hre
      have HRE : Hid (R = (acc, 0, 0)) := by
        show _ = _
        rw [← HREC.out, hre]; rfl
      clear hre
      go_wp2
      go_ret
      refine ⟨hb, Or.inl ⟨by rw [HRE.out], rfl, v, by rw [HRE.out]; exact hB⟩⟩
    · have hne : rest.data.toList ≠ [] := fun e => he (by rw [← size_list, e]; rfl)
      have hbe : (rest.toList == []) = false := neB_of hne
      obtain ⟨mx, hmx⟩ := hEr.env.maxl
      have hcut := Tryz.strings_Cut rest ⟨#[10]⟩ mx wr (by omega) hmx
      dsimp only at hcut
      rcases cut_cases 10 rest.data.toList with ⟨hno, hc⟩ | ⟨la, lb, hl, hno, hc⟩
      · rw [hc] at hcut
        dsimp only at hcut
        have HRE : Hid (R = ([], 1, n)) := by
          show _ = _
          rw [← HREC.out, pieces_none 10 _ hno, rowsO_one, if_neg hne]
        clear hc hno hne
        generalize (⟨rest.data.toList.toArray⟩ : ByteArray) = fB at hcut
        go_wp2_with fail
        refine hcut.mono ?_
        rintro e w1 ⟨rfl, q, rfl⟩
        clear hcut
        have hbq : Below wr.heap.size wr (wr.drewN q) := below_drewN (Below.refl _ _) q
        have hb1 : Below B W (wr.drewN q) := hb.trans (hbq.mono (Nat.le_trans (Nat.le_of_lt hbW) hb.size))
        have hB1 := hB.below hbq
        have ht := (hlowE _ hb1).env.text
        generalize wr.drewN q = W1 at hb1 hB1 ht ⊢
        have hal : Below W1.heap.size W1 (W1.alloc (.cells #[.int .i64 n, .iface 197 (.pointer (some (a 0)))] 49)) := (Below.refl _ _).alloc (Nat.le_refl _) _
        have hb2 : Below B W (W1.alloc (.cells #[.int .i64 n, .iface 197 (.pointer (some (a 0)))] 49)) := hb1.trans (hal.mono (Nat.le_trans (Nat.le_of_lt hbW) hb1.size))
        clear hB hEr hmx hbq
        go_wp2
        go_ret
        exact ⟨hb2, Or.inr ⟨by rw [HRE.out]; exact Nat.one_ne_zero, W1.heap.size, v, acc, rfl, by rw [HRE.out]; simp, by rw [HRE.out]; simp [errV], hB1.below hal⟩⟩
      · rw [hc] at hcut
        dsimp only at hcut
        have hlen : la.length + lb.length + 1 = rest.size := by rw [← size_list, hl]; simp; omega
        obtain ⟨l2, r, hpb⟩ := List.exists_cons_of_ne_nil (pieces_ne 10 lb)
        have hrw : R = if (readO la).2 ≠ 0 then ([], (readO la).2, n) else if acc ≠ [] ∧ ltOf cfR (readO la).1 (acc.getLastD (bytesOf [], 0, 0)) = true then ([], 9, n) else rowsO (pieces 10 lb) (n + 1) (acc ++ [(readO la).1]) := by
          rw [← HREC.out, hl, pieces_append 10 la lb hno, hpb, rowsO_cons]
        have eA : (⟨la.toArray⟩ : ByteArray) = bytesOf la := rfl
        have eB : (⟨lb.toArray⟩ : ByteArray) = bytesOf lb := rfl
        rw [eA, eB] at hcut
        have eAd : (bytesOf la).data.toList = la := by simp [bytesOf]
        have eBd : (bytesOf lb).data.toList = lb := by simp [bytesOf]
        have hsA : (bytesOf la).size ≤ 100000 := by rw [bytes_len]; omega
        have hszB : (bytesOf lb).size + n + 1 ≤ 20000 ∧ (bytesOf lb).size < rest.size := by rw [bytes_len]; omega
        clear hc hno hne hl hpb eA eB hlen
        go_wp2_with fail
        refine hcut.mono ?_
        rintro e w1 ⟨rfl, q, rfl⟩
        clear hcut
        have hbq : Below wr.heap.size wr (wr.drewN q) := below_drewN (Below.refl _ _) q
        have hb1 : Below B W (wr.drewN q) := hb.trans (hbq.mono (Nat.le_trans (Nat.le_of_lt hbW) hb.size))
        have hB1 := hB.below hbq
        have hE1 := hlowE _ hb1
        clear hB hEr hmx hbq
        generalize wr.drewN q = W1 at hb1 hB1 hE1 ⊢
        by_cases hro : (readO la).2 ≠ 0
        · have hln := line_bad (bytesOf la) bl W1 a hE1 hsA (by rw [eAd]; exact hro)
          rw [eAd] at hln
          rw [if_pos hro] at hrw
          obtain ⟨E, hEE⟩ : ∃ E, (readO la).2 = E + 1 := ⟨(readO la).2 - 1, by omega⟩
          rw [hEE] at hln hrw
          simp only [errV] at hln
          have HRE : Hid (R = ([], E + 1, n)) := hrw
          clear hrw hEE hro eAd eBd
          generalize bytesOf la = lA at hln hsA ⊢
          generalize bytesOf lb = lB at hszB ⊢
          go_wp2_with (go_at_fn 56; refine hln.mono ?_; rintro e w2 ⟨rfl, hb2⟩)
          have hb3 : Below B W w2 := hb1.trans (hb2.mono (Nat.le_trans (Nat.le_of_lt hbW) hb1.size))
          have hal : Below w2.heap.size w2 (w2.alloc (.cells #[.int .i64 n, .iface 197 (.pointer (some (a E)))] 49)) := (Below.refl _ _).alloc (Nat.le_refl _) _
          have hb4 : Below B W (w2.alloc (.cells #[.int .i64 n, .iface 197 (.pointer (some (a E)))] 49)) := hb3.trans (hal.mono (Nat.le_trans (Nat.le_of_lt hbW) hb3.size))
          go_ret
          exact ⟨hb4, Or.inr ⟨by rw [HRE.out]; exact Nat.succ_ne_zero _, w2.heap.size, v, acc, rfl, by rw [HRE.out]; simp, by rw [HRE.out]; simp [errV], (hB1.below hb2).below hal⟩⟩
        · have hro0 : (readO la).2 = 0 := by omega
          rw [if_neg hro] at hrw
          clear hro
          cases hac : acc with
          | nil =>
            subst hac
            have hln := line_first (bytesOf la) bl B v W1 a hE1 hB1 hsA (by rw [eAd]; exact hro0)
            rw [eAd] at hln
            rw [if_neg (by simp)] at hrw
            have HRE : Hid (rowsO (pieces 10 lb) (n + 1) [(readO la).1] = R) := by rw [hrw]; rfl
            have HBD : Hid ((bytesOf lb).data.toList = lb) := eBd
            clear hrw hro0 eAd eBd hB1
            generalize (readO la).1 = x at hln HRE
            generalize bytesOf la = lA at hln hsA ⊢
            generalize bytesOf lb = lB at hszB HBD ⊢
            go_wp2_with (go_at_fn 56; refine hln.mono ?_; rintro e w2 ⟨rfl, ⟨v2, hB2⟩, hb2⟩)
            have hb3 : Below B W w2 := hb1.trans hb2
            go_roundw
            case rel => exact ⟨lB, n + 1, [x], v2, rfl, by go_num, by omega, by simp, hb3, hB2, by rw [HBD.out]; exact HRE.out⟩
            case measure => simp only [strLen]; exact hszB.2
          | cons y ys =>
            have hk : acc.length = ys.length + 1 := by rw [hac]; rfl
            have hkk : ys.length < acc.length := by omega
            have hacn : acc ≠ [] := by rw [hac]; simp
            have hlast := last_is acc ys.length (bytesOf [], 0, 0) hk hkk
            have hln := line_next (bytesOf la) bl B ys.length v acc W1 a hE1 hB1 hsA (by have := HACC.out; omega) hk hkk (by rw [eAd]; exact hro0)
            rw [eAd] at hln
            rw [hlast] at hrw
            have HK : Hid (acc.length = ys.length + 1) := hk
            have HBD : Hid ((bytesOf lb).data.toList = lb) := eBd
            clear hk hac hlast hro0 eAd eBd
            generalize hlt : ltOf cfR (readO la).1 acc[ys.length] = lb2 at hln hrw
            clear hlt hkk
            cases lb2 with
            | true =>
              rw [if_pos ⟨hacn, rfl⟩] at hrw
              have HRE : Hid (R = ([], 9, n)) := hrw
              clear hrw
              simp only [errV, true_implies, Bool.true_eq_false, false_implies, and_true] at hln
              generalize bytesOf la = lA at hln hsA ⊢
              generalize bytesOf lb = lB at hszB ⊢
              go_wp2_with (go_at_fn 56; refine hln.mono ?_; rintro e w2 ⟨rfl, hb2⟩)
              have hb3 : Below B W w2 := hb1.trans (hb2.mono (Nat.le_trans (Nat.le_of_lt hbW) hb1.size))
              have hal : Below w2.heap.size w2 (w2.alloc (.cells #[.int .i64 n, .iface 197 (.pointer (some (a 8)))] 49)) := (Below.refl _ _).alloc (Nat.le_refl _) _
              have hb4 : Below B W (w2.alloc (.cells #[.int .i64 n, .iface 197 (.pointer (some (a 8)))] 49)) := hb3.trans (hal.mono (Nat.le_trans (Nat.le_of_lt hbW) hb3.size))
              go_ret
              exact ⟨hb4, Or.inr ⟨by rw [HRE.out]; exact Nat.succ_ne_zero _, w2.heap.size, v, acc, rfl, by rw [HRE.out]; simp, by rw [HRE.out]; simp [errV], (hB1.below hb2).below hal⟩⟩
            | false =>
              rw [if_neg (fun e => by cases e.2)] at hrw
              have HRE : Hid (rowsO (pieces 10 lb) (n + 1) (acc ++ [(readO la).1]) = R) := hrw.symm
              clear hrw hB1
              simp only [Bool.false_eq_true, false_implies, true_implies, true_and] at hln
              generalize (readO la).1 = x at hln HRE
              generalize bytesOf la = lA at hln hsA ⊢
              generalize bytesOf lb = lB at hszB HBD ⊢
              go_wp2_with (go_at_fn 56; refine hln.mono ?_; rintro e w2 ⟨rfl, ⟨v2, hB2⟩, hb2⟩)
              have hb3 : Below B W w2 := hb1.trans hb2
              go_roundw
              case rel => exact ⟨lB, n + 1, acc ++ [x], v2, rfl, by go_num, by omega, by rw [List.length_append]; have := HACC.out; simp; omega, hb3, hB2, by rw [HBD.out]; exact HRE.out⟩
              case measure => simp only [strLen]; exact hszB.2

/-- What readRows hands back. -/
def RowsPost (w : World) (a : Nat → Addr) (R : List Rw × Nat × Nat) (e : Ending) (w' : World) : Prop :=
  Below w.heap.size w w' ∧ ((R.2.1 = 0 ∧ ∃ v, e = .returned (.tuple #[v, .nilIface]) ∧ RowsAt w' v R.1) ∨
    (R.2.1 ≠ 0 ∧ ∃ v fb, e = .returned (.tuple #[v, .iface 47 (.pointer (some ⟨fb, 0, none⟩))]) ∧ w'.cell? ⟨fb, 0, none⟩ = some (.int .i64 R.2.2) ∧ w'.cell? ⟨fb, 1, none⟩ = some (errV a R.2.1)))

set_option maxRecDepth 100000 in
set_option maxHeartbeats 2000000 in
theorem readRows_any (body : ByteArray) (w : World) (a : Nat → Addr) (h : EnvD w a) (hs : body.size ≤ 20000) :
    Calls Tryz.prog 31 #[.string body] w fun e w' => RowsPost w a (rowsO (pieces 10 body.data.toList) 0 []) e w' := by
  have hal : Below w.heap.size w (w.alloc (.cells #[.slice none 0 0] 22)) := (Below.refl _ _).alloc (Nat.le_refl _) _
  have hbox : BoxR (w.alloc (.cells #[.slice none 0 0] 22)) w.heap.size w.heap.size (.slice none 0 0) [] := ⟨heap_alloc_new _ _, World.ownsRow_nil _ _ _ _, by simp [Value.ownBlock], Nat.le_refl _⟩
  have hel := eachLine_any body w.heap.size w.heap.size (.slice none 0 0) _ a hbox hs (by simp) (fun W' hW => h.below (hal.trans hW))
  generalize rowsO (pieces 10 body.data.toList) 0 [] = R at hel ⊢
  clear hbox
  go_enter Tryz.func31, Tryz.ntmps31
  go_wp2_with fail
  generalize w.alloc (.cells #[.slice none 0 0] 22) = WA at hel hal ⊢
  refine hel.mono ?_
  rintro e w1 ⟨hb1, hres⟩
  clear hel
  have hB1 : Below w.heap.size w w1 := hal.trans hb1
  rcases hres with ⟨h0, rfl, v, hbx⟩ | ⟨h0, fb, v, acc, rfl, c0, c1, hbx⟩
  · have hc := cell_of_one hbx.box
    have hro := (rowsAt_of_own hbx.own).1
    obtain ⟨q, cp, rfl⟩ := own_shape hbx.own
    have HRO : Hid (RowsAt w1 (.slice q R.1.length cp) R.1) := hro
    clear hbx hro
    obtain ⟨LL, hLL⟩ : ∃ LL, R.1.length = LL := ⟨_, rfl⟩
    have HLL : Hid (R.1.length = LL) := hLL
    rw [hLL] at hc HRO
    clear hLL
    go_wp2
    go_ret2
    exact ⟨hB1, Or.inl ⟨h0, _, rfl, HRO.out⟩⟩
  · have hc := cell_of_one hbx.box
    obtain ⟨q, cp, rfl⟩ := own_shape hbx.own
    clear hbx
    have C0 : Hid (w1.cell? ⟨fb, 0, none⟩ = some (.int .i64 R.2.2)) := c0
    have C1 : Hid (w1.cell? ⟨fb, 1, none⟩ = some (errV a R.2.1)) := c1
    clear c0 c1
    generalize acc.length = LL at hc
    go_wp2
    go_ret2
    exact ⟨hB1, Or.inr ⟨h0, _, fb, rfl, C0.out, C1.out⟩⟩
end Go.Proofs.YtabllmfncdedeabGreatDoor
