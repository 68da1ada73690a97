/-
  The contract of data.ReadLines, for any kind of file: what a text is.
-/
import Derived.Test.YtpkoefpdpoikkaaGreatDoorDataLoop
namespace Go.Proofs.YtpkoefpdpoikkaaGreatDoor
open Go.RowKit Go.Extern.Stop Go.Stop Go.Extern Go.Sort Go.Shelf Go.Lib

abbrev Hd := Int × Int × Int
def encH (x : Hd) : List Value := [.int .i64 x.1, .int .i64 x.2.1, .int .i64 x.2.2]

theorem eqHead : EqlAt Tryz.prog 160 (fun x : Hd => .agg (encH x).toArray) (fun x y => decide (x = y)) := by
  refine ⟨fun x y w => ?_, GuardAt.agg _ (by kernel_rfl)⟩
  have u3 := Tryz.underlying3
  have a3 := Tryz.isAgg3
  have z3 := Tryz.sizeOf3
  have hS : Tryz.prog.underlying 160 = some (.struct (Tryz.prog.fieldsOf 160)) := by kernel_rfl
  have hp : Tryz.prog.stoodInHeld 160 = false := by kernel_rfl
  obtain ⟨x0, x1, x2⟩ := x
  obtain ⟨y0, y1, y2⟩ := y
  simp only [encH]
  rw [run_eql_struct, show (10000 : Nat) = 9999 + 1 from rfl, run_equalIn_agg w 9999 160 _ _ hS hp]
  simp only [Program.fieldsOf, Tryz.underlying160]
  go_simp
  by_cases h0 : x0 = y0 <;> by_cases h1 : x1 = y1 <;> by_cases h2 : x2 = y2 <;> simp [h0, h1, h2]

theorem neqHead : NeqAt Tryz.prog 160 (fun x : Hd => .agg (encH x).toArray) (fun x y => decide (x = y)) := by
  refine ⟨fun x y w => ?_, eqHead.2⟩
  have h := eqHead.1 x y w
  simp only [encH] at h ⊢
  rw [run_eql_struct] at h
  rw [run_neq_struct]
  generalize Sem.run Tryz.prog (Op.equalIn 10000 160 _ _) w = r at h ⊢
  cases r with
  | ok b w' =>
    simp only [Result.andThen, Result.ok.injEq, Value.bool.injEq] at h ⊢
    exact ⟨by rw [h.1], h.2⟩
  | halt z w' => simp [Result.andThen] at h

def AllPost {β : Type} (B : Nat) (w : World) (a : Nat → Addr) (Inv : Nat → World → List β → Prop) (D : List β × Nat × Option Nat) (e : Ending) (w' : World) : Prop :=
  Below B w w' ∧ ((D.2.1 = 0 ∧ e = .returned .nilIface ∧ ∃ Q, Inv Q w' D.1) ∨
    (D.2.1 ≠ 0 ∧ D.1 = [] ∧ D.2.2 = none ∧ e = .returned (errV a D.2.1)) ∨
    (D.2.1 ≠ 0 ∧ D.1 = [] ∧ ∃ at_, D.2.2 = some at_ ∧ ∃ fb, e = .returned (.iface 108 (.pointer (some ⟨fb, 0, none⟩))) ∧ w'.cell? ⟨fb, 0, none⟩ = some (.int .i64 at_) ∧ w'.cell? ⟨fb, 1, none⟩ = some (errV a D.2.1)))

set_option maxRecDepth 100000 in
set_option maxHeartbeats 8000000 in
theorem readLines_any {β : Type} (k : FK β) (kb s : ByteArray) (hkb : kb.data.toList = k.word) (w : World) (a : Nat → Addr) (En : World → Prop) (F bl B : Nat) (Inv : Nat → World → List β → Prop) (hB : B ≤ w.heap.size) (hlow1 : ∀ W', Below B w W' → En W')
    (T : ∀ Q, Taker k a En F bl B w.heap.size Q (Inv Q)) (hI : ∀ Q W', Below w.heap.size w W' → Q ≤ W'.heap.size → Inv Q W' []) (hs : s.size ≤ maxLen) :
    Calls Tryz.prog 162 #[.string kb, .string s, .func (.func F) #[] #[.pointer (some ⟨bl, 0, none⟩)]] w fun e w' => AllPost B w a Inv (readG k s.data.toList) e w' := by
  have hlow : ∀ W', Below B w W' → EnvD0 W' a := fun W' hW => (T 0).env (hlow1 W' hW)
  unfold maxLen at hs
  have hszl := size_list s
  have hal : Below w.heap.size w (w.alloc (.cells #[.func (.func F) #[] #[.pointer (some ⟨bl, 0, none⟩)]] 132)) := (Below.refl _ _).alloc (Nat.le_refl _) _
  have hFun : FunAt (w.alloc (.cells #[.func (.func F) #[] #[.pointer (some ⟨bl, 0, none⟩)]] 132)) w.heap.size F bl := heap_alloc_new _ _
  by_cases hbig : 20000 < s.size
  · have HD : Hid (readG k s.data.toList = ([], 2, none)) := by show _ = _; unfold readG; rw [if_pos (by omega)]
    have hb' : (20000 : Int) < (s.size : Int) := by omega
    have hbd := (hlow _ (hal.mono hB)).env.bound
    clear hszl
    go_enter Tryz.func162, Tryz.ntmps162
    go_wp2
    go_ret
    refine ⟨hal.mono hB, ?_⟩
    rw [HD.out]
    exact Or.inr (Or.inl ⟨by simp, rfl, rfl, rfl⟩)
  · have hb' : ¬ (20000 : Int) < (s.size : Int) := by omega
    have hnb : ¬ 20000 < s.data.toList.length := by omega
    have hE0 := hlow _ (hal.mono hB)
    obtain ⟨mx, hmx⟩ := hE0.env.maxl
    have hcut := Tryz.strings_Cut s ⟨#[10]⟩ mx _ (by omega) hmx
    dsimp only at hcut
    rcases cut_cases 10 s.data.toList with ⟨hno, hc⟩ | ⟨la, lb, hl, hno, hc⟩
    · have HD : Hid (readG k s.data.toList = ([], 1, none)) := by show _ = _; unfold readG; rw [if_neg hnb, hc]; rfl
      rw [hc] at hcut
      dsimp only at hcut
      have eA : (⟨s.data.toList.toArray⟩ : ByteArray) = bytesOf s.data.toList := rfl
      rw [eA] at hcut
      have hrh := fun W (hW : Env0 W a) => readHead_any kb (bytesOf s.data.toList) W a hW (by rw [bytes_len]; omega)
      generalize bytesOf s.data.toList = lA at hcut hrh
      generalize headR kb.data.toList lA.data.toList = H at hrh
      obtain ⟨⟨z0, z1, z2⟩, z3, okb⟩ := H
      dsimp only at hrh
      clear hc hno eA hnb hszl hE0
      go_enter Tryz.func162, Tryz.ntmps162
      go_wp2_with fail
      generalize w.alloc (.cells #[.func (.func F) #[] #[.pointer (some ⟨bl, 0, none⟩)]] 132) = W0 at hal hFun hmx hcut ⊢
      refine hcut.mono ?_
      rintro e w1 ⟨rfl, q, rfl⟩
      clear hcut
      have hb1 : Below w.heap.size w (W0.drewN q) := below_drewN hal q
      have hrh1 := hrh _ (hlow _ (hb1.mono hB)).env
      clear hrh hmx hFun hal
      generalize W0.drewN q = W1 at hb1 hrh1 ⊢
      go_wp2_with fail
      refine hrh1.mono ?_
      rintro e w2 ⟨rfl, hb2⟩
      clear hrh1
      have hB2 : Below w.heap.size w w2 := hb1.trans (hb2.mono hb1.size)
      have hB3 : Below w.heap.size w (w2.alloc (.cells #[.int .i64 z0, .int .i64 z1, .int .i64 z2] 160)) := hB2.alloc hB2.size _
      have ht := (hlow _ (hB3.mono hB)).env.text
      go_wp2
      go_ret
      refine ⟨hB3.mono hB, ?_⟩
      rw [HD.out]
      exact Or.inr (Or.inl ⟨by simp, rfl, rfl, rfl⟩)
    · have hlen : la.length + lb.length + 1 = s.size := by rw [← size_list, hl]; simp; omega
      rw [hc] at hcut
      dsimp only at hcut
      have eA : (⟨la.toArray⟩ : ByteArray) = bytesOf la := rfl
      have eB : (⟨lb.toArray⟩ : ByteArray) = bytesOf lb := rfl
      rw [eA, eB] at hcut
      have eAd : (bytesOf la).data.toList = la := by simp [bytesOf]
      have eBd : (bytesOf lb).data.toList = lb := by simp [bytesOf]
      have hrh := fun W (hW : Env0 W a) => readHead_any kb (bytesOf la) W a hW (by rw [bytes_len]; omega)
      rw [eAd, hkb] at hrh
      have hsum := fun W => sum_any (bytesOf lb) W (by rw [bytes_len]; unfold maxLen; omega)
      rw [eBd] at hsum
      unfold headR at hrh
      cases hho : headO k.word la with
      | none =>
        have HD : Hid (readG k s.data.toList = ([], 1, none)) := by show _ = _; unfold readG; rw [if_neg hnb, hc]; simp only [hho]; rfl
        rw [hho] at hrh
        dsimp only at hrh
        clear hc hno eA eB eAd eBd hnb hszl hsum hho hlen hl hE0
        generalize bytesOf la = lA at hcut hrh
        generalize bytesOf lb = lB at hcut
        go_enter Tryz.func162, Tryz.ntmps162
        go_wp2_with fail
        generalize w.alloc (.cells #[.func (.func F) #[] #[.pointer (some ⟨bl, 0, none⟩)]] 132) = W0 at hal hFun hmx hcut ⊢
        refine hcut.mono ?_
        rintro e w1 ⟨rfl, q, rfl⟩
        clear hcut
        have hb1 : Below w.heap.size w (W0.drewN q) := below_drewN hal q
        have hrh1 := hrh _ (hlow _ (hb1.mono hB)).env
        clear hrh hmx hFun hal
        generalize W0.drewN q = W1 at hb1 hrh1 ⊢
        go_wp2_with fail
        refine hrh1.mono ?_
        rintro e w2 ⟨rfl, hb2⟩
        clear hrh1
        have hB2 : Below w.heap.size w w2 := hb1.trans (hb2.mono hb1.size)
        have hB3 : Below w.heap.size w (w2.alloc (.cells #[.int .i64 0, .int .i64 0, .int .i64 0] 160)) := hB2.alloc hB2.size _
        have ht := (hlow _ (hB3.mono hB)).env.text
        go_wp2
        go_ret
        refine ⟨hB3.mono hB, ?_⟩
        rw [HD.out]
        exact Or.inr (Or.inl ⟨by simp, rfl, rfl, rfl⟩)
      | some hd =>
        obtain ⟨z0, z1, z2, z3⟩ := hd
        rw [hho] at hrh
        dsimp only at hrh
        have hD : readG k s.data.toList = if z3 ≠ sumL lb then ([], 10, none) else endG k z0 z1 z2 (rowsG k (pieces 10 lb) 0 []) := by
          unfold readG; rw [if_neg hnb, hc]; simp only [hho]; rfl
        have HD : Hid (readG k s.data.toList = if z3 ≠ sumL lb then ([], 10, none) else endG k z0 z1 z2 (rowsG k (pieces 10 lb) 0 [])) := hD
        have hsl := sumL_lt lb
        have hlb2 : (bytesOf lb).size ≤ 20000 := by rw [bytes_len]; omega
        have HBD : Hid (rowsG k (pieces 10 (bytesOf lb).data.toList) 0 [] = rowsG k (pieces 10 lb) 0 []) := by show _ = _; rw [eBd]
        generalize sumL lb = S at hsum HD hsl
        generalize rowsG k (pieces 10 lb) 0 [] = R at HD HBD
        clear hD hc hno eA eB eAd eBd hnb hszl hho hlen hl hE0
        generalize bytesOf la = lA at hcut hrh
        generalize bytesOf lb = lB at hcut hsum hlb2 HBD
        have HTT : Hid (∀ Q, Taker k a En F bl B w.heap.size Q (Inv Q)) := T
        have HII : Hid (∀ Q W', Below w.heap.size w W' → Q ≤ W'.heap.size → Inv Q W' []) := hI
        clear T hI
        go_enter Tryz.func162, Tryz.ntmps162
        go_wp2_with fail
        generalize w.alloc (.cells #[.func (.func F) #[] #[.pointer (some ⟨bl, 0, none⟩)]] 132) = W0 at hal hFun hmx hcut ⊢
        refine hcut.mono ?_
        rintro e w1 ⟨rfl, q, rfl⟩
        clear hcut
        have hbq : Below W0.heap.size W0 (W0.drewN q) := below_drewN (Below.refl _ _) q
        have hb1 : Below w.heap.size w (W0.drewN q) := below_drewN hal q
        have hFun1 := hFun.below hbq
        have hrh1 := hrh _ (hlow _ (hb1.mono hB)).env
        clear hrh hmx hFun hal hbq
        generalize W0.drewN q = W1 at hb1 hrh1 hFun1 ⊢
        go_wp2_with fail
        refine hrh1.mono ?_
        rintro e w2 ⟨rfl, hb2⟩
        clear hrh1
        have hB2 : Below w.heap.size w w2 := hb1.trans (hb2.mono hb1.size)
        have hFun2 := hFun1.below hb2
        have hal3 : Below w2.heap.size w2 (w2.alloc (.cells #[.int .i64 z0, .int .i64 z1, .int .i64 z2] 160)) := (Below.refl _ _).alloc (Nat.le_refl _) _
        have hB3 : Below w.heap.size w (w2.alloc (.cells #[.int .i64 z0, .int .i64 z1, .int .i64 z2] 160)) := hB2.alloc hB2.size _
        have hFun3 := hFun2.below hal3
        have hSd : (w2.alloc (.cells #[.int .i64 z0, .int .i64 z1, .int .i64 z2] 160)).heap[w2.heap.size]? = some (.cells #[.int .i64 z0, .int .i64 z1, .int .i64 z2] 160 (0, 0)) := heap_alloc_new _ _
        have hsum3 := hsum (w2.alloc (.cells #[.int .i64 z0, .int .i64 z1, .int .i64 z2] 160))
        have hsd1 : w.heap.size ≤ w2.heap.size := hB2.size
        have hsd2 : w.heap.size ≠ w2.heap.size := by have := lt_of_block hFun2; omega
        clear hsum hFun1 hFun2 hal3
        go_wp2_with fail
        generalize hsd : w2.heap.size = sd at hSd hsd1 hsd2 ⊢
        generalize w2.alloc (.cells #[.int .i64 z0, .int .i64 z1, .int .i64 z2] 160) = W3 at hB3 hsum3 hFun3 hSd ⊢
        clear hsd hB2 hb2 hb1
        refine hsum3.mono ?_
        rintro e w4 ⟨rfl, hb4⟩
        clear hsum3
        have hB4 : Below w.heap.size w w4 := hB3.trans (hb4.mono hB3.size)
        have hFun4 := hFun3.below hb4
        have hSd4 : w4.heap[sd]? = some (.cells #[.int .i64 z0, .int .i64 z1, .int .i64 z2] 160 (0, 0)) := (hb4.block _ (lt_of_block hSd)).trans hSd
        have hw0 : IntKind.i64.wrap (S : Int) = (S : Int) := IntWalk.i64_in _ (by omega)
        have hsd4 : sd < w4.heap.size := lt_of_block hSd4
        clear hFun3 hSd hB3 hb4
        by_cases hzs : z3 = (S : Int)
        · have HD2 : Hid (readG k s.data.toList = endG k z0 z1 z2 R) := by show _ = _; rw [HD.out, if_neg (by simpa using hzs)]
          clear HD
          subst hzs
          have hal5 : Below w4.heap.size w4 (w4.alloc (.cells #[.int .i64 0, .int .i64 0, .int .i64 0] 160)) := (Below.refl _ _).alloc (Nat.le_refl _) _
          have hB5 : Below w.heap.size w (w4.alloc (.cells #[.int .i64 0, .int .i64 0, .int .i64 0] 160)) := hB4.alloc hB4.size _
          have hH5 : HeadAt (w4.alloc (.cells #[.int .i64 0, .int .i64 0, .int .i64 0] 160)) w4.heap.size 0 (0, 0) := heap_alloc_new _ _
          have hFun5 := hFun4.below hal5
          have hSd5 : (w4.alloc (.cells #[.int .i64 0, .int .i64 0, .int .i64 0] 160)).heap[sd]? = some (.cells #[.int .i64 z0, .int .i64 z1, .int .i64 z2] 160 (0, 0)) := (hal5.block _ (lt_of_block hSd4)).trans hSd4
          have hP4 : w.heap.size < w4.heap.size := lt_of_block hFun4
          have hel := eachLine_any (HTT.out (w4.heap.size + 1)) w.heap.size w4.heap.size lB _ (fun W' hW => hlow1 W' ((hB5.mono hB).trans hW)) (HII.out (w4.heap.size + 1) _ hB5 (by simp)) (by simp) (Nat.le_trans hB hB5.size) hFun5 hH5 ⟨Nat.le_refl _, by omega⟩ ⟨by omega, by omega⟩ (by omega) hlb2
          rw [HBD.out] at hel
          clear hFun4 hFun5 hH5 hal5 hSd4
          go_wp2_with fail
          generalize hg4 : w4.heap.size = g at hel hsd4 hP4 ⊢
          generalize w4.alloc (.cells #[.int .i64 0, .int .i64 0, .int .i64 0] 160) = W5 at hB5 hSd5 hel ⊢
          clear hg4 hB4
          refine hel.mono ?_
          rintro e w6 ⟨hb6, hfr, hres⟩
          clear hel
          have hB6 : Below B w w6 := (hB5.mono hB).trans hb6
          have hSd6 : w6.heap[sd]? = some (.cells #[.int .i64 z0, .int .i64 z1, .int .i64 z2] 160 (0, 0)) := (hfr sd hsd1 (by omega) (by omega)).trans hSd5
          clear hfr hSd5 hB5 hb6
          rcases hres with ⟨h0, rfl, hI6, hH6⟩ | ⟨h0, fb, rfl, c0, c1⟩
          · have HR0 : Hid (R.2.1 = 0) := h0
            have HI6 : Hid (∃ Q, Inv Q w6 R.1) := ⟨_, hI6⟩
            have x0 : w6.cell? ⟨sd, 0, none⟩ = some (.int .i64 z0) := by rw [cell_of_row _ _ _ _ _ _ hSd6]; rfl
            have x1 : w6.cell? ⟨sd, 1, none⟩ = some (.int .i64 z1) := by rw [cell_of_row _ _ _ _ _ _ hSd6]; rfl
            have x2 : w6.cell? ⟨sd, 2, none⟩ = some (.int .i64 z2) := by rw [cell_of_row _ _ _ _ _ _ hSd6]; rfl
            obtain ⟨y0, y1, y2, _⟩ := hH6.cells
            have hE6 := hlow _ hB6
            by_cases h40 : 40 < R.1.length
            · have h40' : (40 : Int) < (R.1.length : Int) := by omega
              have HDE : Hid (readG k s.data.toList = ([], 8, none)) := by
                show _ = _
                rw [HD2.out]; unfold endG; rw [if_neg (by simpa using HR0.out), if_pos h40]
              have hfu := hE6.full
              clear h0 hI6 hH6 x0 x1 x2 y1 y2 hE6 h40 HI6
              generalize R.1.length = LL at h40' y0
              go_wp2
              go_ret
              refine ⟨hB6, ?_⟩
              rw [HDE.out]
              exact Or.inr (Or.inl ⟨by simp, rfl, rfl, rfl⟩)
            · have h40' : ¬ (40 : Int) < (R.1.length : Int) := by omega
              have HDE : Hid (readG k s.data.toList = if z0 = (R.1.length : Int) ∧ z1 = (endsZ (keysG k R.1)).1 ∧ z2 = (endsZ (keysG k R.1)).2 then (R.1, 0, none) else ([], 3, none)) := by
                show _ = _
                rw [HD2.out]; unfold endG; rw [if_neg (by simpa using HR0.out), if_neg h40]
              have hneq := neqHead.1 ((R.1.length : Int), (endsZ (keysG k R.1)).1, (endsZ (keysG k R.1)).2) (z0, z1, z2)
              simp only [encH] at hneq
              have hgd' : ∀ (op : BinOp) (a b : Operand) (w : World), Sem.run Tryz.prog (eqGuard op 160 a b (.agg #[.int .i64 (R.1.length : Int), .int .i64 (endsZ (keysG k R.1)).1, .int .i64 (endsZ (keysG k R.1)).2]) (.agg #[.int .i64 z0, .int .i64 z1, .int .i64 z2])) w = .ok () w := fun op a b w => neqHead.2 op a b ((R.1.length : Int), (endsZ (keysG k R.1)).1, (endsZ (keysG k R.1)).2) (z0, z1, z2) w
              have hqe : decide ((((R.1.length : Int), (endsZ (keysG k R.1)).1, (endsZ (keysG k R.1)).2) : Hd) = (z0, z1, z2)) = decide (z0 = (R.1.length : Int) ∧ z1 = (endsZ (keysG k R.1)).1 ∧ z2 = (endsZ (keysG k R.1)).2) := by
                rw [decide_eq_decide]; simp only [Prod.mk.injEq]
                exact ⟨fun ⟨h1, h2, h3⟩ => ⟨h1.symm, h2.symm, h3.symm⟩, fun ⟨h1, h2, h3⟩ => ⟨h1.symm, h2.symm, h3.symm⟩⟩
              rw [hqe] at hneq
              obtain ⟨bq, hbq⟩ : ∃ bq, decide (z0 = (R.1.length : Int) ∧ z1 = (endsZ (keysG k R.1)).1 ∧ z2 = (endsZ (keysG k R.1)).2) = bq := ⟨_, rfl⟩
              have HBQ : Hid (decide (z0 = (R.1.length : Int) ∧ z1 = (endsZ (keysG k R.1)).1 ∧ z2 = (endsZ (keysG k R.1)).2) = bq) := hbq
              rw [hbq] at hneq
              clear hqe hbq h0 hI6 hH6
              generalize hEE : endsZ (keysG k R.1) = E at hneq hgd' y1 y2
              have HEE : Hid (endsZ (keysG k R.1) = E) := hEE
              clear hEE
              obtain ⟨e1, e2⟩ := E
              dsimp only at hneq hgd' y1 y2
              obtain ⟨LL, hLL⟩ : ∃ LL, R.1.length = LL := ⟨_, rfl⟩
              have HLL : Hid (R.1.length = LL) := hLL
              rw [hLL] at hneq hgd' h40' y0
              clear hLL h40
              have hsh := hE6.shape
              clear hE6
              cases bq with
              | true =>
                have HFIN : Hid (readG k s.data.toList = (R.1, 0, none)) := by
                  show _ = _
                  rw [HDE.out, if_pos (of_decide_eq_true HBQ.out)]
                go_wp2
                go_ret
                refine ⟨hB6, ?_⟩
                rw [HFIN.out]
                exact Or.inl ⟨rfl, rfl, HI6.out⟩
              | false =>
                have HFIN : Hid (readG k s.data.toList = ([], 3, none)) := by
                  show _ = _
                  rw [HDE.out, if_neg (of_decide_eq_false HBQ.out)]
                go_wp2
                go_ret
                refine ⟨hB6, ?_⟩
                rw [HFIN.out]
                exact Or.inr (Or.inl ⟨by simp, rfl, rfl, rfl⟩)
          · have HR0 : Hid (R.2.1 ≠ 0) := h0
            have C0 : Hid (w6.cell? ⟨fb, 0, none⟩ = some (.int .i64 R.2.2)) := c0
            have C1 : Hid (w6.cell? ⟨fb, 1, none⟩ = some (errV a R.2.1)) := c1
            have HDE : Hid (readG k s.data.toList = ([], R.2.1, some R.2.2)) := by
              show _ = _
              rw [HD2.out]; unfold endG; rw [if_pos HR0.out]
            clear h0 c0 c1 hSd6
            go_wp2
            go_ret
            refine ⟨hB6, ?_⟩
            rw [HDE.out]
            exact Or.inr (Or.inr ⟨HR0.out, rfl, R.2.2, rfl, fb, rfl, C0.out, C1.out⟩)
        · have HDE : Hid (readG k s.data.toList = ([], 10, none)) := by
            show _ = _
            rw [HD.out, if_pos hzs]
          have hsu := (hlow _ (hB4.mono hB)).sum
          clear hFun4 hSd4
          go_wp2
          go_ret
          refine ⟨hB4.mono hB, ?_⟩
          rw [HDE.out]
          exact Or.inr (Or.inl ⟨by simp, rfl, rfl, rfl⟩)
end Go.Proofs.YtpkoefpdpoikkaaGreatDoor
