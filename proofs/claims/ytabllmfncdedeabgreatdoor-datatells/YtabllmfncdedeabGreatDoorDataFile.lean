/-
  The contract of data.Read: what a text is.
-/
import Derived.Test.YtabllmfncdedeabGreatDoorDataLoop
namespace Go.Proofs.YtabllmfncdedeabGreatDoor
open Go.RowKit Go.Extern.Stop Go.Stop Go.Extern Go.Sort Go.Shelf Go.Lib

/-- A head: its four numbers. -/
abbrev Hd := Int × Int × Int × Int
def encH (x : Hd) : List Value := [.int .i64 x.1, .int .i64 x.2.1, .int .i64 x.2.2.1, .int .i64 x.2.2.2]

theorem eqHead : EqlAt Tryz.prog 52 (fun x : Hd => .agg (encH x).toArray) (fun x y => decide (x = y)) := by
  refine ⟨fun x y w => ?_, GuardAt.agg _ (by kernel_rfl)⟩
  have u3 := Tryz.underlying3
  have a3 := Tryz.isAgg3
  have z3 := Tryz.sizeOf3
  have hS : Tryz.prog.underlying 52 = some (.struct (Tryz.prog.fieldsOf 52)) := by kernel_rfl
  have hp : Tryz.prog.stoodInHeld 52 = false := by kernel_rfl
  obtain ⟨x0, x1, x2, x3⟩ := x
  obtain ⟨y0, y1, y2, y3⟩ := y
  simp only [encH]
  rw [run_eql_struct, show (10000 : Nat) = 9999 + 1 from rfl, run_equalIn_agg w 9999 52 _ _ hS hp]
  simp only [Program.fieldsOf, Tryz.underlying52]
  go_simp
  by_cases h0 : x0 = y0 <;> by_cases h1 : x1 = y1 <;> by_cases h2 : x2 = y2 <;> by_cases h3 : x3 = y3 <;> simp [h0, h1, h2, h3]

theorem neqHead : NeqAt Tryz.prog 52 (fun x : Hd => .agg (encH x).toArray) (fun x y => decide (x = y)) := by
  refine ⟨fun x y w => ?_, eqHead.2⟩
  have h := eqHead.1 x y w
  simp only [encH] at h ⊢
  rw [run_eql_struct] at h
  rw [run_neq_struct]
  generalize Sem.run Tryz.prog (Op.equalIn 10000 52 _ _) w = r at h ⊢
  cases r with
  | ok b w' =>
    simp only [Result.andThen, Result.ok.injEq, Value.bool.injEq] at h ⊢
    exact ⟨by rw [h.1], h.2⟩
  | halt z w' => simp [Result.andThen] at h

/-- What Read hands back. -/
def DataPost (w : World) (a : Nat → Addr) (D : List Rw × Nat × Option Nat) (e : Ending) (w' : World) : Prop :=
  Below w.heap.size w w' ∧ ((D.2.1 = 0 ∧ ∃ v, e = .returned (.tuple #[v, .nilIface]) ∧ RowsAt w' v D.1) ∨
    (D.2.1 ≠ 0 ∧ D.1 = [] ∧ D.2.2 = none ∧ e = .returned (.tuple #[.slice none 0 0, errV a D.2.1])) ∨
    (D.2.1 ≠ 0 ∧ D.1 = [] ∧ ∃ at_, D.2.2 = some at_ ∧ ∃ fb, e = .returned (.tuple #[.slice none 0 0, .iface 47 (.pointer (some ⟨fb, 0, none⟩))]) ∧ w'.cell? ⟨fb, 0, none⟩ = some (.int .i64 at_) ∧ w'.cell? ⟨fb, 1, none⟩ = some (errV a D.2.1)))

set_option maxRecDepth 100000 in
set_option maxHeartbeats 8000000 in
theorem data_any (s : ByteArray) (w : World) (a : Nat → Addr) (h : EnvD w a) (hs : s.size ≤ maxLen) :
    Calls Tryz.prog 12 #[.string s] w fun e w' => DataPost w a (dataO s.data.toList) e w' := by
  unfold maxLen at hs
  have hszl := size_list s
  by_cases hbig : 20000 < s.size
  · have hD : dataO s.data.toList = ([], 2, none) := by unfold dataO; rw [if_pos (by omega)]
    rw [hD]
    have hb' : (20000 : Int) < (s.size : Int) := by omega
    have hbd := h.env.bound
    clear hD hszl
    go_enter Tryz.func12, Tryz.ntmps12
    go_wp2
    go_quiet (fail)
    go_wp2
    go_ret2
    exact ⟨below_drewN (Below.refl _ _) nq, Or.inr (Or.inl ⟨by decide, rfl, rfl, rfl⟩)⟩
  · have hb' : ¬ (20000 : Int) < (s.size : Int) := by omega
    have hnb : ¬ 20000 < s.data.toList.length := by omega
    obtain ⟨mx, hmx⟩ := h.env.maxl
    have hcut := Tryz.strings_Cut s ⟨#[10]⟩ mx w (by omega) hmx
    dsimp only at hcut
    rcases cut_cases 10 s.data.toList with ⟨hno, hc⟩ | ⟨la, lb, hl, hno, hc⟩
    · have hD : dataO s.data.toList = ([], 1, none) := by unfold dataO; rw [if_neg hnb, hc]; rfl
      rw [hD]
      rw [hc] at hcut
      dsimp only at hcut
      have eA : (⟨s.data.toList.toArray⟩ : ByteArray) = bytesOf s.data.toList := rfl
      rw [eA] at hcut
      have hrh := fun W (hW : Env W a) => readHead_any (bytesOf s.data.toList) W a hW (by rw [bytes_len]; omega)
      generalize bytesOf s.data.toList = lA at hcut hrh
      have hform : ∃ z0 z1 z2 z3 : Int, (headR lA.data.toList).1 = .agg #[.int .i64 z0, .int .i64 z1, .int .i64 z2, .int .i64 z3] := by
        unfold headR
        split
        · exact ⟨_, _, _, _, rfl⟩
        · exact ⟨_, _, _, _, rfl⟩
      obtain ⟨z0, z1, z2, z3, hz⟩ := hform
      rw [hz] at hrh
      generalize (headR lA.data.toList).2 = okb at hrh
      clear hD hc hno eA hnb hszl hz
      go_enter Tryz.func12, Tryz.ntmps12
      go_wp2_with fail
      refine hcut.mono ?_
      rintro e w1 ⟨rfl, q, rfl⟩
      clear hcut
      have hb1 : Below w.heap.size w (w.drewN q) := below_drewN (Below.refl _ _) q
      have hrh1 := hrh _ (h.env.below hb1)
      clear hrh hmx
      generalize w.drewN q = W1 at hb1 hrh1 ⊢
      go_wp2_with fail
      refine hrh1.mono ?_
      rintro e w2 ⟨rfl, hb2⟩
      clear hrh1
      have hB2 : Below w.heap.size w w2 := hb1.trans (hb2.mono hb1.size)
      have hB3 : Below w.heap.size w (w2.alloc (.cells #[.int .i64 z0, .int .i64 z1, .int .i64 z2, .int .i64 z3] 52)) := hB2.alloc hB2.size _
      have ht := (h.below hB3).env.text
      go_wp2_with fail
      generalize w2.alloc (.cells #[.int .i64 z0, .int .i64 z1, .int .i64 z2, .int .i64 z3] 52) = W3 at hB3 ht ⊢
      go_quiet (fail)
      go_wp2
      go_ret2
      exact ⟨below_drewN hB3 nq, Or.inr (Or.inl ⟨by decide, rfl, rfl, rfl⟩)⟩
    · have hlen : la.length + lb.length + 1 = s.size := by rw [← size_list, hl]; simp; omega
      rw [hc] at hcut
      dsimp only at hcut
      have eA : (⟨la.toArray⟩ : ByteArray) = bytesOf la := rfl
      have eB : (⟨lb.toArray⟩ : ByteArray) = bytesOf lb := rfl
      rw [eA, eB] at hcut
      have eAd : (bytesOf la).data.toList = la := by simp [bytesOf]
      have eBd : (bytesOf lb).data.toList = lb := by simp [bytesOf]
      have hrh := fun W (hW : Env W a) => readHead_any (bytesOf la) W a hW (by rw [bytes_len]; omega)
      rw [eAd] at hrh
      have hsum := fun W => sum_any (bytesOf lb) W (by rw [bytes_len]; unfold maxLen; omega)
      rw [eBd] at hsum
      have hrr := fun W (hW : EnvD W a) => readRows_any (bytesOf lb) W a hW (by rw [bytes_len]; omega)
      rw [eBd] at hrr
      unfold headR at hrh
      cases hho : headO la with
      | none =>
        have hD : dataO s.data.toList = ([], 1, none) := by unfold dataO; rw [if_neg hnb, hc]; simp only [hho]; rfl
        rw [hD]
        rw [hho] at hrh
        dsimp only at hrh
        clear hD hc hno eA eB eAd eBd hnb hszl hsum hrr hho hlen hl
        generalize bytesOf la = lA at hcut hrh
        generalize bytesOf lb = lB at hcut
        go_enter Tryz.func12, Tryz.ntmps12
        go_wp2_with fail
        refine hcut.mono ?_
        rintro e w1 ⟨rfl, q, rfl⟩
        clear hcut
        have hb1 : Below w.heap.size w (w.drewN q) := below_drewN (Below.refl _ _) q
        have hrh1 := hrh _ (h.env.below hb1)
        clear hrh hmx
        generalize w.drewN q = W1 at hb1 hrh1 ⊢
        go_wp2_with fail
        refine hrh1.mono ?_
        rintro e w2 ⟨rfl, hb2⟩
        clear hrh1
        have hB2 : Below w.heap.size w w2 := hb1.trans (hb2.mono hb1.size)
        have hB3 : Below w.heap.size w (w2.alloc (.cells #[.int .i64 0, .int .i64 0, .int .i64 0, .int .i64 0] 52)) := hB2.alloc hB2.size _
        have ht := (h.below hB3).env.text
        go_wp2_with fail
        generalize w2.alloc (.cells #[.int .i64 0, .int .i64 0, .int .i64 0, .int .i64 0] 52) = W3 at hB3 ht ⊢
        go_quiet (fail)
        go_wp2
        go_ret2
        exact ⟨below_drewN hB3 nq, Or.inr (Or.inl ⟨by decide, rfl, rfl, rfl⟩)⟩
      | some hd =>
        obtain ⟨z0, z1, z2, z3⟩ := hd
        rw [hho] at hrh
        dsimp only at hrh
        have hD : dataO s.data.toList = if z3 ≠ sumL lb then ([], 10, none) else endO z0 z1 z2 (rowsO (pieces 10 lb) 0 []) := by
          unfold dataO; rw [if_neg hnb, hc]; simp only [hho]; rfl
        have HD : Hid (dataO s.data.toList = if z3 ≠ sumL lb then ([], 10, none) else endO z0 z1 z2 (rowsO (pieces 10 lb) 0 [])) := hD
        have hsl := sumL_lt lb
        generalize sumL lb = S at hsum HD hsl
        generalize rowsO (pieces 10 lb) 0 [] = R at hrr HD
        clear hD hc hno eA eB eAd eBd hnb hszl hho hlen hl
        generalize bytesOf la = lA at hcut hrh
        generalize bytesOf lb = lB at hcut hsum hrr
        go_enter Tryz.func12, Tryz.ntmps12
        go_wp2_with fail
        refine hcut.mono ?_
        rintro e w1 ⟨rfl, q, rfl⟩
        clear hcut
        have hb1 : Below w.heap.size w (w.drewN q) := below_drewN (Below.refl _ _) q
        have hrh1 := hrh _ (h.env.below hb1)
        clear hrh hmx
        generalize w.drewN q = W1 at hb1 hrh1 ⊢
        go_wp2_with fail
        refine hrh1.mono ?_
        rintro e w2 ⟨rfl, hb2⟩
        clear hrh1
        have hB2 : Below w.heap.size w w2 := hb1.trans (hb2.mono hb1.size)
        have hB3 : Below w.heap.size w (w2.alloc (.cells #[.int .i64 z0, .int .i64 z1, .int .i64 z2, .int .i64 z3] 52)) := hB2.alloc hB2.size _
        have x0 : (w2.alloc (.cells #[.int .i64 z0, .int .i64 z1, .int .i64 z2, .int .i64 z3] 52)).cell? ⟨w2.heap.size, 0, none⟩ = some (.int .i64 z0) := by simp
        have x1 : (w2.alloc (.cells #[.int .i64 z0, .int .i64 z1, .int .i64 z2, .int .i64 z3] 52)).cell? ⟨w2.heap.size, 1, none⟩ = some (.int .i64 z1) := by simp
        have x2 : (w2.alloc (.cells #[.int .i64 z0, .int .i64 z1, .int .i64 z2, .int .i64 z3] 52)).cell? ⟨w2.heap.size, 2, none⟩ = some (.int .i64 z2) := by simp
        have x3 : (w2.alloc (.cells #[.int .i64 z0, .int .i64 z1, .int .i64 z2, .int .i64 z3] 52)).cell? ⟨w2.heap.size, 3, none⟩ = some (.int .i64 z3) := by simp
        have hsum3 := hsum (w2.alloc (.cells #[.int .i64 z0, .int .i64 z1, .int .i64 z2, .int .i64 z3] 52))
        clear hsum
        go_wp2_with fail
        generalize w2.heap.size = gx at x0 x1 x2 x3 ⊢
        generalize w2.alloc (.cells #[.int .i64 z0, .int .i64 z1, .int .i64 z2, .int .i64 z3] 52) = W3 at hB3 x0 x1 x2 x3 hsum3 ⊢
        refine hsum3.mono ?_
        rintro e w4 ⟨rfl, hb4⟩
        clear hsum3
        have hB4 : Below w.heap.size w w4 := hB3.trans (hb4.mono hB3.size)
        replace x0 := below_keep hb4 x0
        replace x1 := below_keep hb4 x1
        replace x2 := below_keep hb4 x2
        replace x3 := below_keep hb4 x3
        have hw0 : IntKind.i64.wrap (S : Int) = (S : Int) := IntWalk.i64_in _ (by omega)
        by_cases hzs : z3 = (S : Int)
        · have HZS : Hid (z3 = (S : Int)) := hzs
          have hD2 : dataO s.data.toList = endO z0 z1 z2 R := by rw [HD.out, if_neg (by simpa using hzs)]
          have HD2 : Hid (dataO s.data.toList = endO z0 z1 z2 R) := hD2
          clear hD2 HD
          subst hzs
          have hrr4 := hrr w4 (h.below hB4)
          clear hrr
          go_wp2_with fail
          refine hrr4.mono ?_
          rintro e w5 ⟨hb5, hres⟩
          clear hrr4
          have hB5 : Below w.heap.size w w5 := hB4.trans (hb5.mono hB4.size)
          rcases hres with ⟨h0, v, rfl, hro⟩ | ⟨h0, v, fb, rfl, c0, c1⟩
          · have HR0 : Hid (R.2.1 = 0) := h0
            obtain ⟨qv, cv, rfl⟩ := hro.form
            replace x0 := below_keep hb5 x0
            replace x1 := below_keep hb5 x1
            replace x2 := below_keep hb5 x2
            replace x3 := below_keep hb5 x3
            have hE5 := h.below hB5
            by_cases h40 : 40 < R.1.length
            · have h40' : (40 : Int) < (R.1.length : Int) := by omega
              have HDE : Hid (dataO s.data.toList = ([], 8, none)) := by
                show _ = _
                rw [HD2.out]; unfold endO; rw [if_neg (by simpa using HR0.out), if_pos h40]
              have hfu := hE5.full
              clear h0 hro x0 x1 x2 x3 hE5
              generalize R.1.length = LL at h40'
              go_wp2
              go_quiet (fail)
              go_wp2
              go_ret2
              exact ⟨below_drewN hB5 nq, by rw [HDE.out]; exact Or.inr (Or.inl ⟨by decide, rfl, rfl, rfl⟩)⟩
            · have h40' : ¬ (40 : Int) < (R.1.length : Int) := by omega
              have hhd := fun d os => Calls.regrown_of (w := w5) (d := d) (os := os) (headOf_any (.slice qv R.1.length cv) R.1 S _ (hro.below (below_regrown w5 d os)) (by omega) hsl)
              have HRO : Hid (RowsAt w5 (.slice qv R.1.length cv) R.1) := hro
              have hneq := neqHead.1 (z0, z1, z2, (S : Int)) ((R.1.length : Int), (endsZ (keysR R.1)).1, (endsZ (keysR R.1)).2, (S : Int))
              have hgd := neqHead.2
              simp only [encH] at hneq
              have hgd' : ∀ (op : BinOp) (a b : Operand) (w : World), Sem.run Tryz.prog (eqGuard op 52 a b (.agg #[.int .i64 z0, .int .i64 z1, .int .i64 z2, .int .i64 (S : Int)]) (.agg #[.int .i64 (R.1.length : Int), .int .i64 (endsZ (keysR R.1)).1, .int .i64 (endsZ (keysR R.1)).2, .int .i64 (S : Int)])) w = .ok () w := fun op a b w => hgd op a b (z0, z1, z2, (S : Int)) ((R.1.length : Int), (endsZ (keysR R.1)).1, (endsZ (keysR R.1)).2, (S : Int)) w
              have hqe : decide (((z0, z1, z2, (S : Int)) : Hd) = ((R.1.length : Int), (endsZ (keysR R.1)).1, (endsZ (keysR R.1)).2, (S : Int))) = decide (z0 = (R.1.length : Int) ∧ z1 = (endsZ (keysR R.1)).1 ∧ z2 = (endsZ (keysR R.1)).2) := by
                rw [decide_eq_decide]; simp
              rw [hqe] at hneq
              have HDE : Hid (dataO s.data.toList = if z0 = (R.1.length : Int) ∧ z1 = (endsZ (keysR R.1)).1 ∧ z2 = (endsZ (keysR R.1)).2 then (R.1, 0, none) else ([], 3, none)) := by
                show _ = _
                rw [HD2.out]; unfold endO; rw [if_neg (by simpa using HR0.out), if_neg h40]
              obtain ⟨bq, hbq⟩ : ∃ bq, decide (z0 = (R.1.length : Int) ∧ z1 = (endsZ (keysR R.1)).1 ∧ z2 = (endsZ (keysR R.1)).2) = bq := ⟨_, rfl⟩
              have HBQ : Hid (decide (z0 = (R.1.length : Int) ∧ z1 = (endsZ (keysR R.1)).1 ∧ z2 = (endsZ (keysR R.1)).2) = bq) := hbq
              rw [hbq] at hneq
              clear hgd hqe hbq h0 hro
              generalize hEE : endsZ (keysR R.1) = E at hhd hneq hgd'
              have HEE : Hid (endsZ (keysR R.1) = E) := hEE
              clear hEE
              obtain ⟨e1, e2⟩ := E
              dsimp only at hhd hneq hgd'
              obtain ⟨LL, hLL⟩ : ∃ LL, R.1.length = LL := ⟨_, rfl⟩
              have HLL : Hid (R.1.length = LL) := hLL
              rw [hLL] at hhd hneq hgd' h40' HRO ⊢
              clear hLL h40
              have f0 := cell_regrown x0
              have f1 := cell_regrown x1
              have f2 := cell_regrown x2
              have f3 := cell_regrown x3
              have hmxo : Tryz.prog.follows .mixedOrders = true := by kernel_rfl
              go_wp2_with fail
              refine wp_region_quiet_below hmxo (by kernel_rfl) ?_
              repeat (go_big_quiet_step (exact hhd _ _))
              refine wpQuiet_nil ?_
              intro _ hw'
              obtain ⟨⟨dq, osq⟩, hw''⟩ := hw'
              subst hw''
              clear hhd f0 f1 f2 f3 hneq hgd' x0 x1 x2 x3
              have hbW := below_regrown w5 dq osq
              have hB6 : Below w.heap.size w (grow (redrawn w5 dq) osq) := hB5.trans (hbW.mono hB5.size)
              have HRO6 : Hid (RowsAt (grow (redrawn w5 dq) osq) (.slice qv LL cv) R.1) := HRO.out.below hbW
              have hsh := (h.below hB6).shape
              clear HRO hE5
              generalize grow (redrawn w5 dq) osq = W6 at hB6 HRO6 hsh ⊢
              cases bq with
              | true =>
                have HFIN : Hid (dataO s.data.toList = (R.1, 0, none)) := by
                  show _ = _
                  rw [HDE.out, if_pos (of_decide_eq_true HBQ.out)]
                go_wp2
                go_ret2
                exact ⟨hB6, by rw [HFIN.out]; exact Or.inl ⟨rfl, _, rfl, HRO6.out⟩⟩
              | false =>
                have HFIN : Hid (dataO s.data.toList = ([], 3, none)) := by
                  show _ = _
                  rw [HDE.out, if_neg (of_decide_eq_false HBQ.out)]
                go_wp2
                go_quiet (fail)
                go_wp2
                go_ret2
                exact ⟨below_drewN hB6 nq, by rw [HFIN.out]; exact Or.inr (Or.inl ⟨by decide, rfl, rfl, rfl⟩)⟩
          · have HR0 : Hid (R.2.1 ≠ 0) := h0
            have C0 : Hid (w5.cell? ⟨fb, 0, none⟩ = some (.int .i64 R.2.2)) := c0
            have C1 : Hid (w5.cell? ⟨fb, 1, none⟩ = some (errV a R.2.1)) := c1
            have HDE : Hid (dataO s.data.toList = ([], R.2.1, some R.2.2)) := by
              show _ = _
              rw [HD2.out]; unfold endO; rw [if_pos HR0.out]
            clear h0 c0 c1 x0 x1 x2 x3
            go_wp2
            go_ret2
            exact ⟨hB5, by rw [HDE.out]; exact Or.inr (Or.inr ⟨HR0.out, rfl, R.2.2, rfl, fb, rfl, C0.out, C1.out⟩)⟩
        · have HDE : Hid (dataO s.data.toList = ([], 10, none)) := by
            show _ = _
            rw [HD.out, if_pos hzs]
          have hsu := (h.below hB4).sum
          clear hrr
          go_wp2
          go_quiet (fail)
          go_wp2
          go_ret2
          exact ⟨below_drewN hB4 nq, by rw [HDE.out]; exact Or.inr (Or.inl ⟨by decide, rfl, rfl, rfl⟩)⟩
end Go.Proofs.YtabllmfncdedeabGreatDoor
