/-
  The contracts of cmp.Or at two numbers, list.order and list.behind.
-/
import Derived.Test.YtcpplldfmmpaoaaGreatDoorTxnDel
import Derived.Deep.RegionLaw
namespace Go.Proofs.YtcpplldfmmpaoaaGreatDoor
open Go.RowKit Go.Extern.Stop Go.Stop Go.Extern Go.Sort Go.Shelf Go.Lib

theorem AskF.later {g : Nat} {cb : Array Value} {p : Fl → Bool} {fs : List Fl} {w w' : World} (h : AskF g cb p fs w) (hb : Below w.heap.size w w') : AskF g cb p fs w' := fun f hf W hW => h f hf W (hb.trans (hW.mono hb.size))

set_option maxRecDepth 100000 in
set_option maxHeartbeats 8000000 in
theorem deleteG_any (g : Nat) (cb : Array Value) (p : Fl → Bool) (v : Value) (fs : List Fl) (w0 w : World) (hb0 : Below w0.heap.size w0 w) (ho : w.ownsRow w0.heap.size 37 6 v fs.length (flatF fs)) (hl : fs.length ≤ 20000) (eg : ∀ args w, (callFunc g args).run Tryz.prog w = .ok (.enter g args) w) (hp : AskF g cb p fs w0) :
    Calls Tryz.prog 60 #[v, .func (.func g) #[] cb] w fun e w' => ∃ v', e = .returned v' ∧ w'.ownsRow w0.heap.size 37 6 v' (fs.filter fun f => !p f).length (flatF (fs.filter fun f => !p f)) ∧ Below w0.heap.size w0 w' := by
  have hx := (flsAt_of_own ho).1
  have hix := indexG_any g cb p v fs w hx hl eg (hp.later hb0)
  have HOW : Hid (w.ownsRow w0.heap.size 37 6 v fs.length (flatF fs)) := ho
  have HB0 : Hid (Below w0.heap.size w0 w) := hb0
  have HP : Hid (AskF g cb p fs w0) := hp
  have HFL : Hid (fs.any p = false → (fs.filter fun f => !p f) = fs) := fun h => List.filter_eq_self.2 fun f hf => by
    have := List.any_eq_false.1 h f hf
    simpa using this
  obtain ⟨q, cap, rfl⟩ := hx.form
  obtain ⟨L, hL⟩ : ∃ L, fs.length = L := ⟨_, rfl⟩
  have HL : Hid (fs.length = L) := hL
  rw [hL] at hix hl ⊢
  obtain ⟨RS, hRS⟩ : ∃ R, (fs.filter fun f => !p f) = R := ⟨_, rfl⟩
  have HRS : Hid ((fs.filter fun f => !p f) = RS) := hRS
  rw [hRS]
  clear hx ho hb0 hp hL hRS
  go_enter Tryz.func60, Tryz.ntmps60
  go_wp2_with fail
  refine hix.mono ?_
  rintro e w1 ⟨i, rfl, hi, hb1⟩
  clear hix
  have HB1 : Hid (Below w.heap.size w w1) := hb1
  have HB01 : Hid (Below w0.heap.size w0 w1) := HB0.out.trans (hb1.mono HB0.out.size)
  clear hb1
  rcases hi with ⟨rfl, ha⟩ | ⟨k, hk, rfl, hpk, hno, -⟩
  · have HA : Hid (RS = fs) := by show _ = _; rw [← HRS.out]; exact HFL.out ha
    clear ha
    go_wp2
    go_ret
    refine ⟨_, rfl, ?_, HB01.out⟩
    rw [HA.out]
    have h := own_but (P := fun _ => False) HOW.out (But.of_below HB1.out) (fun _ _ h => h)
    rw [HL.out] at h ⊢
    exact h
  · obtain ⟨b, cur, rfl, hb, hg, hcp, hmx, hsz, htk⟩ : ∃ b cur, q = some ⟨b, 0, none⟩ ∧ w0.heap.size ≤ b ∧ w1.heap[b]? = some (.cells cur 37 (0, 0)) ∧ L ≤ cap ∧ cap ≤ maxLen ∧ cur.size = cap * 6 ∧ cur.toList.take (fs.length * 6) = flatF fs := by
      rcases HOW.out.2 with ⟨e, h0⟩ | ⟨b, c, cur, e, hb, hg, h1, h2, h3, h4⟩
      · rw [h0] at hk; exact absurd hk (Nat.not_lt_zero _)
      · injection e with e1 e2 e3
        subst e3
        exact ⟨b, cur, e1, hb, (HB1.out.block b (lt_of_block hg)).trans hg, by rw [← HL.out]; exact h1, h2, h3, h4⟩
    have HST : Hid (DelInv w1 b (cap * 6) (fun f => !p f) fs k (k + 1)) := delInv_start hg hsz htk hk (fun j hj hjk => by simpa using hno j hj hjk) (by simpa using hpk)
    have hkL : k < L := by rw [← HL.out]; exact hk
    have hne1 : ((k : Int) == -1) = false := beq_eq_false_iff_ne.2 (by omega)
    have HHB : Hid (w0.heap.size ≤ b) := hb
    have HMX : Hid (cap ≤ maxLen) := hmx
    clear hg hsz htk hpk hno hk HOW HB1 HFL hb hmx
    have hi6 : IntKind.i64.wrap ((k : Int) + 1) = (k : Int) + 1 := IntWalk.i64_in _ (by omega)
    go_wp2_with fail
    go_loopg [5, 6, 7] L (fun gg s5 s6 _ wr => ∃ (i j : Nat), s5 = .int .i64 i ∧ s6 = .int .i64 j ∧ j ≤ L ∧ L - j ≤ gg ∧ i < j ∧ Below w0.heap.size w0 wr ∧ DelInv wr b (cap * 6) (fun f => !p f) fs i j)
    case atStart => exact ⟨k, k + 1, rfl, by go_num, by omega, by omega, by omega, HB01.out, HST.out⟩
    case round =>
      clear hne1 hi6 hkL
      obtain ⟨i, j, rfl, rfl, hjL, hgg, hij, hbr, hD⟩ := hrel
      have HD : Hid (DelInv wr b (cap * 6) (fun f => !p f) fs i j) := hD
      have HBR : Hid (Below w0.heap.size w0 wr) := hbr
      clear hD
      by_cases hlt : j < L
      · have hltx : j < fs.length := by rw [HL.out]; exact hlt
        have hltz : (j : Int) < (L : Int) := by omega
        have c0 := HD.out.cell hltx 0 (by omega)
        have c1 := HD.out.cell hltx 1 (by omega)
        have c2 := HD.out.cell hltx 2 (by omega)
        have c3 := HD.out.cell hltx 3 (by omega)
        have c4 := HD.out.cell hltx 4 (by omega)
        have c5 := HD.out.cell hltx 5 (by omega)
        have hfb := boxW_at wr fs[j]
        have hbb := boxW_below wr fs[j]
        have hcl := HP.out fs[j] (List.getElem_mem _) (boxW wr fs[j]) (hbr.trans (hbb.mono hbr.size))
        unfold boxW at hfb hbb hcl
        have HSK : Hid (p fs[j] = true → ∀ W, Below wr.heap.size wr W → DelInv W b (cap * 6) (fun f => !p f) fs i (j + 1)) := fun h W hW => (HD.out.below hW).skip hltx (by simp [h])
        have HKP : Hid (p fs[j] = false → ∀ W, Below wr.heap.size wr W → DelInv (put6 W b (i * 6) fs[j]) b (cap * 6) (fun f => !p f) fs (i + 1) (j + 1)) := fun h W hW => (HD.out.below hW).keep hltx (by rw [HL.out]; omega) (by simp [h])
        simp only [encF, List.getElem?_cons_succ, List.getElem?_cons_zero] at c0 c1 c2 c3 c4 c5
        generalize fs[j] = f at c0 c1 c2 c3 c4 c5 hfb hbb hcl HSK HKP
        clear hltx
        unfold flV at hcl
        obtain ⟨fp, fq, fn, flo, fhi, fseq⟩ := f
        dsimp only at c0 c1 c2 c3 c4 c5 hfb hbb hcl HKP
        have hi0' : (0 : Int) ≤ (j : Int) := by omega
        have hii : (i : Int) < (L : Int) := by omega
        have hii0 : (0 : Int) ≤ (i : Int) := by omega
        have hw1 : IntKind.i64.wrap ((j : Int) + 1) = (j : Int) + 1 := IntWalk.i64_in _ (by omega)
        have hw2 : IntKind.i64.wrap ((i : Int) + 1) = (i : Int) + 1 := IntWalk.i64_in _ (by omega)
        rw [Nat.add_zero] at c0
        go_upto_region 8 with fail
        clear c0 c1 c2 c3 c4 c5
        generalize wr.alloc (.cells #[.string fp, .string fq, .int .i64 fn, .int .i64 flo, .int .i64 fhi, .int .i64 fseq] 37) = W5 at hfb hbb hcl ⊢
        obtain ⟨b0, b1, b2, b3, b4, b5, -⟩ := hfb.cells
        dsimp only at b0 b1 b2 b3 b4 b5
        cases hq : p (fp, fq, fn, flo, fhi, fseq) with
        | true =>
          rw [hq] at hcl
          have HSK2 := HSK.out hq
          have HS2 : Hid (∀ W, Below wr.heap.size wr W → DelInv W b (cap * 6) (fun f => !p f) fs i (j + 1)) := HSK2
          clear HSK HKP HSK2 hq
          go_wp2_with (go_at_fn g; refine hcl.mono ?_; rintro e w6 ⟨rfl, hb6⟩)
          have hB6 : Below wr.heap.size wr w6 := hbb.trans (hb6.mono hbb.size)
          go_roundg (L - (j + 1))
          case measure => omega
          case rel => exact ⟨i, j + 1, rfl, by go_num, by omega, Nat.le_refl _, by omega, HBR.out.trans (hB6.mono HBR.out.size), HS2.out w6 hB6⟩
        | false =>
          rw [hq] at hcl
          have HKP2 := HKP.out hq
          have HS2 : Hid (∀ W, Below wr.heap.size wr W → DelInv (put6 W b (i * 6) (fp, fq, fn, flo, fhi, fseq)) b (cap * 6) (fun f => !p f) fs (i + 1) (j + 1)) := HKP2
          clear HSK HKP HKP2 hq
          go_upto_region 9 with (go_at_fn g; refine hcl.mono ?_; rintro e w6 ⟨rfl, hb6⟩)
          have hB6 : Below wr.heap.size wr w6 := hbb.trans (hb6.mono hbb.size)
          have hD6 := HD.out.below hB6
          have d0 := below_keep hb6 b0
          have d1 := below_keep hb6 b1
          have d2 := below_keep hb6 b2
          have d3 := below_keep hb6 b3
          have d4 := below_keep hb6 b4
          have d5 := below_keep hb6 b5
          obtain ⟨u0, o0⟩ := hD6.old (i * 6) (by omega)
          obtain ⟨u1, o1⟩ := hD6.old (i * 6 + 1) (by omega)
          obtain ⟨u2, o2⟩ := hD6.old (i * 6 + 2) (by omega)
          obtain ⟨u3, o3⟩ := hD6.old (i * 6 + 3) (by omega)
          obtain ⟨u4, o4⟩ := hD6.old (i * 6 + 4) (by omega)
          obtain ⟨u5, o5⟩ := hD6.old (i * 6 + 5) (by omega)
          have fz := fun x => hD6.fz x
          have HS3 : Hid (DelInv (put6 w6 b (i * 6) (fp, fq, fn, flo, fhi, fseq)) b (cap * 6) (fun f => !p f) fs (i + 1) (j + 1)) := HS2.out w6 hB6
          have HB6 : Hid (Below w0.heap.size w0 (put6 w6 b (i * 6) (fp, fq, fn, flo, fhi, fseq))) := put6_below (HBR.out.trans (hB6.mono HBR.out.size)) HHB.out
          unfold put6 at HS3 HB6
          dsimp only at HS3 HB6
          clear b0 b1 b2 b3 b4 b5 hcl hb6 hB6 hD6 HS2 hfb hbb
          go_wp2
          go_roundg (L - (j + 1))
          case measure => omega
          case rel => exact ⟨i + 1, j + 1, by go_num, by go_num, by omega, Nat.le_refl _, by omega, HB6.out, HS3.out⟩
      · obtain rfl : j = L := by omega
        have hltz : ¬ (j : Int) < (j : Int) := by omega
        have hci : ¬ cap = i := by omega
        have hi1 : (i : Int) ≤ (j : Int) := by omega
        have hi2 : (0 : Int) ≤ (i : Int) := by omega
        have hi3 : (j : Int) ≤ (cap : Int) := by omega
        have hi4 : (i : Int) ≤ (cap : Int) := by omega
        have hcl : ∀ ty, (Builtin.clear_ #[22] ty #[.slice (some ⟨b, i * 6, none⟩) (j - i) (cap - i)]).run Tryz.prog wr = .ok (.tuple #[]) (wr.setCells b (i * 6) (Builtin.zeroCells (Value.cells (.agg #[.string ⟨#[]⟩, .string ⟨#[]⟩, .int .i64 0, .int .i64 0, .int .i64 0, .int .i64 0])) (j - i)).toList) :=
          fun ty => run_clear6 wr ty b (i * 6) (j - i) (cap - i) (by omega) (fun t ht => by
            obtain ⟨u, hu⟩ := HD.out.old (i * 6 + t) (by omega)
            rw [hu]; rfl) (fun t => HD.out.fz t)
        have HEND : Hid (Below w0.heap.size w0 (wr.setCells b (i * 6) (Builtin.zeroCells (Value.cells (.agg #[.string ⟨#[]⟩, .string ⟨#[]⟩, .int .i64 0, .int .i64 0, .int .i64 0, .int .i64 0])) (j - i)).toList) ∧ (wr.setCells b (i * 6) (Builtin.zeroCells (Value.cells (.agg #[.string ⟨#[]⟩, .string ⟨#[]⟩, .int .i64 0, .int .i64 0, .int .i64 0, .int .i64 0])) (j - i)).toList).ownsRow w0.heap.size 37 6 (.slice (some ⟨b, 0, none⟩) i cap) RS.length (flatF RS)) := by
          refine ⟨setCells_below _ _ _ _ HBR.out HHB.out, ?_⟩
          obtain ⟨cur, h1, h2, h3, h4, _⟩ := HD.out
          obtain ⟨cur', g1, g2, g3⟩ := setCells_heap (Builtin.zeroCells (Value.cells (.agg #[.string ⟨#[]⟩, .string ⟨#[]⟩, .int .i64 0, .int .i64 0, .int .i64 0, .int .i64 0])) (j - i)).toList (i * 6) wr cur h1
          have e : kept (fun f => !p f) fs j = RS := by rw [← HL.out, kept_all]; exact HRS.out
          rw [e] at h3 h4
          rw [← HRS.out] at h3 h4 ⊢
          refine own_of_del HHB.out g1 (g2.trans h2) HMX.out h3 (by omega) (fun t u hu => ?_)
          have hlt : t < i * 6 := by
            rw [h3, ← flatF_len]
            rcases Nat.lt_or_ge t (flatF (fs.filter fun f => !p f)).length with h' | h'
            · exact h'
            · rw [List.getElem?_eq_none h'] at hu; cases hu
          rw [g3 t (by omega)]
          exact h4 t u hu
        generalize wr.setCells b (i * 6) (Builtin.zeroCells (Value.cells (.agg #[.string ⟨#[]⟩, .string ⟨#[]⟩, .int .i64 0, .int .i64 0, .int .i64 0, .int .i64 0])) (j - i)).toList = WE at hcl HEND
        go_wp2
        go_ret
        exact ⟨_, rfl, HEND.out.2, HEND.out.1⟩
end Go.Proofs.YtcpplldfmmpaoaaGreatDoor
namespace Go.Proofs.YtcpplldfmmpaoaaGreatDoor
open Go.RowKit Go.Extern.Stop Go.Stop Go.Extern Go.Sort Go.Shelf Go.Lib

theorem step_append_ran {P : Program} {ops : Array Oper} {o : Oper} {a : Act} {w w' : World} {K : Act → World → Prop} {Q : Exit → Act → World → Prop} {E : Prop}
    (hg : o.guard = none) (s x : Operand) (t : TypeId) (hop : o.op = Op.call { callee := Callee.builtin Builtin.append, args := #[s, x], argTypes := #[t, t] }) (v u v' : Value) (hs : a.eval s = v) (hx : a.eval x = u)
    (hrun : (Builtin.append_ #[t, t] o.type #[v, u]).run P w = .ok v' w') (hK : K (a.put o.dst v') w') : if Region.wanted o (yielded ops a.tmps) = true then Oper.wp P o a w K Q else E := by
  have hw : Region.wanted o (yielded ops a.tmps) = true := by simp [Region.wanted, hg]
  rw [if_pos hw]
  unfold Oper.wp
  simp [execOp, hop, resolve, invoke, builtin, hs, hx, hrun, Result.andThen]
  exact hK

theorem wpList_append_ran {P : Program} {w w' : World} {ops : Array Oper} {rest : List Oper} {o : Oper} {a : Act} {Q : Exit → Act → World → Prop} (hgd : o.guard = none) (s x : Operand) (t : TypeId)
    (ho : o.op = .call { callee := .builtin .append, args := #[s, x], argTypes := #[t, t] }) (v u v' : Value) (hs : a.eval s = v) (hx : a.eval x = u) (hr : (Builtin.append_ #[t, t] o.type #[v, u]).run P w = .ok v' w')
    (h : wpList P ops Q rest (a.put o.dst v') w') : wpList P ops Q (o :: rest) a w := by
  refine wpList_plain hgd fun K hK => ?_
  unfold Oper.wp execOp
  simp only [ho, resolve, invoke, builtin, Sem.run_bind, Sem.run_pure, Result.andThen_ok, List.map_toArray, List.map_cons, List.map_nil, hs, hx, hr]
  exact hK _ _ h
end Go.Proofs.YtcpplldfmmpaoaaGreatDoor
namespace Go.Proofs.YtcpplldfmmpaoaaGreatDoor
open Go.RowKit Go.Extern.Stop Go.Stop Go.Extern Go.Sort Go.Shelf Go.Lib

structure EnvL (w : World) (a : Nat → Addr) : Prop where
  file : EnvK w a
  miss : w.cell? ⟨2, 0, none⟩ = some (.iface 195 (.pointer (some (a 5))))
  exist : w.cell? ⟨1, 0, none⟩ = some (.iface 195 (.pointer (some (a 6))))
  full : w.cell? ⟨7, 0, none⟩ = some (.iface 195 (.pointer (some (a 7))))
  order : w.cell? ⟨5, 0, none⟩ = some (.iface 195 (.pointer (some (a 8))))

theorem EnvL.below {w w' : World} {a : Nat → Addr} (h : EnvL w a) (hb : Below w.heap.size w w') : EnvL w' a :=
  ⟨h.file.below hb, below_keep hb h.miss, below_keep hb h.exist, below_keep hb h.full, below_keep hb h.order⟩

def orI (x y : Int) : Int := if x = 0 then y else x

set_option maxRecDepth 100000 in
set_option maxHeartbeats 1000000 in
theorem cmpOr_any (x y : Int) (b : Nat) (w : World) (h0 : w.cell? ⟨b, 0, none⟩ = some (.int .i64 x)) (h1 : w.cell? ⟨b, 1, none⟩ = some (.int .i64 y)) :
    Calls Tryz.prog 80 #[.slice (some ⟨b, 0, none⟩) 2 2] w fun e w' => e = .returned (.int .i64 (orI x y)) ∧ w' = w := by
  go_enter Tryz.func80, Tryz.ntmps80
  go_wp2
  go_loopw [8] (fun k wr => ∃ n : Nat, n ≤ 2 ∧ k = .int .i64 n ∧ (1 ≤ n → x = 0) ∧ (2 ≤ n → y = 0) ∧ wr = w) (fun k _ => 2 - (intOf k).toNat)
  case atStart => exact ⟨0, by omega, rfl, fun h => absurd h (by omega), fun h => absurd h (by omega), rfl⟩
  case round =>
    obtain ⟨n, hn, rfl, hx, hy, rfl⟩ := hrel
    obtain rfl | rfl | rfl : n = 0 ∨ n = 1 ∨ n = 2 := by omega
    · clear hx hy
      by_cases hx : x = 0
      · subst hx
        go_wp2
        go_roundw
        case rel => exact ⟨1, by omega, by go_num, by simp, by simp, by first | rfl | trivial⟩
        case measure => simp [intOf]
      · have hb : (x == 0) = false := beq_eq_false_iff_ne.2 hx
        go_wp2
        go_ret
        exact ⟨by rw [orI, if_neg hx]; rfl, rfl⟩
    · obtain rfl := hx (by omega)
      clear hx hy
      by_cases hy : y = 0
      · subst hy
        go_wp2
        go_roundw
        case rel => exact ⟨2, by omega, by go_num, by simp, by simp, by first | rfl | trivial⟩
        case measure => simp [intOf]
      · have hb : (y == 0) = false := beq_eq_false_iff_ne.2 hy
        go_wp2
        go_ret
        exact ⟨rfl, rfl⟩
    · obtain rfl := hx (by omega)
      obtain rfl := hy (by omega)
      clear hx hy
      go_wp2
      go_ret
      exact ⟨rfl, rfl⟩

theorem ord_pk {p q : List UInt8} {g k : Bool} {n m : Int} (hp : pathO p = some (g, n)) (hq : pathO q = some (k, m)) : orI (Lib.compareBytes (kindL g) (kindL k)) (Lib.compareInt n m) = Lib.compareInt (pk p) (pk q) := by
  obtain ⟨e1, a1, a2⟩ := pk_some hp
  obtain ⟨e2, b1, b2⟩ := pk_some hq
  rw [e1, e2]
  cases g <;> cases k
  · rfl
  · have : Lib.compareBytes (kindL false) (kindL true) = -1 := by decide
    rw [this]
    unfold Lib.compareInt orI
    rw [if_neg (by decide), if_pos (by simp; omega)]
  · have : Lib.compareBytes (kindL true) (kindL false) = 1 := by decide
    rw [this]
    unfold Lib.compareInt orI
    rw [if_neg (by decide), if_neg (by simp; omega), if_pos (by simp; omega)]
  · have : Lib.compareBytes (kindL true) (kindL true) = 0 := by decide
    rw [this]
    unfold Lib.compareInt orI
    simp only [if_true]
    congr 1
    · exact propext ⟨fun h => by omega, fun h => by omega⟩
    · congr 1
      exact propext ⟨fun h => by omega, fun h => by omega⟩

theorem cmpI_neg (x y : Int) : (0 ≤ Lib.compareInt x y) ↔ y ≤ x := by
  unfold Lib.compareInt
  split
  · constructor <;> intro h <;> omega
  · split <;> constructor <;> intro h <;> omega

theorem cmpI_lt (x y : Int) : (Lib.compareInt x y < 0) ↔ x < y := by
  have := cmpI_neg x y
  omega

set_option maxRecDepth 100000 in
set_option maxHeartbeats 1000000 in
theorem lorder_any (p q : ByteArray) (w : World) (a : Nat → Addr) (h : EnvN w a) (hp : p.size ≤ 100000) (hq : q.size ≤ 100000) (hpo : pathO p.data.toList ≠ none) (hqo : pathO q.data.toList ≠ none) :
    Calls Tryz.prog 65 #[.string p, .string q] w fun e w' => e = .returned (.int .i64 (Lib.compareInt (pk p.data.toList) (pk q.data.toList))) ∧ Below w.heap.size w w' := by
  obtain ⟨⟨g, n⟩, hp1⟩ := Option.ne_none_iff_exists'.1 hpo
  obtain ⟨⟨k, m⟩, hq1⟩ := Option.ne_none_iff_exists'.1 hqo
  have ha := fnumber_n p w a h hp
  have hb := fun W (hW : EnvN W a) => fnumber_n q W a hW hq
  rw [pathR_some hp1] at ha
  rw [pathR_some hq1] at hb
  rw [← ord_pk hp1 hq1]
  have hs := fun W => Tryz.strings_Compare (bytesOf (kindL g)) (bytesOf (kindL k)) W
  rw [bytes_data, bytes_data] at hs
  have hc := fun W => Tryz.cmp_Compare_int n m W
  generalize Lib.compareBytes (kindL g) (kindL k) = X at hs ⊢
  generalize Lib.compareInt n m = Y at hc ⊢
  simp only [errV] at ha hb
  generalize bytesOf (kindL g) = KA at ha hs
  generalize bytesOf (kindL k) = KB at hb hs
  clear hp1 hq1 hpo hqo hp hq
  go_enter Tryz.func65, Tryz.ntmps65
  go_wp2_with fail
  refine ha.mono ?_
  rintro e w1 ⟨rfl, hb1⟩
  have hq1 := hb w1 (h.below hb1)
  clear ha hb
  go_wp2_with fail
  refine hq1.mono ?_
  rintro e w2 ⟨rfl, hb2⟩
  clear hq1
  have hB2 : Below w.heap.size w w2 := hb1.trans (hb2.mono hb1.size)
  clear hb1 hb2
  go_wp2_with fail
  refine (hs _).mono ?_
  rintro e w3 ⟨rfl, rfl⟩
  clear hs
  go_wp2_with fail
  refine (hc _).mono ?_
  rintro e w4 ⟨rfl, rfl⟩
  clear hc
  have hal : Below w4.heap.size w4 (w4.alloc (.cells #[.int .i64 X, .int .i64 Y] 3)) := (Below.refl _ _).alloc (Nat.le_refl _) _
  have hor := cmpOr_any X Y w4.heap.size (w4.alloc (.cells #[.int .i64 X, .int .i64 Y] 3)) (by simp) (by simp)
  go_wp2_with fail
  refine hor.mono ?_
  rintro e w5 ⟨rfl, rfl⟩
  clear hor
  go_wp2
  go_ret
  exact ⟨rfl, hB2.trans (hal.mono hB2.size)⟩

theorem last_of {β : Type} (acc : List β) (k : Nat) (d : β) (hk : acc.length = k + 1) (hkk : k < acc.length) : acc.getLastD d = acc[k] := by
  have hne : acc ≠ [] := fun e => by rw [e] at hk; simp at hk
  rw [List.getLastD_eq_getLast?, List.getLast?_eq_some_getLast hne, Option.getD_some, List.getLast_eq_getElem]
  congr 1
  omega

def behE (fs : List Fl) (f : Fl) : Nat := if fs ≠ [] ∧ fk f ≤ fk (fs.getLastD zeroF) then 9 else 0

set_option maxRecDepth 100000 in
set_option maxHeartbeats 2000000 in
theorem behind_any (v : Value) (fs : List Fl) (f : Fl) (w : World) (a : Nat → Addr) (h : EnvL w a) (hx : FlsAt w v fs) (hl : fs.length ≤ 100000) (hsz : ∀ g ∈ fs, g.1.size ≤ 100000 ∧ pathO g.1.data.toList ≠ none) (hf : f.1.size ≤ 100000) (hfo : pathO f.1.data.toList ≠ none) :
    Calls Tryz.prog 68 #[v, flV f] w fun e w' => e = .returned (errV a (behE fs f)) ∧ Below w.heap.size w w' := by
  obtain ⟨q, cap, rfl⟩ := hx.form
  have hal : Below w.heap.size w (w.alloc (.cells #[.string f.1, .string f.2.1, .int .i64 f.2.2.1, .int .i64 f.2.2.2.1, .int .i64 f.2.2.2.2.1, .int .i64 f.2.2.2.2.2] 37)) := (Below.refl _ _).alloc (Nat.le_refl _) _
  have hfl := FlAt.new w f
  unfold flV
  by_cases hne : fs = []
  · have hE : behE fs f = 0 := by unfold behE; rw [if_neg]; rintro ⟨h', _⟩; exact h' hne
    rw [hE]
    subst hne
    simp only [errV]
    have hd : decide ((((0 : Nat) : Int)) > 0) = false := by decide
    go_enter Tryz.func68, Tryz.ntmps68
    go_wp2
    all_goals
      go_quiet (fail)
      go_wp2
      go_ret
      exact ⟨rfl, below_drewN hal nq⟩
  · obtain ⟨b, o, rfl, hc⟩ := hx.cells hne
    obtain ⟨k, hk⟩ : ∃ k, fs.length = k + 1 := ⟨fs.length - 1, by have := List.length_pos_iff.2 hne; omega⟩
    have hkk : k < fs.length := by omega
    have hlast := last_of fs k zeroF hk hkk
    obtain ⟨gs, go⟩ := hsz fs[k] (List.getElem_mem _)
    have c0 := below_keep hal (hc k hkk).1
    have z0 := hfl.cells.1
    have HOD : Hid (∀ W, Below w.heap.size w W → Calls Tryz.prog 65 #[.string fs[k].1, .string f.1] W fun e w' => e = .returned (.int .i64 (Lib.compareInt (fk fs[k]) (fk f))) ∧ Below W.heap.size W w') := fun W hW => lorder_any fs[k].1 f.1 W a (h.below hW).file.env gs hf go hfo
    have HE : Hid (behE fs f = if fk f ≤ fk fs[k] then 9 else 0) := by
      show _ = _
      unfold behE
      rw [hlast]
      simp [hne]
    have hcm := cmpI_neg (fk fs[k]) (fk f)
    rw [HE.out, hk]
    have hk5 : k ≤ 100000 := by omega
    clear HE hlast gs go hsz hc hx hne hfo hl
    obtain ⟨fp, fq, fn, flo, fhi, fseq⟩ := f
    dsimp only at hal hfl hf z0 c0 HOD ⊢
    generalize fk (fp, fq, fn, flo, fhi, fseq) = KF at HOD hcm ⊢
    generalize fk fs[k] = KG at HOD hcm ⊢
    generalize fs[k].1 = gp at c0 HOD
    clear hkk hk
    generalize Lib.compareInt KG KF = C at HOD hcm
    have hi1 : (0 : Int) < (k : Int) + 1 := by omega
    have hi3 : (k : Int) < (k : Int) + 1 := by omega
    have hi4 : (0 : Int) ≤ (k : Int) := by omega
    have hi5 : IntKind.i64.wrap (k : Int) = (k : Int) := IntWalk.i64_in _ (by omega)
    have hd0 : decide ((k : Int) + 1 > 0) = true := decide_eq_true hi1
    by_cases hle : KF ≤ KG
    · have h0 : (0 : Int) ≤ C := hcm.2 hle
      rw [if_pos hle]
      simp only [errV]
      go_enter Tryz.func68, Tryz.ntmps68
      go_upto_region 1 with fail
      generalize w.alloc (.cells #[.string fp, .string fq, .int .i64 fn, .int .i64 flo, .int .i64 fhi, .int .i64 fseq] 37) = WA at hal hfl z0 c0 ⊢
      go_region_held3 (fun w' => w'.cell? ⟨b, o + k * 6, none⟩ = some (.string gp) ∧ w'.cell? ⟨w.heap.size, 0, none⟩ = some (.string fp) ∧ Below w.heap.size w w')
        (first
          | (go_split_ands; with_reducible exact ⟨below_keep hbX (by assumption), below_keep hbX (by assumption), Below.trans (by assumption) (hbX.mono (Below.size (by assumption)))⟩)
          | (go_split_ands; exact ⟨by go_keep, by go_keep, by assumption⟩)
          | (go_split_ands; exact ⟨by go_keep, by go_keep, Below.drew (by assumption)⟩))
        (first
          | (go_at_call 65; with_reducible refine (HOD.out _ (by go_split_ands; assumption)).mono ?_; rintro e wX ⟨rfl, hbX⟩))
      go_split_ands
      have hBX : Below w.heap.size w wX := by assumption
      have ho := (h.below hBX).order
      go_wp2
      go_ret
      exact ⟨rfl, hBX⟩
    · have h0 : ¬ (0 : Int) ≤ C := fun h' => hle (hcm.1 h')
      rw [if_neg hle]
      simp only [errV]
      go_enter Tryz.func68, Tryz.ntmps68
      go_upto_region 1 with fail
      generalize w.alloc (.cells #[.string fp, .string fq, .int .i64 fn, .int .i64 flo, .int .i64 fhi, .int .i64 fseq] 37) = WA at hal hfl z0 c0 ⊢
      go_region_held3 (fun w' => w'.cell? ⟨b, o + k * 6, none⟩ = some (.string gp) ∧ w'.cell? ⟨w.heap.size, 0, none⟩ = some (.string fp) ∧ Below w.heap.size w w')
        (first
          | (go_split_ands; with_reducible exact ⟨below_keep hbX (by assumption), below_keep hbX (by assumption), Below.trans (by assumption) (hbX.mono (Below.size (by assumption)))⟩)
          | (go_split_ands; exact ⟨by go_keep, by go_keep, by assumption⟩)
          | (go_split_ands; exact ⟨by go_keep, by go_keep, Below.drew (by assumption)⟩))
        (first
          | (go_at_call 65; with_reducible refine (HOD.out _ (by go_split_ands; assumption)).mono ?_; rintro e wX ⟨rfl, hbX⟩))
      go_split_ands
      have hBX : Below w.heap.size w wX := by assumption
      go_wp2
      go_ret
      exact ⟨rfl, hBX⟩
end Go.Proofs.YtcpplldfmmpaoaaGreatDoor
