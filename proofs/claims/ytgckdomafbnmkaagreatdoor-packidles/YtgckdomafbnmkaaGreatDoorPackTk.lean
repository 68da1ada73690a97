/-
  The contract of (*group).take.
-/
import Derived.Test.YtgckdomafbnmkaaGreatDoorScanLw
import Derived.Laws.EntriesVeiled
namespace Go.Proofs.YtgckdomafbnmkaaGreatDoor
open Go.RowKit Go.Extern.Stop Go.Stop Go.Extern Go.Sort Go.Shelf Go.Lib

set_option maxRecDepth 100000 in
set_option maxHeartbeats 2000000 in
theorem older_any (g f : Fl) (b : Nat) (w : World) (a : Nat → Addr) (h : EnvN w a) (hg : FlAt w b g) (hs : f.1.size ≤ 100000) :
    Calls Tryz.prog 64 #[flV f, .pointer (some ⟨b, 0, none⟩)] w fun e w' => e = .returned (.bool (olderB g f)) ∧ Below w.heap.size w w' := by
  have hal : Below w.heap.size w (w.alloc (.cells #[.string f.1, .string f.2.1, .int .i64 f.2.2.1, .int .i64 f.2.2.2.1, .int .i64 f.2.2.2.2.1, .int .i64 f.2.2.2.2.2] 43)) := (Below.refl _ _).alloc (Nat.le_refl _) _
  have hfn := FlAt.new w f
  have hig := isGone_any f (w.alloc (.cells #[.string f.1, .string f.2.1, .int .i64 f.2.2.1, .int .i64 f.2.2.2.1, .int .i64 f.2.2.2.2.1, .int .i64 f.2.2.2.2.2] 43)) a (h.below hal) hs
  have hg2 := hg.below hal
  unfold flV at hig ⊢
  unfold olderB
  generalize goneP f.1 = G at hig ⊢
  go_enter Tryz.func64, Tryz.ntmps64
  go_upto_region 1 with fail
  obtain ⟨fp, fq, fn, flo, fhi, fseq⟩ := f
  dsimp only at *
  generalize w.alloc (.cells #[.string fp, .string fq, .int .i64 fn, .int .i64 flo, .int .i64 fhi, .int .i64 fseq] 43) = WA at hal hfn hig hg2 ⊢
  obtain ⟨c0, c1, c2, c3, c4, c5, -⟩ := hfn.cells
  dsimp only at c0 c1 c2 c3 c4 c5
  go_wp2_with fail
  refine hig.mono ?_
  rintro e w1 ⟨rfl, hb1⟩
  clear hig c0 c1 c2 c3 c4 c5
  have k5 := (hfn.below hb1).cells.2.2.2.2.2.1
  have g5 := (hg2.below hb1).cells.2.2.2.2.2.1
  dsimp only at k5
  have hB : Below w.heap.size w w1 := hal.trans (hb1.mono hal.size)
  clear hfn hg2 hg hal hb1
  cases G
  · by_cases hlt : fseq < g.2.2.2.2.2
    · go_wp2
      go_ret
      exact ⟨by simp, hB⟩
    · go_wp2
      go_ret
      exact ⟨by simp, hB⟩
  · go_wp2
    go_ret
    exact ⟨by simp, hB⟩

theorem str_run {B : Nat} {W W9 : World} {v : Value} {ts : List ByteArray} (ho : W.ownsRow B 9 1 v ts.length (ts.map Value.string)) (hB : B ≤ W.heap.size) (p : ByteArray) (hW9 : W9 = W.alloc (.cells #[.string p] 9)) (hlen : ts.length ≤ 1000) :
    ∃ v' W2, (Builtin.append_ #[39, 39] 39 #[v, .slice (some ⟨W.heap.size, 0, none⟩) 1 1]).run Tryz.prog W9 = .ok v' W2 ∧ W2.ownsRow B 9 1 v' (ts ++ [p]).length ((ts ++ [p]).map Value.string) ∧ But (fun k => v.ownBlock = some k) W W2 ∧ (v'.ownBlock = v.ownBlock ∨ ∃ k, v'.ownBlock = some k ∧ W.heap.size ≤ k ∧ k < W2.heap.size) := by
  obtain ⟨i0, hi, hz, hs, hby⟩ := Tryz.strInfo
  have hal : Below W.heap.size W W9 := by rw [hW9]; exact (Below.refl _ _).alloc (Nat.le_refl _) _
  have hsrc : Src W9 (some ⟨W.heap.size, 0, none⟩) 1 1 [.string p] := by
    rw [hW9]
    exact src_new W [.string p] 9 1 1
  obtain ⟨v', W2, hr, h1, hg, hv⟩ := run_append_src (P := Tryz.prog) W9 B 39 39 9 i0 (.string ⟨#[]⟩) 1 16 Tryz.underlying39 hi hz hs hby rfl (by decide) v ts.length (ts.map Value.string) (own_but (P := fun _ => False) ho (But.of_below hal) (fun _ _ h => h)) (some ⟨W.heap.size, 0, none⟩) 1 1 [.string p] rfl hsrc (by intro u hu; rw [List.mem_singleton] at hu; subst hu; rfl) (by unfold maxLen; omega) (by omega) (Nat.le_trans hB hal.size)
  have h1' : W2.ownsRow B 9 1 v' (ts ++ [p]).length ((ts ++ [p]).map Value.string) := by
    rw [List.length_append, List.map_append]
    simpa using h1
  refine ⟨v', W2, hr, h1', (But.of_below hal).trans (But.grown hg) (fun _ h _ => h), ?_⟩
  rcases hv with hv | hv
  · exact Or.inl hv
  · exact Or.inr ⟨_, hv, hal.size, (own_blk h1' hv).2.1⟩

def IdleP (w : World) (a : Nat → Addr) (fs : List Fl) (e : Ending) (w' : World) : Prop :=
  ∃ v ev, e = .returned (.tuple #[v, ev]) ∧ ToldE w' a ev (listE fs) ∧ Below w.heap.size w w' ∧ ((listE fs).1 ≠ 0 → v = .slice none 0 0) ∧ ((listE fs).1 = 0 → TsAt w' v (idleL fs))

def idleN (fs : List Fl) (n : Nat) : List ByteArray := ((fs.take n).filter (idleB fs)).map (·.1)
theorem idleN_yes {fs : List Fl} {n : Nat} (h : n < fs.length) (e : idleB fs fs[n] = true) : idleN fs (n + 1) = idleN fs n ++ [fs[n].1] := by
  unfold idleN
  rw [List.take_succ_eq_append_getElem h, List.filter_append, List.map_append]
  simp [e]
theorem idleN_no {fs : List Fl} {n : Nat} (h : n < fs.length) (e : idleB fs fs[n] = false) : idleN fs (n + 1) = idleN fs n := by
  unfold idleN
  rw [List.take_succ_eq_append_getElem h, List.filter_append, List.map_append]
  simp [e]
theorem idleN_len (fs : List Fl) (n : Nat) : (idleN fs n).length ≤ fs.length := by
  unfold idleN
  rw [List.length_map]
  have h1 := List.length_filter_le (idleB fs) (fs.take n)
  have h2 := List.length_take_le n fs
  have h3 := List.length_take_le' n fs
  omega

set_option maxRecDepth 100000 in
set_option maxHeartbeats 8000000 in
theorem idle_any (v : Value) (fs : List Fl) (w : World) (a : Nat → Addr) (h : EnvL w a) (hx : FlsAt w v fs) (hl : fs.length ≤ 100) (hsz : Short fs) :
    Calls Tryz.prog 22 #[v] w fun e w' => IdleP w a fs e w' := by
  have eg : ∀ args w, (callFunc 64 args).run Tryz.prog w = .ok (.enter 64 args) w := enters_of Tryz.func64 (by kernel_rfl) rfl
  have hck := lcheck_any v fs w a h hx hl hsz
  have HEN : Hid (∀ W, Below w.heap.size w W → EnvN W a) := fun W hb => h.file.env.below hb
  have HX : Hid (∀ W, Below w.heap.size w W → FlsAt W v fs) := fun W hb => hx.below hb
  have HSZ : Hid (∀ f ∈ fs, f.1.size ≤ 100000) := fun f hf => by have := (hsz f hf).1; omega
  have HIG : Hid (∀ f ∈ fs, ∀ W, Below w.heap.size w W → Calls Tryz.prog 39 #[flV f] W fun e w' => e = .returned (.bool (goneP f.1)) ∧ Below W.heap.size W w') := fun f hf W hb => isGone_any f W a (HEN.out W hb) (HSZ.out f hf)
  have HCN : Hid (∀ g b W, Below w.heap.size w W → FlAt W b g → Calls Tryz.prog 65 #[v, .func (.func 64) #[] #[.pointer (some ⟨b, 0, none⟩)]] W fun e w' => e = .returned (.bool (fs.any (olderB g))) ∧ Below W.heap.size W w') := fun g b W hb hg => containsG_any 64 #[.pointer (some ⟨b, 0, none⟩)] (olderB g) v fs W (HX.out W hb) (by omega) eg (fun f hf X hX => older_any g f b X a (HEN.out X (hb.trans (hX.mono hb.size))) (hg.below hX) (HSZ.out f hf))
  obtain ⟨q, cap, rfl⟩ := hx.form
  obtain ⟨L, hL⟩ : ∃ L, fs.length = L := ⟨_, rfl⟩
  have HL : Hid (fs.length = L) := hL
  have hL1 : L ≤ 100 := by omega
  have HN0 : Hid (idleN fs L = idleL fs) := by
    show _ = _
    unfold idleN idleL
    rw [← hL, List.take_length]
  rw [hL] at hck HX HCN ⊢
  clear hx hl hL hsz h eg
  go_enter Tryz.func22, Tryz.ntmps22
  go_wp2_with fail
  refine hck.mono ?_
  rintro e w1 ⟨ev, rfl, ht, hb1⟩
  clear hck
  by_cases hE : (listE fs).1 = 0
  case neg =>
    have HP : Hid (IdleP w a fs (.returned (.tuple #[.slice none 0 0, ev])) w1) := ⟨_, _, rfl, ht, hb1, fun _ => rfl, fun e => absurd e hE⟩
    obtain ⟨tt, uu, rfl⟩ := ht.bad hE
    clear hE ht HN0
    go_wp2
    refine bodyPost_ret (v := .tuple #[.slice none 0 0, .iface tt uu]) (by simp [results, Tryz.results22, go_sem]) rfl ?_
    exact HP.out
  case pos =>
  have HE : Hid ((listE fs).1 = 0) := hE
  have HT : Hid (∀ W, ToldE W a .nilIface (listE fs)) := fun W => by
    cases hc : listE fs with
    | mk n o =>
      rw [hc] at ht hE
      obtain rfl : n = 0 := hE
      cases o with
      | none => rfl
      | some j => exact absurd rfl ht.1
  obtain rfl := ht.ok hE
  clear hE ht
  go_wp2_with fail
  go_loopw [5, 16] (fun u k wr => ∃ n : Nat, n ≤ L ∧ k = .int .i64 n ∧ wr.ownsRow w.heap.size 9 1 u (idleN fs n).length ((idleN fs n).map Value.string) ∧ Below w.heap.size w wr) (fun _ k _ => L - (intOf k).toNat)
  case atStart => exact ⟨0, by omega, rfl, World.ownsRow_nil _ _ _ _, hb1⟩
  case round =>
  clear hb1
  obtain ⟨n, hn, rfl, ho, hb⟩ := hrel
  have HO : Hid (wr.ownsRow w.heap.size 9 1 u5 (idleN fs n).length ((idleN fs n).map Value.string)) := ho
  clear ho
  by_cases hlt : n < L
  case neg =>
    obtain rfl : n = L := by omega
    have HTS : Hid (TsAt wr u5 (idleL fs)) := by
      have h' := tsAt_own HO.out
      rw [HN0.out] at h'
      exact h'
    have hii : ¬ (n : Int) < (n : Int) := by omega
    clear HO
    go_wp2
    refine bodyPost_ret (v := .tuple #[u5, .nilIface]) (by simp [results, Tryz.results22, go_sem]) rfl ?_
    exact ⟨_, _, rfl, HT.out _, hb, fun e => absurd HE.out e, fun _ => HTS.out⟩
  case pos =>
    have hltx : n < fs.length := by rw [HL.out]; exact hlt
    obtain ⟨b, o, hq, hc⟩ := (HX.out wr hb).cells (fun e => by rw [e] at hltx; simp at hltx)
    subst hq
    obtain ⟨c0, c1, c2, c3, c4, c5⟩ := hc n hltx
    have hi1 : (n : Int) < (L : Int) := by omega
    have hi0 : (0 : Int) ≤ (n : Int) := by omega
    have HIY : Hid (idleB fs fs[n] = true → idleN fs (n + 1) = idleN fs n ++ [fs[n].1]) := fun e => idleN_yes hltx e
    have HIN : Hid (idleB fs fs[n] = false → idleN fs (n + 1) = idleN fs n) := fun e => idleN_no hltx e
    have HIL : Hid ((idleN fs n).length ≤ 100) := by
      have h' := idleN_len fs n
      rw [HL.out] at h'
      show _ ≤ _
      omega
    have hig := HIG.out fs[n] (List.getElem_mem _)
    generalize fs[n] = g at c0 c1 c2 c3 c4 c5 HIY HIN hig
    have hal : Below wr.heap.size wr (wr.alloc (.cells #[.string g.1, .string g.2.1, .int .i64 g.2.2.1, .int .i64 g.2.2.2.1, .int .i64 g.2.2.2.2.1, .int .i64 g.2.2.2.2.2] 43)) := (Below.refl _ _).alloc (Nat.le_refl _) _
    have hgn := FlAt.new wr g
    have hB2 : Below w.heap.size w (wr.alloc (.cells #[.string g.1, .string g.2.1, .int .i64 g.2.2.1, .int .i64 g.2.2.2.1, .int .i64 g.2.2.2.2.1, .int .i64 g.2.2.2.2.2] 43)) := hb.trans (hal.mono hb.size)
    have HO2 : Hid ((wr.alloc (.cells #[.string g.1, .string g.2.1, .int .i64 g.2.2.1, .int .i64 g.2.2.2.1, .int .i64 g.2.2.2.2.1, .int .i64 g.2.2.2.2.2] 43)).ownsRow w.heap.size 9 1 u5 (idleN fs n).length ((idleN fs n).map Value.string)) := own_but (P := fun _ => False) HO.out (But.of_below hal) (fun _ _ h => h)
    clear hc hltx HO hal hb
    go_upto_region 8 with fail
    clear c0 c1 c2 c3 c4 c5
    generalize wr.alloc (.cells #[.string g.1, .string g.2.1, .int .i64 g.2.2.1, .int .i64 g.2.2.2.1, .int .i64 g.2.2.2.2.1, .int .i64 g.2.2.2.2.2] 43) = W2 at *
    generalize wr.heap.size = gb at *
    obtain ⟨d0, d1, d2, d3, d4, d5, -⟩ := hgn.cells
    have hig2 := hig W2 hB2
    unfold flV at hig2
    clear hig HIG
    go_upto_region 9 with fail
    go_wp2_with fail
    refine hig2.mono ?_
    rintro e w3 ⟨rfl, hb3⟩
    clear hig2 d0 d1 d2 d3 d4 d5
    have hB3 : Below w.heap.size w w3 := hB2.trans (hb3.mono hB2.size)
    have hg3 := hgn.below hb3
    have HO3 : Hid (w3.ownsRow w.heap.size 9 1 u5 (idleN fs n).length ((idleN fs n).map Value.string)) := own_but (P := fun _ => False) HO2.out (But.of_below hb3) (fun _ _ h => h)
    clear HO2 hb3 hB2 hgn
    cases hG : goneP g.1
    case false =>
      have HS : Hid (idleN fs (n + 1) = idleN fs n) := HIN.out (by unfold idleB; rw [hG]; rfl)
      clear hG HIY HIN hg3 HCN
      go_wp2
      go_roundw
      case rel => exact ⟨n + 1, by omega, by go_num, by rw [HS.out]; exact HO3.out, hB3⟩
      case measure => simp [intOf]; omega
    case true =>
      have hcn := HCN.out g gb w3 hB3 hg3
      have HB1 : Hid (fs.any (olderB g) = true → idleN fs (n + 1) = idleN fs n) := fun e => HIN.out (by unfold idleB; rw [hG, e]; rfl)
      have HB2 : Hid (fs.any (olderB g) = false → idleN fs (n + 1) = idleN fs n ++ [g.1]) := fun e => HIY.out (by unfold idleB; rw [hG, e]; rfl)
      clear hG HIY HIN HCN
      generalize fs.any (olderB g) = OB at hcn HB1 HB2
      go_wp2_with fail
      refine hcn.mono ?_
      rintro e w4 ⟨rfl, hb4⟩
      clear hcn
      have hB4 : Below w.heap.size w w4 := hB3.trans (hb4.mono hB3.size)
      have hg4 := hg3.below hb4
      have HO4 : Hid (w4.ownsRow w.heap.size 9 1 u5 (idleN fs n).length ((idleN fs n).map Value.string)) := own_but (P := fun _ => False) HO3.out (But.of_below hb4) (fun _ _ h => h)
      clear HO3 hb4 hB3 hg3
      cases OB
      case true =>
        have HS := HB1.out rfl
        have HS2 : Hid (idleN fs (n + 1) = idleN fs n) := HS
        clear HB1 HB2 HS hg4
        go_wp2
        go_roundw
        case rel => exact ⟨n + 1, by omega, by go_num, by rw [HS2.out]; exact HO4.out, hB4⟩
        case measure => simp [intOf]; omega
      case false =>
        have HS2 : Hid (idleN fs (n + 1) = idleN fs n ++ [g.1]) := HB2.out rfl
        have z0 := hg4.cells.1
        have hal5 : Below w4.heap.size w4 (w4.alloc (.cells #[.string g.1] 9)) := (Below.refl _ _).alloc (Nat.le_refl _) _
        obtain ⟨v', W6, hr, ho6, hbut, -⟩ := str_run HO4.out hB4.size g.1 rfl (by have := HIL.out; omega)
        have hB6 : Below w.heap.size w W6 := hB4.trans (hbut.below hB4.size (fun k hk => (own_blk HO4.out hk).1))
        have HR : Hid (W6.ownsRow w.heap.size 9 1 v' (idleN fs (n + 1)).length ((idleN fs (n + 1)).map Value.string)) := by
          show World.ownsRow _ _ _ _ _ _ _
          rw [HS2.out]
          exact ho6
        clear HB1 HB2 hg4 HS2 ho6 hbut hal5 HO4
        go_wp2_with (at_builtin; refine wpList_append_run (by rfl) _ _ _ (by rfl) _ _ _ (by rfl) (by rfl) hr ?_)
        go_roundw
        case rel => exact ⟨n + 1, by omega, by go_num, HR.out, hB6⟩
        case measure => simp [intOf]; omega
end Go.Proofs.YtgckdomafbnmkaaGreatDoor
namespace Go.Proofs.YtgckdomafbnmkaaGreatDoor
open Go.RowKit Go.Extern.Stop Go.Stop Go.Extern Go.Sort Go.Shelf Go.Lib

theorem step_append_ran {P : Program} {ops : Array Oper} {o : Oper} {a : Act} {w w' : World} {K : Act → World → Prop} {Q : Exit → Act → World → Prop} {E : Prop}
    (hg : o.guard = none) (s x : Operand) (t : TypeId) (hop : o.op = Op.call { callee := Callee.builtin Builtin.append, args := #[s, x], argTypes := #[t, t] }) (v u v' : Value) (hs : a.eval s = v) (hx : a.eval x = u)
    (hrun : (Builtin.append_ #[t, t] o.type #[v, u]).run P w = .ok v' w') (hK : K (a.put o.dst v') w') : if Region.wanted o (yielded ops a.tmps) = true then Oper.wp P o a w K Q else E := by
  have hw : Region.wanted o (yielded ops a.tmps) = true := by simp [Region.wanted, hg]
  rw [if_pos hw]
  unfold Oper.wp
  simp [execOp, hop, resolve, invoke, builtin, hs, hx, hrun, Result.andThen]
  exact hK

end Go.Proofs.YtgckdomafbnmkaaGreatDoor
namespace Go.Proofs.YtgckdomafbnmkaaGreatDoor
open Go.RowKit Go.Extern.Stop Go.Stop Go.Extern Go.Sort Go.Shelf Go.Lib

abbrev Gp := ByteArray × Int × List ByteArray
def fitG (f : Fl) (g : Gp) : Bool := decide (g.1 = f.2.1) && decide (g.2.1 + f.2.2.1 ≤ 40)
def takeG (f : Fl) (g : Gp) : Gp := (g.1, g.2.1 + f.2.2.1, g.2.2 ++ [f.1])
def putG (f : Fl) : List Gp → List Gp
  | [] => [takeG f (f.2.1, 0, [])]
  | g :: r => if fitG f g = true then takeG f g :: r else g :: putG f r

theorem putG_none (f : Fl) : ∀ {gs : List Gp}, gs.any (fitG f) = false → putG f gs = gs ++ [takeG f (f.2.1, 0, [])]
  | [], _ => rfl
  | g :: r, h => by
    rw [List.any_cons, Bool.or_eq_false_iff] at h
    unfold putG
    rw [if_neg (by rw [h.1]; simp), putG_none f h.2]
    rfl
theorem putG_at (f : Fl) : ∀ {gs : List Gp} {n : Nat} (h : n < gs.length), fitG f gs[n] = true → (∀ j (hj : j < gs.length), j < n → fitG f gs[j] = false) → putG f gs = gs.set n (takeG f gs[n])
  | [], n, h, _, _ => by simp at h
  | g :: r, 0, _, h1, _ => by
    unfold putG
    rw [if_pos (show fitG f g = true from h1)]
    rfl
  | g :: r, n + 1, h, h1, h2 => by
    have h0 := h2 0 (by simp) (by omega)
    unfold putG
    rw [if_neg (by rw [show fitG f g = false from h0]; simp), putG_at f (n := n) (by simpa using h) h1 (fun j hj hjn => h2 (j + 1) (by simpa using hj) (by omega))]
    rfl

def GrC (W : World) (gb : Nat) (g : Gp) (vp : Value) : Prop := W.heap[gb]? = some (.cells #[.string g.1, .int .i64 g.2.1, vp] 90 (0, 0))
theorem GrC.lt {W : World} {gb : Nat} {g : Gp} {vp : Value} (h : GrC W gb g vp) : gb < W.heap.size := lt_of_block h
theorem GrC.cells {W : World} {gb : Nat} {g : Gp} {vp : Value} (h : GrC W gb g vp) : W.cell? ⟨gb, 0, none⟩ = some (.string g.1) ∧ W.cell? ⟨gb, 1, none⟩ = some (.int .i64 g.2.1) ∧ W.cell? ⟨gb, 2, none⟩ = some vp ∧ ∀ o, W.frozen? ⟨gb, o, none⟩ = false := by
  refine ⟨?_, ?_, ?_, fun o => frozen_of_row _ _ _ _ _ h⟩ <;> rw [cell_of_row _ _ _ _ _ _ h] <;> rfl
theorem GrC.but {P : Nat → Prop} {W W' : World} {gb : Nat} {g : Gp} {vp : Value} (h : GrC W gb g vp) (hb : But P W W') (hp : ¬ P gb) : GrC W' gb g vp := (hb.block gb h.lt hp).trans h
theorem GrC.below {W W' : World} {gb : Nat} {g : Gp} {vp : Value} (h : GrC W gb g vp) (hb : Below W.heap.size W W') : GrC W' gb g vp := (hb.block gb h.lt).trans h
theorem GrC.set1 {W : World} {gb : Nat} {g : Gp} {vp : Value} (h : GrC W gb g vp) (n : Int) : GrC (W.setCell ⟨gb, 1, none⟩ (.int .i64 n)) gb (g.1, n, g.2.2) vp := by
  unfold GrC at *
  rw [heap_setCell_same _ _ _ _ _ _ h]
  rfl
theorem GrC.set2 {W : World} {gb : Nat} {g : Gp} {vp : Value} (h : GrC W gb g vp) (v : Value) (ps : List ByteArray) : GrC (W.setCell ⟨gb, 2, none⟩ v) gb (g.1, g.2.1, ps) v := by
  unfold GrC at *
  rw [heap_setCell_same _ _ _ _ _ _ h]
  rfl

set_option maxRecDepth 100000 in
set_option maxHeartbeats 4000000 in
theorem gfits_any (f : Fl) (g : Gp) (gb : Nat) (vp : Value) (w : World) (hg : GrC w gb g vp) (h1 : 0 ≤ g.2.1 ∧ g.2.1 ≤ 1000000) (h2 : 0 ≤ f.2.2.1 ∧ f.2.2.1 ≤ 1000000) :
    Calls Tryz.prog 93 #[.pointer (some ⟨gb, 0, none⟩), flV f] w fun e w' => e = .returned (.bool (fitG f g)) ∧ Below w.heap.size w w' := by
  have hal : Below w.heap.size w (w.alloc (.cells #[.string f.1, .string f.2.1, .int .i64 f.2.2.1, .int .i64 f.2.2.2.1, .int .i64 f.2.2.2.2.1, .int .i64 f.2.2.2.2.2] 43)) := (Below.refl _ _).alloc (Nat.le_refl _) _
  have hfn := FlAt.new w f
  have hg2 := hg.below hal
  have hwr : IntKind.i64.wrap (g.2.1 + f.2.2.1) = g.2.1 + f.2.2.1 := IntWalk.i64_in _ (by omega)
  have HR : Hid (fitG f g = (decide (g.1 = f.2.1) && decide (g.2.1 + f.2.2.1 ≤ 40))) := rfl
  generalize fitG f g = R at HR ⊢
  unfold flV
  go_enter Tryz.func93, Tryz.ntmps93
  go_upto_region 1 with fail
  obtain ⟨fp, fq, fn, flo, fhi, fseq⟩ := f
  obtain ⟨gp, gn, gl⟩ := g
  dsimp only at *
  generalize w.alloc (.cells #[.string fp, .string fq, .int .i64 fn, .int .i64 flo, .int .i64 fhi, .int .i64 fseq] 43) = WA at hal hfn hg2 ⊢
  obtain ⟨c0, c1, c2, c3, c4, c5, -⟩ := hfn.cells
  dsimp only at c0 c1 c2 c3 c4 c5
  obtain ⟨d0, d1, d2, -⟩ := hg2.cells
  dsimp only at d0 d1
  clear hfn hg2 hg
  by_cases hp : gp = fq
  · subst hp
    have e1 : (gp.toList == gp.toList) = true := by simp
    by_cases hs : gn + fn ≤ 40
    · have e2 : decide (gn + fn ≤ 40) = true := decide_eq_true hs
      have HR2 : Hid (R = true) := by show _ = _; rw [HR.out, e2]; simp
      clear HR hs
      go_quiet (fail)
      go_wp2
      go_ret
      exact ⟨by rw [HR2.out]; rfl, below_drewN hal _⟩
    · have e2 : decide (gn + fn ≤ 40) = false := decide_eq_false hs
      have HR2 : Hid (R = false) := by show _ = _; rw [HR.out, e2]; simp
      clear HR hs
      go_quiet (fail)
      go_wp2
      go_ret
      exact ⟨by rw [HR2.out]; rfl, below_drewN hal _⟩
  · have e1 : (gp.toList == fq.toList) = false := neBB (fun e => hp (part_ext e))
    have HR2 : Hid (R = false) := by show _ = _; rw [HR.out, decide_eq_false hp]; rfl
    clear HR hp
    go_quiet (fail)
    go_wp2
    go_ret
    exact ⟨by rw [HR2.out]; rfl, below_drewN hal _⟩
end Go.Proofs.YtgckdomafbnmkaaGreatDoor
namespace Go.Proofs.YtgckdomafbnmkaaGreatDoor
open Go.RowKit Go.Extern.Stop Go.Stop Go.Extern Go.Sort Go.Shelf Go.Lib


def TakeP (B : Nat) (w : World) (gb : Nat) (vp : Value) (g : Gp) (w' : World) : Prop :=
  ∃ v', GrC w' gb g v' ∧ w'.ownsRow B 9 1 v' g.2.2.length (g.2.2.map Value.string) ∧ But (fun k => k = gb ∨ vp.ownBlock = some k) w w' ∧ (v'.ownBlock = vp.ownBlock ∨ ∃ k, v'.ownBlock = some k ∧ w.heap.size ≤ k ∧ k < w'.heap.size)

set_option maxRecDepth 100000 in
set_option maxHeartbeats 4000000 in
theorem gtake_any (B : Nat) (f : Fl) (g : Gp) (gb : Nat) (vp : Value) (w : World) (hg : GrC w gb g vp) (ho : w.ownsRow B 9 1 vp g.2.2.length (g.2.2.map Value.string)) (hB : B ≤ w.heap.size) (h1 : 0 ≤ g.2.1 ∧ g.2.1 ≤ 1000000) (h2 : 0 ≤ f.2.2.1 ∧ f.2.2.1 ≤ 1000000) (hlen : g.2.2.length ≤ 1000) :
    Calls Tryz.prog 94 #[.pointer (some ⟨gb, 0, none⟩), flV f] w fun e w' => e = .returned (.tuple #[]) ∧ TakeP B w gb vp (takeG f g) w' := by
  have hal : Below w.heap.size w (w.alloc (.cells #[.string f.1, .string f.2.1, .int .i64 f.2.2.1, .int .i64 f.2.2.2.1, .int .i64 f.2.2.2.2.1, .int .i64 f.2.2.2.2.2] 43)) := (Below.refl _ _).alloc (Nat.le_refl _) _
  have hfn := FlAt.new w f
  have hg2 := hg.below hal
  have ho2 := own_but (P := fun _ => False) ho (But.of_below hal) (fun _ _ h => h)
  have hwr : IntKind.i64.wrap (g.2.1 + f.2.2.1) = g.2.1 + f.2.2.1 := IntWalk.i64_in _ (by omega)
  have hlt := hg.lt
  have HVB : Hid (∀ k, vp.ownBlock = some k → k < w.heap.size) := fun k hk => (own_blk ho hk).2.1
  obtain ⟨qp, cp, hvp⟩ := own_form ho
  unfold flV takeG
  go_enter Tryz.func94, Tryz.ntmps94
  go_upto_region 1 with fail
  obtain ⟨fp, fq, fn, flo, fhi, fseq⟩ := f
  obtain ⟨gp, gn, gl⟩ := g
  dsimp only at *
  generalize w.alloc (.cells #[.string fp, .string fq, .int .i64 fn, .int .i64 flo, .int .i64 fhi, .int .i64 fseq] 43) = WA at hal hfn hg2 ho2 ⊢
  obtain ⟨c0, c1, c2, c3, c4, c5, -⟩ := hfn.cells
  dsimp only at c0 c1 c2 c3 c4 c5
  obtain ⟨d0, d1, d2, dz⟩ := hg2.cells
  dsimp only at d0 d1
  clear hg ho
  have hne : ∀ k, vp.ownBlock = some k → k ≠ gb := fun k hk e => by
    obtain ⟨_, _, cur, hc⟩ := own_blk ho2 hk
    subst e
    have := hg2.symm.trans hc
    simp only [Option.some.injEq, Obj.cells.injEq] at this
    exact absurd this.2.1 (by decide)
  have hbu : But (fun k => k = gb) WA ((WA.setCell ⟨gb, 1, none⟩ (.int .i64 (gn + fn))).drew) := by
    have h' : But (fun k => k = gb) WA (WA.setCell ⟨gb, 1, none⟩ (.int .i64 (gn + fn))) := (But.refl (fun k => k = gb) WA).setCell (Or.inl (Eq.refl gb)) _
    exact h'.trans (But.of_below (Below.drew (Below.refl _ _))) (fun _ h _ => h)
  have hg3 : GrC ((WA.setCell ⟨gb, 1, none⟩ (.int .i64 (gn + fn))).drew) gb (gp, gn + fn, gl) vp := (hg2.set1 (gn + fn)).below (Below.drew (Below.refl _ _))
  have ho3 := own_but ho2 hbu hne
  have hf3 : FlAt ((WA.setCell ⟨gb, 1, none⟩ (.int .i64 (gn + fn))).drew) w.heap.size (fp, fq, fn, flo, fhi, fseq) := (hbu.block w.heap.size (lt_of_block hfn) (by omega)).trans hfn
  have HBU : Hid (But (fun k => k = gb ∨ vp.ownBlock = some k) w ((WA.setCell ⟨gb, 1, none⟩ (.int .i64 (gn + fn))).drew)) := (But.of_below hal).trans (hbu.mono fun _ h => Or.inl h) (fun _ h _ => h)
  clear hbu hg2 ho2 hfn
  go_region
  go_upto_region 2 with fail
  clear c0 c1 c2 c3 c4 c5 d0 d1 d2 dz hal
  generalize (WA.setCell ⟨gb, 1, none⟩ (.int .i64 (gn + fn))).drew = W1 at *
  have hB1 : B ≤ W1.heap.size := Nat.le_trans hB HBU.out.size
  have hbd : Below W1.heap.size W1 W1.drew := (Below.refl _ _).drew
  have hba : Below W1.heap.size W1 (W1.alloc (.cells #[.string fp] 9)) := (Below.refl _ _).alloc (Nat.le_refl _) _
  have hod := own_but (P := fun _ => False) ho3 (But.of_below hbd) (fun _ _ h => h)
  obtain ⟨v', W2, hr, ho4, hb4, hv4⟩ := str_run hod hB1 fp rfl hlen
  have hg4 : GrC W2 gb (gp, gn + fn, gl) vp := (hg3.below hbd).but hb4 (fun e => hne gb e rfl)
  have hlt4 : gb < W2.heap.size := hg4.lt
  have hne' : ∀ k, v'.ownBlock = some k → k ≠ gb := fun k hk e => by
    rcases hv4 with hv | ⟨j, hv, hj, _⟩
    · exact hne k (hv.symm.trans hk) e
    · rw [hv] at hk
      injection hk with hk
      have h5 : W1.drew.heap.size = W1.heap.size := rfl
      have := hg3.lt
      omega
  obtain ⟨q', n', c', hv'⟩ : ∃ q n c, v' = .slice q n c := by
    obtain ⟨q, c, h⟩ := own_form ho4
    exact ⟨q, _, c, h⟩
  have hbs : But (fun k => k = gb) W2 (W2.setCell ⟨gb, 2, none⟩ v') := (But.refl (fun k => k = gb) W2).setCell (Or.inl (Eq.refl gb)) _
  have HEND : Hid (TakeP B w gb vp (gp, gn + fn, gl ++ [fp]) (W2.setCell ⟨gb, 2, none⟩ v')) := by
    refine ⟨v', hg4.set2 v' (gl ++ [fp]), own_but ho4 hbs hne', (HBU.out.trans ((But.of_below hbd).trans (hb4.mono fun _ h => Or.inr h) (fun _ h _ => h)) (fun _ h _ => h)).trans (hbs.mono fun _ h => Or.inl h) (fun _ h _ => h), ?_⟩
    rcases hv4 with hv | ⟨j, hv, hj, hj2⟩
    · exact Or.inl hv
    · exact Or.inr ⟨j, hv, Nat.le_trans HBU.out.size hj, Nat.lt_of_lt_of_le hj2 hbs.size⟩
  have hr2 : (Builtin.append_ #[39, 39] 39 #[vp, .slice (some ⟨W1.heap.size, 0, none⟩) 1 1]).run Tryz.prog (W1.alloc (.cells #[.string fp] 9)).drew = .ok v' W2 := hr
  have k0 := hf3.cells.1
  have k1 := below_keep hbd k0
  have m0 := hg3.cells.2.2.1
  have m1 := below_keep hbd m0
  have m2 := below_keep hba m0
  have y0 := hg4.cells.2.2.1
  have y1 := hg4.cells.2.2.2
  dsimp only at k0 k1
  subst hv'
  clear hr hod hbd hba hf3 hg3 hg4 ho3 ho4 hb4 hv4 hbs hne hne' HBU hvp
  go_region_law (refine step_append_ran (by rfl) _ _ _ (by rfl) _ _ _ (by rfl) (by rfl) hr2 ?_)
  all_goals go_wp2
  all_goals go_end0
  all_goals exact ⟨rfl, HEND.out⟩
end Go.Proofs.YtgckdomafbnmkaaGreatDoor
