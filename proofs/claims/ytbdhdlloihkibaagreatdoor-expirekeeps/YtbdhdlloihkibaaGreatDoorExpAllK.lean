/-
  The program's own store, only read.
-/
import Derived.Test.YtbdhdlloihkibaaGreatDoorStoCopy
import Derived.Test.YtbdhdlloihkibaaGreatDoorExpKFact
namespace Go.Proofs.YtbdhdlloihkibaaGreatDoor
open Go.RowKit Go.Extern.Stop Go.Stop Go.Extern Go.Maps Go.Sort Go.Shelf Go.Lib

abbrev objV (t : ByteArray) (d : Int) : Value := .agg #[.string t, .int .i64 d]
theorem eqObj : EqlAt Tryz.prog 101 (fun x : ByteArray × Int => objV x.1 x.2) (fun x y => decide (x = y)) := by
  have u3 := Tryz.underlying3
  have u9 := Tryz.underlying9
  have a3 := Tryz.isAgg3
  have z3 := Tryz.sizeOf3
  have a9 := Tryz.isAgg9
  have z9 := Tryz.sizeOf9
  have hS : Tryz.prog.underlying 101 = some (.struct (Tryz.prog.fieldsOf 101)) := by kernel_rfl
  have hp : Tryz.prog.stoodInHeld 101 = false := by kernel_rfl
  refine ⟨fun x y w => ?_, GuardAt.agg _ (by kernel_rfl)⟩
  obtain ⟨t, d⟩ := x
  obtain ⟨t', d'⟩ := y
  dsimp only
  rw [run_eql_struct, show (10000 : Nat) = 9999 + 1 from rfl, run_equalIn_agg w 9999 101 _ _ hS hp]
  simp only [Program.fieldsOf, Tryz.underlying101]
  by_cases h1 : t = t'
  · subst h1
    by_cases h2 : d = d'
    · subst h2
      simp only [decide_true]
      go_simp
    · rw [decide_eq_false (by simp [h2])]
      have hd : (d == d') = false := by simpa using h2
      go_simp
  · rw [decide_eq_false (by simp [h1])]
    have hd := nm_ne h1
    go_simp

set_option maxRecDepth 100000 in
set_option maxHeartbeats 1000000 in
theorem sameObject_any (k k' : Nat) (t t' : ByteArray) (d d' : Int) (w : World) (h1 : w.heap[k]? = some (.cells #[.string t, .int .i64 d] 101 (0, 0))) (h2 : w.heap[k']? = some (.cells #[.string t', .int .i64 d'] 101 (0, 0))) :
    Calls Tryz.prog 74 #[.pointer (some ⟨k, 0, none⟩), .pointer (some ⟨k', 0, none⟩)] w fun e w' => e = .returned (.bool (decide ((t, d) = (t', d')))) ∧ Below w.heap.size w w' := by
  have c0 : w.cell? ⟨k, 0, none⟩ = some (.string t) := by rw [cell_of_row _ _ _ _ _ _ h1]; rfl
  have c1 : w.cell? ⟨k, 1, none⟩ = some (.int .i64 d) := by rw [cell_of_row _ _ _ _ _ _ h1]; rfl
  have e0 : w.cell? ⟨k', 0, none⟩ = some (.string t') := by rw [cell_of_row _ _ _ _ _ _ h2]; rfl
  have e1 : w.cell? ⟨k', 1, none⟩ = some (.int .i64 d') := by rw [cell_of_row _ _ _ _ _ _ h2]; rfl
  have hq : ∀ W, (binOp .eql 101 (objV t d) (objV t' d')).run Tryz.prog W = .ok (.bool (decide ((t, d) = (t', d')))) W := fun W => eqObj.1 (t, d) (t', d') W
  generalize decide ((t, d) = (t', d')) = r at hq ⊢
  clear h1 h2
  go_enter Tryz.func74, Tryz.ntmps74
  go_wp2
  go_quiet (fail)
  go_wp2
  go_ret
  exact ⟨rfl, below_drewN (Below.refl _ _) nq⟩

def goodO (m : List Ob) (o : Ob) : Bool := decide (getO m o.1 = some o)
theorem same_lists {l m : List Ob} (hl : RiseO l) (hm : RiseO m) (hlen : l.length = m.length) (h : ∀ o ∈ l, goodO m o = true) : l = m := by
  have hsub : ∀ o ∈ l, o ∈ m := fun o ho => (getO_some (of_decide_eq_true (h o ho))).1
  refine rise_same hl hm fun o => ⟨hsub o, fun ho => ?_⟩
  by_cases hn : o ∈ l
  · exact hn
  · have h1 : (o :: l).Nodup := List.nodup_cons.2 ⟨hn, rise_nodup hl⟩
    have h2 := h1.length_le_of_subset (l₂ := m) (fun x hx => by
      rcases List.mem_cons.1 hx with rfl | hx
      · exact ho
      · exact hsub x hx)
    simp at h2
    omega
theorem good_self {l : List Ob} (hl : RiseO l) {o : Ob} (ho : o ∈ l) : goodO l o = true := decide_eq_true (getO_mem hl ho)
theorem MapAt.look2 {w : World} {mo : Option Nat} {q : ByteArray → Nat} {l : List Ob} (h : MapAt w mo q l) {n : ByteArray} (hn : n.size ≤ maxLen) :
    (Instr.lookup 64 (.map mo) (.string n) true).run Tryz.prog w = .ok (.tuple #[lookP q l n, .bool (getO l n).isSome]) w := by
  rcases h with ⟨rfl, rfl⟩ | ⟨mb, rfl, h⟩
  · exact Maps.look_nil true Tryz.keyedS Tryz.underlying64 (Tryz.zeroObj w) (keyOf_name hn)
  · obtain ⟨v, ps, hrun, hv⟩ := World.ownsMap.look_ok h Tryz.keyedS Tryz.underlying64 (Tryz.zeroObj w) ptrR_nil (keyOf_name hn)
    rw [hrun, mapQ_has]
    rw [mapQ_at] at hv
    unfold lookP
    by_cases hg : (getO l n).isSome = true
    · rw [if_pos hg] at hv ⊢
      rcases ptrR_inv hv with ⟨k, rfl, hz⟩ | ⟨rfl, hz⟩
      · have := ptrD_inj (Prod.mk.inj hz).1
        have : q n = k := by omega
        rw [this]
      · have := ptrD_inj (Prod.mk.inj hz).1
        omega
    · rw [if_neg hg] at hv ⊢
      rcases ptrR_inv hv with ⟨k, rfl, hz⟩ | ⟨rfl, hz⟩
      · have := ptrD_inj (Prod.mk.inj hz).1
        omega
      · rfl

set_option maxRecDepth 100000 in
set_option maxHeartbeats 2000000 in
theorem equalFunc_any {w : World} {mo mo' : Option Nat} {q q' : ByteArray → Nat} {l l' : List Ob} (h1 : MapAt w mo q l) (h2 : MapAt w mo' q' l') (o1 : ObjsAt w q l) (o2 : ObjsAt w q' l') (r1 : RiseO l) (r2 : RiseO l') :
    Calls Tryz.prog 73 #[.map mo, .map mo', .func (.func 74) #[] #[]] w fun e w' => e = .returned (.bool (decide (l = l'))) ∧ Below w.heap.size w w' := by
  have l1 := fun ty => h1.len (w := w) ty
  have l2 := fun ty => h2.len (w := w) ty
  by_cases hlen : l.length = l'.length
  · rcases h1 with ⟨rfl, rfl⟩ | ⟨b, rfl, hown⟩
    · have hl' : l' = [] := by
        cases l' with
        | nil => rfl
        | cons a r => simp at hlen
      subst hl'
      rw [decide_eq_true (by rfl)]
      have hrg := run_range_nilMap (P := Tryz.prog) w 64 9 99 Tryz.underlying64
      have hnx : ∀ ty, (Instr.next (.pointer (some ⟨w.heap.size, 0, none⟩)) false ty).run Tryz.prog (w.alloc (.mapIter none 0 #[] 0)) = _ := fun ty => run_next_nilMap _ ty 0 0 #[]
      have HB : Hid (Below w.heap.size w (w.alloc (.mapIter none 0 #[] 0))) := (Below.refl _ _).alloc (Nat.le_refl _) _
      simp only [List.length_nil] at l1 l2
      clear h2 o1 o2 r1 r2 hlen
      go_enter Tryz.func73, Tryz.ntmps73
      go_wp2
      refine wp_loop_rounds 1 ?_
      rw [rounds_succ]
      go_wp2
      go_ret
      exact ⟨rfl, HB.out⟩
    · have HLEN : Hid (l.length = l'.length) := hlen
      have H1 : Hid (PtrMap w b q l) := hown
      have H2 : Hid (MapAt w mo' q' l') := h2
      have HO1 : Hid (ObjsAt w q l) := o1
      have HO2 : Hid (ObjsAt w q' l') := o2
      have HR1 : Hid (RiseO l) := r1
      have HR2 : Hid (RiseO l') := r2
      generalize hG : decide (l = l') = G
      have HG : Hid (decide (l = l') = G) := hG
      rw [← hlen] at l2
      generalize hL : l.length = L at l1 l2
      clear h2 o1 o2 r1 r2 hlen hG hL
      go_enter Tryz.func73, Tryz.ntmps73
      go_wp2_with (at_range; refine wpList_range_own _ rfl _ 64 rfl 9 99 Tryz.keyedS Tryz.underlying64 ptrR b l.length _ rfl hown ?_; intro w0 hrg0 hg0 hs0)
      have hB0 : Below w.heap.size w w0 := (Below.refl _ w).grown hg0 (Nat.le_refl _) (fun k e => by cases e)
      have hN := mapQ_size q l
      go_frame
      go_loopw [7, 8, 9, 10] (fun _ _ _ _ wr => ∃ (left : Lit → Bool) (cnt : Nat) (ps : List (OneOf l)), wr.ranges Tryz.prog 9 ptrR b w.heap.size l.length (mapQ q l) left cnt ∧ Came l left ps ∧ (∀ p ∈ ps, goodO l' p.1 = true) ∧ Below w.heap.size w wr)
        (fun _ _ _ _ wr => wr.rangeLeft b w.heap.size)
      case atStart => exact ⟨_, _, [], hrg0, Came.start q HR1.out, fun _ h => (nomatch h), hB0⟩
      case round =>
        obtain ⟨left, cnt, ps, hrg, hC, hgd, hB⟩ := hrel
        clear hrg0 hg0 hs0 hB0 hown l1 l2
        go_wp2_with (at_next; refine wpList_next_ranges _ rfl _ rfl 9 Tryz.keyedS ptrR encStr (fun c : Option Addr => Value.pointer c) (fun key kl hk => by obtain ⟨x, hx, _⟩ := Maps.keyOf_str Tryz.underlying9 hk; exact ⟨x, hx⟩) (fun v y hv => by rcases ptrR_inv hv with ⟨k, rfl, _⟩ | ⟨rfl, _⟩ <;> exact ⟨_, rfl⟩) b w.heap.size l.length _ _ _ rfl hrg ?_ ?_)
        · intro hc0 hl0
          have HEQ : Hid (G = true) := by
            show G = true
            rw [← HG.out]
            refine decide_eq_true (same_lists HR1.out HR2.out HLEN.out fun o ho => ?_)
            have := (hC.done HR1.out hl0).mem_iff.2 ho
            obtain ⟨p, hp, rfl⟩ := List.mem_map.1 this
            exact hgd p hp
          go_wp2
          go_ret
          rw [HEQ.out]
          exact ⟨rfl, hB⟩
        · intro x c kl yd yp w2 cnt2 hkey hlk hv hat hrg2 hlt hg2 hs2 hen
          obtain ⟨x', ex, rfl, hxl⟩ := Maps.keyOf_str Tryz.underlying9 hkey
          obtain rfl : x = x' := encStr_inj ex
          obtain ⟨o, ex2, exs, rfl⟩ := came_one hv hat
          rw [exs] at hen
          rw [exs]
          have ekl : Lit.string x = keyL o.1.1 := by rw [ex2]; rfl
          rw [ekl] at hlk hrg2
          have hC2 := hC.step HR1.out o hlk
          have hB2 : Below w.heap.size w w2 := hB.grown hg2 hB.size (fun k e => by cases e; exact Nat.le_refl _)
          have hsz : o.1.1.size ≤ maxLen := by rw [← size_list, ← ex2]; exact hxl
          have hBk : ∀ k, k < w.heap.size → w2.heap[k]? = w.heap[k]? := fun k hk => hB2.block k hk
          have hlook := (H2.out.keep (W' := w2) fun mb e => hBk mb (by
            rcases H2.out with ⟨e', _⟩ | ⟨mb', e', hm⟩
            · rw [e'] at e; cases e
            · rw [e'] at e; cases e; exact hm.lt)).look2 hsz
          have ho1 : w2.heap[q o.1.1]? = some (.cells #[.string o.1.2.1, .int .i64 o.1.2.2] 101 (0, 0)) := (hBk _ (HO1.out.lt o.2)).trans (HO1.out o.1 o.2)
          cases hg : getO l' o.1.1 with
          | none =>
            have HEQ : Hid (G = false) := by
              show G = false
              rw [← HG.out]
              refine decide_eq_false fun e => ?_
              have hm : o.1 ∈ l' := by rw [← e]; exact o.2
              have := of_decide_eq_true (good_self HR2.out hm)
              rw [hg] at this
              cases this
            rw [hg, lookP_none hg] at hlook
            clear hs2 ex ex2 exs ekl hkey hv hat hC hC2 hlk hrg hrg2 hg hBk ho1 hg2 hsz
            generalize o.1.1 = on at hen hlook ⊢
            generalize q on = kq at hen ⊢
            go_wp2
            go_ret
            rw [HEQ.out]
            exact ⟨rfl, hB2⟩
          | some p =>
            obtain ⟨hp, hpn⟩ := getO_some hg
            have ho2 : w2.heap[q' o.1.1]? = some (.cells #[.string p.2.1, .int .i64 p.2.2] 101 (0, 0)) := by
              rw [← hpn]
              exact (hBk _ (HO2.out.lt hp)).trans (HO2.out p hp)
            have hso := sameObject_any _ _ _ _ _ _ w2 ho1 ho2
            rw [hg, lookP_some (by rw [hg]; rfl)] at hlook
            by_cases hop : o.1 = p
            · have hg1 : goodO l' o.1 = true := by unfold goodO; rw [hg, hop]; exact decide_eq_true rfl
              have hdd : decide ((o.1.2.1, o.1.2.2) = (p.2.1, p.2.2)) = true := decide_eq_true (by rw [hop])
              rw [hdd] at hso
              have HREL : Hid (∀ w3, Below w2.heap.size w2 w3 → (∃ (left : Lit → Bool) (cnt : Nat) (ps : List (OneOf l)), w3.ranges Tryz.prog 9 ptrR b w.heap.size l.length (mapQ q l) left cnt ∧ Came l left ps ∧ (∀ p ∈ ps, goodO l' p.1 = true) ∧ Below w.heap.size w w3) ∧ w3.rangeLeft b w.heap.size < wr.rangeLeft b w.heap.size) := fun w3 hb3 => by
                obtain ⟨es, clock, since, seen, c0, hb', F, hs, hD, hr, rest⟩ := hrg2
                have hrg3 : w3.ranges Tryz.prog 9 ptrR b w.heap.size l.length (mapQ q l) (fun z => left z && !z.sameKey (keyL o.1.1)) cnt2 := ⟨es, clock, since, seen, c0, (hb3.block b (Array.getElem?_eq_some_iff.1 hb').1).trans hb', F, hs, hD, (hb3.block _ (Array.getElem?_eq_some_iff.1 hr).1).trans hr, rest⟩
                refine ⟨⟨_, cnt2, ps ++ [o], hrg3, hC2, fun p hp => ?_, hB2.trans (hb3.mono hB2.size)⟩, by rw [hrg3.left_eq, hrg.left_eq]; exact hlt⟩
                rcases List.mem_append.1 hp with hp | hp
                · exact hgd p hp
                · simp only [List.mem_singleton] at hp
                  subst hp
                  exact hg1
              clear hs2 ex ex2 exs ekl hkey hv hat hC hC2 hlk hrg hrg2 hg hBk ho1 ho2 hg2 hsz hg1 hdd hop hp hpn
              generalize o.1.1 = on at hen hlook hso ⊢
              generalize q on = kq at hen hso ⊢
              generalize q' on = kr at hlook hso
              go_wp2_with (go_at_call 74; refine hso.mono ?_; rintro e w3 ⟨rfl, hb3⟩)
              obtain ⟨hr3, hm3⟩ := HREL.out w3 hb3
              go_roundw
              case rel => exact hr3
              case measure => exact hm3
            · have hdd : decide ((o.1.2.1, o.1.2.2) = (p.2.1, p.2.2)) = false := decide_eq_false fun e => hop (by
                obtain ⟨⟨on, ot, od⟩, ho⟩ := o
                obtain ⟨pn, pt, pd⟩ := p
                simp only [Prod.mk.injEq] at e hpn ⊢
                exact ⟨hpn.symm, e.1, e.2⟩)
              rw [hdd] at hso
              have HEQ : Hid (G = false) := by
                show G = false
                rw [← HG.out]
                refine decide_eq_false fun e => ?_
                have hm : o.1 ∈ l' := by rw [← e]; exact o.2
                have := of_decide_eq_true (good_self HR2.out hm)
                rw [hg] at this
                exact hop (Option.some.inj this).symm
              clear hs2 ex ex2 exs ekl hkey hv hat hC hC2 hlk hrg hrg2 hg hBk ho1 ho2 hg2 hsz hdd hop hp hpn
              generalize o.1.1 = on at hen hlook hso ⊢
              generalize q on = kq at hen hso ⊢
              generalize q' on = kr at hlook hso
              go_wp2_with (go_at_call 74; refine hso.mono ?_; rintro e w3 ⟨rfl, hb3⟩)
              go_ret
              rw [HEQ.out]
              exact ⟨rfl, hB2.trans (hb3.mono hB2.size)⟩
  · rw [decide_eq_false (fun e => hlen (by rw [e]))]
    have hd : ((l.length : Int) != (l'.length : Int)) = true := by
      have : ¬ (l.length : Int) = (l'.length : Int) := by omega
      simpa using this
    generalize l.length = a at l1 hd
    generalize l'.length = c at l2 hd
    clear h1 h2 o1 o2 r1 r2 hlen
    go_enter Tryz.func73, Tryz.ntmps73
    go_wp2
    go_ret
    exact ⟨rfl, Below.refl _ _⟩

section
variable {w : World} {b b' : Nat} {mo mo' : Option Nat} {q q' : ByteArray → Nat} {s r : St}
set_option maxRecDepth 100000 in
set_option maxHeartbeats 4000000 in
theorem ssame_any (h : SIn w b mo q s) (h' : SIn w b' mo' q' r) : Calls Tryz.prog 50 #[.pointer (some ⟨b, 0, none⟩), .pointer (some ⟨b', 0, none⟩)] w fun e w' => e = .returned (.bool (sameS s r)) ∧ Below w.heap.size w w' := by
  obtain ⟨c0, c1, c2, c3, _⟩ := h.block.cells
  obtain ⟨e0, e1, e2, e3, _⟩ := h'.block.cells
  have hmx : Tryz.prog.follows .mixedOrders = true := by kernel_rfl
  have d0 := cell_regrown c0
  have d1 := cell_regrown c1
  have d2 := cell_regrown c2
  have g0 := cell_regrown e0
  have g1 := cell_regrown e1
  have g2 := cell_regrown e2
  have hp1 := fun d os => Calls.regrown_of (w := w) (d := d) (os := os) ((spower_c (h.below (below_regrown w d os)).block).mono fun e w' ⟨he, hw⟩ => (⟨he, hw ▸ Below.refl _ _⟩ : e = .returned (.bool (!s.off)) ∧ Below (grow (redrawn w d) os).heap.size (grow (redrawn w d) os) w'))
  have hp2 := fun d os => Calls.regrown_of (w := w) (d := d) (os := os) ((spower_c (h'.below (below_regrown w d os)).block).mono fun e w' ⟨he, hw⟩ => (⟨he, hw ▸ Below.refl _ _⟩ : e = .returned (.bool (!r.off)) ∧ Below (grow (redrawn w d) os).heap.size (grow (redrawn w d) os) w'))
  have hef := fun d os => Calls.regrown_of (w := w) (d := d) (os := os) (equalFunc_any (h.below (below_regrown w d os)).map (h'.below (below_regrown w d os)).map (h.below (below_regrown w d os)).objs (h'.below (below_regrown w d os)).objs h.rise h'.rise)
  generalize hS : sameS s r = S
  have HS : Hid (sameS s r = S) := hS
  unfold sameS at HS
  clear hS c0 c1 c2 c3 e0 e1 e2 e3 h h'
  have HSS : Hid (∀ x, decide (s.obs = r.obs ∧ s.head = r.head ∧ s.day = r.day ∧ s.off = r.off) = x → S = x) := fun x hx => by rw [← HS.out]; exact hx
  by_cases h1 : s.head = r.head
  · rw [← h1] at g1
    have hd1 := nm_eq (rfl : s.head = s.head)
    by_cases h2 : s.day = r.day
    · rw [← h2] at g2
      by_cases h3 : s.off = r.off
      · rw [← h3] at hp2
        have HF : Hid (S = decide (s.obs = r.obs)) := HSS.out _ (by congr 1; exact propext ⟨fun h => h.1, fun h => ⟨h, h1, h2, h3⟩⟩)
        generalize decide (s.obs = r.obs) = G at hef HF
        generalize s.head = hd at d1 g1 hd1
        generalize s.day = dy at d2 g2
        generalize s.off = of at hp1 hp2
        clear HS HSS h1 h2 h3
        cases of
        case true =>
          go_enter Tryz.func50, Tryz.ntmps50
          go_wp2_with fail
          refine wp_region_quiet_below hmx (by kernel_rfl) ?_
          repeat (go_big_quiet_step (first | exact hp1 _ _ | exact hp2 _ _ | exact hef _ _))
          refine wpQuiet_nil ?_
          intro _ hw'
          obtain ⟨⟨dq, osq⟩, hw''⟩ := hw'
          subst hw''
          have hbW := below_regrown w dq osq
          generalize grow (redrawn w dq) osq = W1 at hbW ⊢
          go_wp2
          go_ret
          rw [HF.out]
          exact ⟨rfl, hbW⟩
        case false =>
          go_enter Tryz.func50, Tryz.ntmps50
          go_wp2_with fail
          refine wp_region_quiet_below hmx (by kernel_rfl) ?_
          repeat (go_big_quiet_step (first | exact hp1 _ _ | exact hp2 _ _ | exact hef _ _))
          refine wpQuiet_nil ?_
          intro _ hw'
          obtain ⟨⟨dq, osq⟩, hw''⟩ := hw'
          subst hw''
          have hbW := below_regrown w dq osq
          generalize grow (redrawn w dq) osq = W1 at hbW ⊢
          go_wp2
          go_ret
          rw [HF.out]
          exact ⟨rfl, hbW⟩
      · have HF : Hid (S = false) := HSS.out _ (decide_eq_false fun h => h3 h.2.2.2)
        generalize decide (s.obs = r.obs) = G at hef
        generalize s.head = hd at d1 g1 hd1
        generalize s.day = dy at d2 g2
        generalize s.off = of at hp1 h3
        generalize r.off = og at hp2 h3
        clear HS HSS h1 h2
        cases of <;> cases og <;> first | exact absurd rfl h3 | skip
        all_goals clear h3
        case false.true =>
          go_enter Tryz.func50, Tryz.ntmps50
          go_wp2_with fail
          refine wp_region_quiet_below hmx (by kernel_rfl) ?_
          repeat (go_big_quiet_step (first | exact hp1 _ _ | exact hp2 _ _ | exact hef _ _))
          refine wpQuiet_nil ?_
          intro _ hw'
          obtain ⟨⟨dq, osq⟩, hw''⟩ := hw'
          subst hw''
          have hbW := below_regrown w dq osq
          generalize grow (redrawn w dq) osq = W1 at hbW ⊢
          go_wp2
          go_ret
          rw [HF.out]
          exact ⟨rfl, hbW⟩
        case true.false =>
          go_enter Tryz.func50, Tryz.ntmps50
          go_wp2_with fail
          refine wp_region_quiet_below hmx (by kernel_rfl) ?_
          repeat (go_big_quiet_step (first | exact hp1 _ _ | exact hp2 _ _ | exact hef _ _))
          refine wpQuiet_nil ?_
          intro _ hw'
          obtain ⟨⟨dq, osq⟩, hw''⟩ := hw'
          subst hw''
          have hbW := below_regrown w dq osq
          generalize grow (redrawn w dq) osq = W1 at hbW ⊢
          go_wp2
          go_ret
          rw [HF.out]
          exact ⟨rfl, hbW⟩
    · have HF : Hid (S = false) := HSS.out _ (decide_eq_false fun h => h2 h.2.2.1)
      have hd2 : (s.day == r.day) = false := by simpa using h2
      have hd3 : decide (s.day = r.day) = false := decide_eq_false h2
      generalize s.head = hd at d1 g1 hd1
      generalize s.day = dy at d2 hd2 hd3
      generalize r.day = dz at g2 hd2 hd3
      clear HS HSS h1 h2
      go_enter Tryz.func50, Tryz.ntmps50
      go_wp2_with fail
      refine wp_region_quiet_below hmx (by kernel_rfl) ?_
      repeat (go_big_quiet_step (first | exact hp1 _ _ | exact hp2 _ _ | exact hef _ _))
      refine wpQuiet_nil ?_
      intro _ hw'
      obtain ⟨⟨dq, osq⟩, hw''⟩ := hw'
      subst hw''
      have hbW := below_regrown w dq osq
      generalize grow (redrawn w dq) osq = W1 at hbW ⊢
      go_wp2
      go_ret
      rw [HF.out]
      exact ⟨rfl, hbW⟩
  · have HF : Hid (S = false) := HSS.out _ (decide_eq_false fun h => h1 h.2.1)
    have hd1 := nm_ne h1
    generalize s.head = hd at d1 hd1
    generalize r.head = he at g1 hd1
    clear HS HSS h1
    go_enter Tryz.func50, Tryz.ntmps50
    go_wp2_with fail
    refine wp_region_quiet_below hmx (by kernel_rfl) ?_
    repeat (go_big_quiet_step (first | exact hp1 _ _ | exact hp2 _ _ | exact hef _ _))
    refine wpQuiet_nil ?_
    intro _ hw'
    obtain ⟨⟨dq, osq⟩, hw''⟩ := hw'
    subst hw''
    have hbW := below_regrown w dq osq
    generalize grow (redrawn w dq) osq = W1 at hbW ⊢
    go_wp2
    go_ret
    rw [HF.out]
    exact ⟨rfl, hbW⟩

set_option maxHeartbeats 1000000 in
theorem ssame1_any (w : World) : Calls Tryz.prog 50 #[.pointer (some ⟨b, 0, none⟩), .pointer none] w fun e w' => e = .returned (.bool false) ∧ w' = w := by
  go_enter Tryz.func50, Tryz.ntmps50
  go_wp2
  go_ret
  exact ⟨rfl, rfl⟩
set_option maxHeartbeats 1000000 in
theorem ssame0_any (w : World) : Calls Tryz.prog 50 #[.pointer none, .pointer none] w fun e w' => e = .returned (.bool true) ∧ w' = w := by
  go_enter Tryz.func50, Tryz.ntmps50
  go_wp2
  go_ret
  exact ⟨rfl, rfl⟩
end
end Go.Proofs.YtbdhdlloihkibaaGreatDoor
namespace Go.Proofs.YtbdhdlloihkibaaGreatDoor
open Go.RowKit Go.Extern.Stop Go.Stop Go.Extern Go.Sort Go.Shelf Go.Lib

theorem cut_turn {s : St} {n : Int} (h : cutC s n = 0) : (cutS s n).head = s.head ∧ (cutS s n).day = s.day ∧ (cutS s n).off = false ∧ waitsB (cutS s n) = true ∧ leftI (cutS s n) = n ∧ (cutS s n).obs = s.obs ∧ (cutS s n).cut = n := by
  have h0 : ¬ n < 0 := fun e => by unfold cutC at h; rw [if_pos e] at h; cases h
  have h1 : s.off = false := by
    unfold cutC at h
    rw [if_neg h0] at h
    cases ho : s.off with
    | false => rfl
    | true => rw [ho, if_pos rfl] at h; cases h
  have e : cutS s n = { s with cut := n } := by unfold cutS; rw [h]; rfl
  rw [e]
  have hw : waitsB { s with cut := n } = true := by unfold waitsB; dsimp only; rw [h1, decide_eq_true (by omega)]; rfl
  exact ⟨rfl, rfl, h1, hw, by unfold leftI; rw [hw]; rfl, rfl, rfl⟩
theorem on_turn (s : St) : waitsB (onS s) = false ∧ leftI (onS s) = 0 := by
  have hw : waitsB (onS s) = false := by unfold waitsB onS; rfl
  exact ⟨hw, by unfold leftI; rw [hw]; rfl⟩
theorem new_fp (N : Nat) : ∀ k, fpS N none (fun _ => 0) newS.obs k → N ≤ k := by
  rintro k (rfl | hk | ⟨o, ho, _⟩)
  · exact Nat.le_refl _
  · cases hk
  · cases ho
theorem storeK (w : World) (a : Nat → Addr) (hE : Errs w a) : StoreK a w.heap.size (EMw w) SAtP where
  below W W' h hb := Below.trans (h : Below w.heap.size w W) hb
  size W h := Below.size (h : Below w.heap.size w W)
  coded W n h hn := coded2_any W a (EMw.errs h hE) n hn
  ptr W v FP s h := by
    obtain ⟨b, mo, q, rfl, rfl, hs⟩ := h
    exact ⟨_, rfl⟩
  lt W v FP s k h hk := by
    obtain ⟨b, mo, q, rfl, rfl, hs⟩ := h
    exact hs.lt hk
  keep W W' v FP P s h hB hP := by
    obtain ⟨b, mo, q, rfl, rfl, hs⟩ := h
    exact ⟨b, mo, q, rfl, rfl, hs.keep hB hP⟩
  new W _ := (snew_any W).mono fun e w' ⟨he, hs, hb⟩ => ⟨_, _, he, ⟨W.heap.size, none, _, rfl, rfl, hs⟩, new_fp W.heap.size, hb⟩
  put W v FP s n t hm h hk hn ht := by
    obtain ⟨b, mo, q, rfl, rfl, hs⟩ := h
    exact sput_any hs hk (EnvO.of (EMw.errs hm hE)) n t hn ht
  get W v FP s n hm h hk hn := by
    obtain ⟨b, mo, q, rfl, rfl, hs⟩ := h
    exact sget_any hs (EnvO.of (EMw.errs hm hE)) n (by unfold maxLen; omega)
  drop W v FP s n hm h hk hn := by
    obtain ⟨b, mo, q, rfl, rfl, hs⟩ := h
    exact sdrop_any hs (EnvO.of (EMw.errs hm hE)) n (by unfold maxLen; omega)
  names W v FP s hm h hk := by
    obtain ⟨b, mo, q, rfl, rfl, hs⟩ := h
    exact snames_any hs hk
  born W v FP s n hm h hk hn := by
    obtain ⟨b, mo, q, rfl, rfl, hs⟩ := h
    exact (sborn_any hs n (by unfold maxLen; omega)).mono fun e w' ⟨he, hw⟩ => ⟨he, hw ▸ Below.refl _ _⟩
  swap W v FP s n t hm h hk hn ht := by
    obtain ⟨b, mo, q, rfl, rfl, hs⟩ := h
    exact sswap_any hs (EnvO.of (EMw.errs hm hE)) n t ht
  cut W v FP s z hm h hk hz := by
    obtain ⟨b, mo, q, rfl, rfl, hs⟩ := h
    refine (scut_c hs.block (EnvO.of (EMw.errs hm hE)) z).mono fun e w' ⟨he, hw⟩ => ?_
    have hsame : SPost SAtP W (.pointer (some ⟨b, 0, none⟩)) (fpS b mo q s.obs) s W := spost_of hs (But.refl _ _) fun k hk => Or.inl hk
    by_cases h0 : cutC s z = 0
    · obtain ⟨g1, g2, g3, g4, g5, g6, g7⟩ := cut_turn h0
      have hc : (if z < 0 then 2 else if s.off = true then 12 else 0) = 0 := h0
      have hz0 : ¬ z < 0 := fun e => by rw [if_pos e] at hc; cases hc
      have ho : ¬ s.off = true := fun e => by rw [if_neg hz0, if_pos e] at hc; cases hc
      rw [if_neg hz0, if_neg ho] at hw
      subst hw
      refine ⟨he, spost_turned hs (powW_but W b false true z) ?_ g6 (by rw [g7]; exact hz.2)⟩
      rw [g1, g2, g3, g4, g5]
      exact hs.block.pow false true z
    · have hc : cutS s z = s := by unfold cutS; rw [if_pos h0]
      have hw' : w' = W := by
        by_cases hz0 : z < 0
        · rw [if_pos hz0] at hw; exact hw
        · rw [if_neg hz0] at hw
          by_cases ho : s.off = true
          · rw [if_pos ho] at hw; exact hw
          · exact absurd (show cutC s z = 0 by unfold cutC; rw [if_neg hz0, if_neg ho]) h0
      subst hw'
      rw [hc]
      exact ⟨he, hsame⟩
  on W v FP s hm h hk := by
    obtain ⟨b, mo, q, rfl, rfl, hs⟩ := h
    refine (son_c hs.block).mono fun e w' ⟨he, hw⟩ => ?_
    subst hw
    refine ⟨he, spost_turned hs (powW_but W b false false 0) ?_ rfl (by show (-1 : Int) ≤ _; omega)⟩
    obtain ⟨g1, g2⟩ := on_turn s
    rw [g1, g2]
    exact hs.block.pow false false 0
  power W v FP s hm h hk := by
    obtain ⟨b, mo, q, rfl, rfl, hs⟩ := h
    exact (spower_c hs.block).mono fun e w' ⟨he, hw⟩ => ⟨he, hw ▸ Below.refl _ _⟩
  next W v FP s z hm h hk hz := by
    obtain ⟨b, mo, q, rfl, rfl, hs⟩ := h
    refine (snext_c hs.block (EnvO.of (EMw.errs hm hE)) z hz hk.day0 hk.day1).mono fun e w' hp => ?_
    rcases hp with ⟨hb, he, hw⟩ | ⟨hb, he, hw⟩
    · have hc : nextC s z = 2 := by unfold nextC; rw [if_pos hb]
      have hn : nextS s z = s := by unfold nextS; rw [hc]; rfl
      rw [hc, hn]
      exact ⟨he, spost_of (hs.below hw) (But.of_below hw) fun k hk => Or.inl hk⟩
    · have hc : nextC s z = 0 := by unfold nextC; rw [if_neg hb]
      have hn : nextS s z = { s with day := s.day + z } := by unfold nextS; rw [hc]; rfl
      rw [hc, hn]
      subst hw
      refine ⟨he, spost_turned hs (set_but W b 2 _) ?_ rfl hs.cut⟩
      exact hs.block.day _
  day W v FP s hm h hk := by
    obtain ⟨b, mo, q, rfl, rfl, hs⟩ := h
    exact (sday_c hs.block).mono fun e w' ⟨he, hw⟩ => ⟨he, hw ▸ Below.refl _ _⟩
  copy W v FP s hm h hk := by
    obtain ⟨b, mo, q, rfl, rfl, hs⟩ := h
    refine (scopy_any hs hk).mono fun e w' ⟨b', mb, q', he, hs', hn, hb⟩ => ?_
    exact ⟨_, _, he, ⟨b', some mb, q', rfl, rfl, hs'⟩, hn, hb⟩
  same W v u FP GP s r hm h h' := by
    obtain ⟨b, mo, q, rfl, rfl, hs⟩ := h
    obtain ⟨b', mo', q', rfl, rfl, hs'⟩ := h'
    exact ssame_any hs hs'
  same1 W v FP s hm h := by
    obtain ⟨b, mo, q, rfl, rfl, hs⟩ := h
    exact (ssame1_any W).mono fun e w' ⟨he, hw⟩ => ⟨he, hw ▸ Below.refl _ _⟩
  same0 W hm := (ssame0_any W).mono fun e w' ⟨he, hw⟩ => ⟨he, hw ▸ Below.refl _ _⟩
end Go.Proofs.YtbdhdlloihkibaaGreatDoor
namespace Go.Proofs.YtbdhdlloihkibaaGreatDoor
open Go.RowKit Go.Extern.Stop Go.Stop Go.Extern Go.Sort Go.Shelf Go.Lib

theorem expK (w : World) (ht : Lib.TabIs Tryz.prog w "internal/strconv.uint64pow10" .u64 Lib.pow10Tab) : ExpK (EMw w) where
  stay {W W'} h hb := by
    have h' : Below w.heap.size w W := h
    exact h'.trans (hb.mono h'.size)
  keep v ss day age count W _ hx hl _ := (keep_any v ss day age count W hx (by omega)).mono fun _ _ ⟨v', he, ho, hb⟩ => ⟨v', he, keys_own ho, hb⟩
  reach v ss W h hx hl hok hf := (reach_any v ss W (tab_below ht h) hx (Nat.le_trans (flat_need hf) (by omega)) (fun s hs => (hok s hs).1)).mono fun _ _ ⟨v', he, ho, hb⟩ => ⟨v', he, txs_of_own ho, hb⟩
theorem expO (w : World) : ExpO (EMw w) SAtP where
  orph W v FP s vN needed age _ hs K hA hN hl := by
    obtain ⟨b, mo, q, rfl, rfl, hs⟩ := hs
    exact (orphans_any hs K hA vN needed age hN (by omega)).mono fun _ _ ⟨v', he, ho, hb⟩ => ⟨v', he, txs_of_own ho, hb⟩
  none W vN age := orphans_none vN age W
end Go.Proofs.YtbdhdlloihkibaaGreatDoor
namespace Go.Proofs.YtbdhdlloihkibaaGreatDoor
open Go.RowKit Go.Extern.Stop Go.Stop Go.Extern Go.Sort Go.Shelf Go.Lib

theorem expD : ExpD SAtP where
  day W v FP s h := by
    obtain ⟨b, mo, q, rfl, rfl, hs⟩ := h
    exact sday_c hs.block
  born W v FP s n h hn := by
    obtain ⟨b, mo, q, rfl, rfl, hs⟩ := h
    exact sborn_any hs n (by unfold maxLen; omega)
end Go.Proofs.YtbdhdlloihkibaaGreatDoor
