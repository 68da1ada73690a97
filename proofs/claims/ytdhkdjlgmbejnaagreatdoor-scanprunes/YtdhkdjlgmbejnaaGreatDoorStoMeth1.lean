/-
  The contracts of the program's store: New, Head, Day, Power, On, Cut, Next.
-/
import Derived.Test.YtdhkdjlgmbejnaaGreatDoorIdxShelf
import Derived.Shelf.AbstractIn
import Derived.Test.YtdhkdjlgmbejnaaGreatDoorScanRead
namespace Go.Proofs.YtdhkdjlgmbejnaaGreatDoor
open Go.RowKit Go.Maps Go.Sort Go.Shelf Go.Lib
attribute [local go_sem] Oper.semAt_some

def goodP (p : List UInt8) : Bool := p.isEmpty || wordB 16 p

theorem nb_sign (c : UInt8) : signB c = (nbI c.toNat || decide (c = 47)) := by
  rw [signB_int]
  unfold nbI
  have e : decide ((c.toNat : Int) = 47) = decide (c = 47) := by
    congr 1
    exact propext ⟨fun h => UInt8.toNat_inj.1 (by have : c.toNat = 47 := by omega
                                                  rw [this]; rfl), fun h => by rw [h]; rfl⟩
  rw [e]
theorem goodP_all {p : List UInt8} (h : p.length ≤ 16) : goodP p = p.all fun c => nbI c.toNat := by
  unfold goodP wordB
  cases p with
  | nil => rfl
  | cons c r => simp only [List.isEmpty_cons, Bool.false_or]; rw [decide_eq_true (by simp), decide_eq_true h]; rfl
theorem pieces_sign : ∀ l : List UInt8, ((pieces 47 l).all fun p => p.all fun c => nbI c.toNat) = l.all signB
  | [] => rfl
  | c :: r => by
    have ih := pieces_sign r
    unfold pieces
    rw [List.all_cons, nb_sign]
    split
    · rename_i h
      subst h
      simp [← ih]
    · rename_i h
      rw [decide_eq_false h, Bool.or_false, ← ih]
      split
      · rename_i e
        exact absurd e (pieces_ne 47 r)
      · rename_i w ws e
        rw [e]
        simp [Bool.and_assoc]
theorem pieces_short (d : UInt8) : ∀ (l : List UInt8), ∀ x ∈ pieces d l, x.length ≤ l.length
  | [], x, h => by simp only [pieces, List.mem_singleton] at h; subst h; exact Nat.le_refl _
  | c :: r, x, h => by
    have ih := pieces_short d r
    unfold pieces at h
    split at h
    · rcases List.mem_cons.1 h with rfl | h
      · simp
      · have := ih x h
        simp; omega
    · split at h
      · rename_i e
        exact absurd e (pieces_ne d r)
      · rename_i w ws e
        rw [e] at ih
        rcases List.mem_cons.1 h with rfl | h
        · have := ih w (by simp)
          simp; omega
        · have := ih x (by simp [h])
          simp; omega
theorem good_pieces {l : List UInt8} (h : l.length ≤ 16) : (pieces 47 l).all goodP = l.all signB := by
  rw [← pieces_sign]
  apply Bool.eq_iff_iff.2
  rw [List.all_eq_true, List.all_eq_true]
  constructor
  · intro hh p hp
    rw [← goodP_all (Nat.le_trans (pieces_short 47 l p hp) h)]
    exact hh p hp
  · intro hh p hp
    rw [goodP_all (Nat.le_trans (pieces_short 47 l p hp) h)]
    exact hh p hp

theorem index_cases (s : ByteArray) : (Lib.indexByte s.data.toList 47 = -1 ∧ pieces 47 s.data.toList = [s.data.toList]) ∨ ∃ i : Nat, i < s.size ∧ Lib.indexByte s.data.toList 47 = i ∧ pieces 47 s.data.toList = (s.extract 0 i).data.toList :: pieces 47 (s.extract (i + 1) s.size).data.toList := by
  have hsz := size_list s
  have hge := indexByte_ge s.data.toList 47
  rcases Int.lt_or_le (Lib.indexByte s.data.toList 47) 0 with hn | hp
  · have hm : Lib.indexByte s.data.toList 47 = -1 := by omega
    have hno := indexByte_none hm
    refine Or.inl ⟨hm, pieces_none 47 _ fun c hc e => ?_⟩
    obtain ⟨k, hk⟩ := List.mem_iff_getElem?.1 hc
    exact hno k (by rw [hk, e])
  · obtain ⟨i, hi⟩ : ∃ i : Nat, Lib.indexByte s.data.toList 47 = i := ⟨(Lib.indexByte s.data.toList 47).toNat, by omega⟩
    obtain ⟨hc, hno⟩ := indexByte_some hi
    have hlt : i < s.data.toList.length := by
      rcases Nat.lt_or_ge i s.data.toList.length with h' | h'
      · exact h'
      · rw [List.getElem?_eq_none h'] at hc; cases hc
    refine Or.inr ⟨i, by omega, hi, ?_⟩
    have hsp : s.data.toList = s.data.toList.take i ++ 47 :: s.data.toList.drop (i + 1) := by
      have e1 := List.take_append_drop i s.data.toList
      rw [List.drop_eq_getElem_cons hlt] at e1
      rw [List.getElem?_eq_getElem hlt] at hc
      rw [Option.some.inj hc] at e1
      exact e1.symm
    have e1 : (s.extract 0 i).data.toList = s.data.toList.take i := by simp [ByteArray.data_extract, Array.toList_extract, List.extract]
    have e2 : (s.extract (i + 1) s.size).data.toList = s.data.toList.drop (i + 1) := by
      simp only [ByteArray.data_extract, Array.toList_extract, List.extract]
      rw [List.take_of_length_le (by rw [List.length_drop, hsz]; exact Nat.le_refl _)]
    rw [e1, e2]
    conv => lhs; rw [hsp]
    refine pieces_append 47 _ _ fun c hc' e => ?_
    obtain ⟨k, hk⟩ := List.mem_iff_getElem?.1 hc'
    rw [List.getElem?_take] at hk
    split at hk
    · rename_i hki
      exact hno k hki (by rw [hk, e])
    · cases hk

def leftS (B : Nat) (w : World) : Nat := match w.cell? ⟨B, 0, none⟩ with
  | some (.string r) => r.size
  | _ => 0
theorem leftS_eq {B : Nat} {w : World} {r : ByteArray} {t : TypeId} (h : Boxed w B t (.string r)) : leftS B w = r.size := by unfold leftS; rw [h.cell]

set_option maxRecDepth 100000 in
set_option maxHeartbeats 2000000 in
theorem split1_any (n : Nat) (hn : 1 ≤ n) (l B : Nat) (R Rx : World → Prop) (s : ByteArray)
    (hY : ∀ (x : ByteArray) (W : World), x.size ≤ s.size → R W → YieldAt Fence.wide (n - 1) Tryz.prog l #[.string x] W fun e W' =>
      (goodP x.data.toList = true ∧ e = .returned (.bool true) ∧ R W' ∧ ∀ k, B ≤ k → k < B + 3 → W'.heap[k]? = W.heap[k]?) ∨ (goodP x.data.toList = false ∧ e = .returned (.bool false) ∧ Rx W'))
    (hset : ∀ W v, R W → R (W.setCell ⟨B, 0, none⟩ v))
    (W : World) (b0 : Boxed W B 9 (.string s)) (b1 : Boxed W (B + 1) 9 (.string ⟨#[47]⟩)) (b2 : Boxed W (B + 2) 3 (.int .i64 0)) (hs : s.size ≤ maxLen) (h0 : R W) :
    CallsIn Fence.wide n Tryz.prog 236 #[.func (.yield l) #[] #[], .pointer (some ⟨B + 1, 0, none⟩), .pointer (some ⟨B, 0, none⟩), .pointer (some ⟨B + 2, 0, none⟩)] W fun e W' => (∃ v, e = .returned v) ∧
      (((pieces 47 s.data.toList).all goodP = true ∧ R W') ∨ ((pieces 47 s.data.toList).all goodP = false ∧ Rx W')) := by
  unfold maxLen at hs
  have hro : Fence.wide.round = none := rfl
  generalize hG : (pieces 47 s.data.toList).all goodP = G
  have HY : Hid _ := hY
  have HSET : Hid _ := hset
  have c1 := b1.cell
  clear hY hset
  refine callsIn_of_wp Tryz.func236 rfl trivial ?_ hro
  simp only [Tryz.ntmps236, List.size_toArray, List.length_cons, List.length_nil, Nat.reduceAdd, Nat.reduceSub, Array.replicate_succ, Array.replicate_zero, List.push_toArray, List.append_toArray, List.nil_append, List.cons_append]
  gi_wp2
  gi_loopw [7, 8] (fun _ _ wr => ∃ r : ByteArray, Boxed wr B 9 (.string r) ∧ Boxed wr (B + 1) 9 (.string ⟨#[47]⟩) ∧ Boxed wr (B + 2) 3 (.int .i64 0) ∧ R wr ∧ r.size ≤ s.size ∧ (pieces 47 r.data.toList).all goodP = G) (fun _ _ wr => leftS B wr)
  case atStart => exact ⟨s, b0, b1, b2, h0, Nat.le_refl _, hG⟩
  case round =>
    obtain ⟨r, d0, d1, d2, hRr, hle, hg⟩ := hrel
    have k0 := d0.cell
    have k1 := d1.cell
    have k2 := d2.cell
    have f0 := d0.frozen
    have hidx := (callsIn_wide (n := n - 1)).2 (Any.strings_Index_one Tryz.indexIt r 47 wr)
    change CallsIn Fence.wide (n - 1) Tryz.prog 238 _ _ _ at hidx
    rcases index_cases r with ⟨hi, hp⟩ | ⟨i, hlt, hi, hp⟩
    · rw [hi] at hidx
      rw [hp] at hg
      have HG : Hid (goodP r.data.toList = G) := by simpa [Hid] using hg
      obtain ⟨fn, tmps, assign, body, hy, hR⟩ := HY.out r wr hle hRr
      clear hi hp hg b0 b1 b2 c1 hG
      gi_wp2_with (refine ⟨trivial, ?_⟩; gi_at_call 238; refine hidx.mono ?_; rintro e w' ⟨rfl, rfl⟩)
      refine hR.mono ?_
      rintro e W3 (⟨hgd, rfl, hR3, _⟩ | ⟨hgd, rfl, hRx3⟩)
      · gi_wp2
        go_end0
        exact ⟨⟨_, rfl⟩, .inl ⟨by rw [← HG.out]; exact hgd, hR3⟩⟩
      · gi_wp2
        go_end0
        exact ⟨⟨_, rfl⟩, .inr ⟨by rw [← HG.out]; exact hgd, hRx3⟩⟩
    · rw [hi] at hidx
      rw [hp] at hg
      have hxs : (r.extract 0 i).size ≤ s.size := by rw [ByteArray.size_extract]; omega
      have hrs : (r.extract (i + 1) r.size).size < r.size := by rw [ByteArray.size_extract]; omega
      have HG : Hid ((goodP (r.extract 0 i).data.toList && (pieces 47 (r.extract (i + 1) r.size).data.toList).all goodP) = G) := by simpa [Hid] using hg
      obtain ⟨fn, tmps, assign, body, hy, hR⟩ := HY.out (r.extract 0 i) wr hxs hRr
      have hi0 : (0 : Int) ≤ (i : Int) := by omega
      have hii : (i : Int) ≤ (r.size : Int) := by omega
      have hij : (i : Int) + 1 ≤ (r.size : Int) := by omega
      have hdn : decide ((i : Int) < 0) = false := decide_eq_false (by omega)
      have hwi : wrap64 (i : Int) = (i : Int) := by unfold wrap64; omega
      have hwj : wrap64 ((i : Int) + 1) = (i : Int) + 1 := by unfold wrap64; omega
      have HM : Hid (leftS B wr = r.size) := leftS_eq d0
      have HRS : Hid ((r.extract (i + 1) r.size).size < r.size) := hrs
      have HLE : Hid (r.size ≤ s.size) := hle
      clear hi hp hg b0 b1 b2 c1 hG hs hlt hxs hrs hle
      gi_wp2_with (refine ⟨trivial, ?_⟩; gi_at_call 238; refine hidx.mono ?_; rintro e w' ⟨rfl, rfl⟩)
      refine hR.mono ?_
      rintro e W3 (⟨hgd, rfl, hR3, hkp⟩ | ⟨hgd, rfl, hRx3⟩)
      · have d0' : Boxed W3 B 9 (.string r) := (hkp B (Nat.le_refl _) (by omega)).trans d0
        have d1' : Boxed W3 (B + 1) 9 (.string ⟨#[47]⟩) := (hkp (B + 1) (by omega) (by omega)).trans d1
        have d2' : Boxed W3 (B + 2) 3 (.int .i64 0) := (hkp (B + 2) (by omega) (by omega)).trans d2
        have j0 := d0'.cell
        have j1 := d1'.cell
        have jf := d0'.frozen
        have HE : Hid (Boxed (W3.setCell ⟨B, 0, none⟩ (.string (r.extract (i + 1) r.size))) B 9 (.string (r.extract (i + 1) r.size))) := d0'.set _
        have HE1 : Hid (Boxed (W3.setCell ⟨B, 0, none⟩ (.string (r.extract (i + 1) r.size))) (B + 1) 9 (.string ⟨#[47]⟩)) := (Below.heap_setCell W3 ⟨B, 0, none⟩ _ (B + 1) (by show B + 1 ≠ B; omega)).trans d1'
        have HE2 : Hid (Boxed (W3.setCell ⟨B, 0, none⟩ (.string (r.extract (i + 1) r.size))) (B + 2) 3 (.int .i64 0)) := (Below.heap_setCell W3 ⟨B, 0, none⟩ _ (B + 2) (by show B + 2 ≠ B; omega)).trans d2'
        have HR4 : Hid (R (W3.setCell ⟨B, 0, none⟩ (.string (r.extract (i + 1) r.size)))) := HSET.out _ _ hR3
        have HGG : Hid ((pieces 47 (r.extract (i + 1) r.size).data.toList).all goodP = G) := by
          have := HG.out
          rw [hgd, Bool.true_and] at this
          exact this
        clear d0 d1 d2 k0 k1 k2 f0 hkp
        gi_wp2
        exact ⟨⟨_, HE.out, HE1.out, HE2.out, HR4.out, by have := HRS.out; have := HLE.out; omega, HGG.out⟩, by rw [leftS_eq HE.out, HM.out]; exact HRS.out⟩
      · gi_wp2
        refine bodyPost_ret (results_none rfl _ _ _) rfl ?_
        exact ⟨⟨_, rfl⟩, .inr ⟨by rw [← HG.out, hgd]; rfl, hRx3⟩⟩

def splitW (w : World) (s : ByteArray) : World := ((w.alloc (.cells #[.string s] 9)).alloc (.cells #[.string ⟨#[47]⟩] 9)).alloc (.cells #[.int .i64 0] 3)
set_option maxHeartbeats 1000000 in
theorem splitSeq_any (s : ByteArray) (w : World) : Calls Tryz.prog 179 #[.string s, .string ⟨#[47]⟩] w fun e w' => e = .returned (.func (.func 236) #[] #[.pointer (some ⟨w.heap.size + 1, 0, none⟩), .pointer (some ⟨w.heap.size, 0, none⟩), .pointer (some ⟨w.heap.size + 2, 0, none⟩)]) ∧ w' = splitW w s := by
  have h1 : Calls Tryz.prog 215 #[.string s, .string ⟨#[47]⟩, .int .i64 0] w fun e w' => e = .returned (.func (.func 236) #[] #[.pointer (some ⟨w.heap.size + 1, 0, none⟩), .pointer (some ⟨w.heap.size, 0, none⟩), .pointer (some ⟨w.heap.size + 2, 0, none⟩)]) ∧ w' = splitW w s := by
    go_enter Tryz.func215, Tryz.ntmps215
    go_wp2
    go_ret
    exact ⟨rfl, rfl⟩
  go_enter Tryz.func179, Tryz.ntmps179
  go_wp2_with (go_at_call 215; refine h1.mono ?_; rintro e w' ⟨rfl, rfl⟩)
  go_ret
  exact ⟨rfl, rfl⟩

def readP (good : Bool) (Rx : World → Prop) (W : World) : Exit → Act → World → Prop
  | .normal, _, W' => good = true ∧ W' = W
  | .ret, _, W' => good = false ∧ Rx W' ∧ KeepsOthers W W'
  | _, _, _ => False

theorem range_words {n : Nat} {g : Operand} {p : Tmp} {assign body : Code} {Q : Exit → Act → World → Prop} {a : Act} {w : World} (s : ByteArray) (B : Nat) (hB : B + 3 ≤ w.heap.size)
    (hg : a.eval g = .func (.func 236) #[] #[.pointer (some ⟨B + 1, 0, none⟩), .pointer (some ⟨B, 0, none⟩), .pointer (some ⟨B + 2, 0, none⟩)])
    (b0 : Boxed w B 9 (.string s)) (b1 : Boxed w (B + 1) 9 (.string ⟨#[47]⟩)) (b2 : Boxed w (B + 2) 3 (.int .i64 0)) (hs : s.size ≤ maxLen) (hn : 3 ≤ n)
    (R Rx : World → Prop) (hR : ∀ W l o, R W → w.heap.size ≤ l → R (W.putObj l o)) (hRx : ∀ W l o, Rx W → w.heap.size ≤ l → Rx (W.putObj l o)) (hRa : ∀ W o, R W → R (W.alloc o)) (hRs : ∀ W v, R W → R (W.setCell ⟨B, 0, none⟩ v)) (h0 : R w) (a₁ : ByteArray → Act)
    (hassign : ∀ (l : Nat) (x : ByteArray) (W : World) (K : Act → World → Prop), K (a₁ x) W → assign.wpIn (Fence.wide.inRound l) (n - 1 - 1) Tryz.prog (Exit.then K (fun _ _ _ => False)) { tmps := a.tmps.setIfInBounds p (.string x), defers := [] } W)
    (hbody : ∀ (l : Nat) (x : ByteArray) (W : World), x.size ≤ s.size → R W → body.wpIn (Fence.wide.inRound l) (n - 1 - 1) Tryz.prog (readP (goodP x.data.toList) Rx W) (a₁ x) W)
    (hdone : ∀ W : World, (pieces 47 s.data.toList).all goodP = true → R W → W.heap[w.heap.size]? = some (.deferred (some [])) → Q .normal { a with defers := { target := .collected w.heap.size, args := #[] } :: a.defers } W)
    (hstop : ∀ W : World, (pieces 47 s.data.toList).all goodP = false → Rx W → W.heap[w.heap.size]? = some (.deferred (some [])) → Code.ret.wpIn Fence.wide n Tryz.prog Q { a with defers := { target := .collected w.heap.size, args := #[] } :: a.defers } W) :
    (Code.rangeFunc g #[p] assign body).wpIn Fence.wide n Tryz.prog Q a w := by
  refine wpIn_rangeFunc fun fn hfn => ?_
  obtain ⟨rec, hrec⟩ : ∃ rec : LoopState → Option Code → Loop, rec = fun st pe => { state := st, pending := pe, fn, tmps := a.tmps, params := #[p], assign, body, defers := w.heap.size } := ⟨_, rfl⟩
  have hold : ∀ k, k < w.heap.size → ((w.alloc (.deferred (some []))).alloc (.loop (rec .ready none))).heap[k]? = w.heap[k]? := fun k hk => (Below.heap_alloc _ _ k (by simp; omega)).trans (Below.heap_alloc _ _ k hk)
  have hrun : (Instr.enterLoop fn a.tmps #[p] assign body none).run Tryz.prog w = .ok (w.heap.size + 1, [{ target := .collected w.heap.size, args := #[] }]) ((w.alloc (.deferred (some []))).alloc (.loop (rec .ready none))) := by rw [hrec]; exact run_enterLoop_outer _ _ _ _ _
  have hloop : ((w.alloc (.deferred (some []))).alloc (.loop (rec .ready none))).heap[w.heap.size + 1]? = some (.loop (rec .ready none)) := by
    have := World.alloc_heap_new (w.alloc (.deferred (some []))) (.loop (rec .ready none))
    rwa [World.size_alloc] at this
  have hdef : ((w.alloc (.deferred (some []))).alloc (.loop (rec .ready none))).heap[w.heap.size]? = some (.deferred (some [])) := (Below.heap_alloc _ _ _ (by simp)).trans (World.alloc_heap_new w _)
  have eg : ∀ args w, (callFunc 236 args).run Tryz.prog w = .ok (.enter 236 args) w := enters_of Tryz.func236 (by kernel_rfl) rfl
  have hR1 : R ((w.alloc (.deferred (some []))).alloc (.loop (rec .ready none))) := hRa _ _ (hRa _ _ h0)
  generalize (w.alloc (.deferred (some []))).alloc (.loop (rec .ready none)) = W1 at hold hrun hloop hdef hR1
  refine ⟨w.heap.size + 1, [{ target := .collected w.heap.size, args := #[] }], W1, { target := .fn (.func 236) #[.pointer (some ⟨B + 1, 0, none⟩), .pointer (some ⟨B, 0, none⟩), .pointer (some ⟨B + 2, 0, none⟩)], args := #[.func (.yield (w.heap.size + 1)) #[] #[]] }, W1, 236, #[.func (.yield (w.heap.size + 1)) #[] #[], .pointer (some ⟨B + 1, 0, none⟩), .pointer (some ⟨B, 0, none⟩), .pointer (some ⟨B + 2, 0, none⟩)], W1, hrun, ?_, fun _ _ => trivial, ?_, fun _ => by omega, ?_⟩
  · simp only [resolve, hg]
    simp [go_sem]
  · simp [invoke, go_sem, eg]
  refine (split1_any (n - 1) (by omega) (w.heap.size + 1) B
    (fun W => R W ∧ W.heap[w.heap.size + 1]? = some (.loop (rec .ready none)) ∧ W.heap[w.heap.size]? = some (.deferred (some [])))
    (fun W => Rx W ∧ W.heap[w.heap.size + 1]? = some (.loop (rec .done (some .ret))) ∧ W.heap[w.heap.size]? = some (.deferred (some []))) s ?yield ?set _
    ((hold B (by omega)).trans b0) ((hold (B + 1) (by omega)).trans b1) ((hold (B + 2) (by omega)).trans b2) hs ⟨hR1, hloop, hdef⟩).mono ?_
  case set =>
    rintro W v ⟨h1, h2, h3⟩
    exact ⟨hRs W v h1, (Below.heap_setCell W ⟨B, 0, none⟩ v _ (by show w.heap.size + 1 ≠ B; omega)).trans h2, (Below.heap_setCell W ⟨B, 0, none⟩ v _ (by show w.heap.size ≠ B; omega)).trans h3⟩
  case yield =>
    rintro x W hx ⟨h1, h2, h3⟩
    have hlt : w.heap.size + 1 < W.heap.size := (Array.getElem?_eq_some_iff.1 h2).1
    have hy := run_yield (P := Tryz.prog) (args := #[.string x]) h2 (by rw [hrec]; rfl)
    have hy' : (Instr.yield (w.heap.size + 1) #[.string x]).run Tryz.prog W = .ok (.round (w.heap.size + 1) fn (a.tmps.setIfInBounds p (.string x)) assign body) W := by rw [hy, hrec]; simp
    refine ⟨fn, _, assign, body, hy', roundIn_of_wpIn hfn ?_⟩
    refine hassign _ x W _ ?_
    refine ⟨_, run_beginRound h2 (by rw [hrec]), ?_⟩
    have e2 : (W.putObj (w.heap.size + 1) (.loop { rec .ready none with state := .busy })).heap[w.heap.size + 1]? = some (.loop { rec .ready none with state := .busy }) := World.putObj_heap_same hlt
    have e3 : (W.putObj (w.heap.size + 1) (.loop { rec .ready none with state := .busy })).heap[w.heap.size]? = some (.deferred (some [])) := (World.putObj_heap_other (by omega)).trans h3
    refine wpIn_mono (hbody _ x _ hx (hR _ _ _ h1 (by omega))) ?_
    intro e a3 W3 hp
    cases e with
    | normal =>
      obtain ⟨hgd, rfl⟩ := hp
      have hend := run_endRound (P := Tryz.prog) none e2
      refine ⟨_, _, hend, .inl ⟨hgd, rfl, ⟨hR _ _ _ (hR _ _ _ h1 (by omega)) (by omega), ?_, ?_⟩, fun k h4 h5 => ?_⟩⟩
      · rw [World.putObj_heap_same (by simpa using hlt), hrec]; rfl
      · exact (World.putObj_heap_other (by omega)).trans e3
      · exact (World.putObj_heap_other (by omega)).trans (World.putObj_heap_other (by omega))
    | ret =>
      obtain ⟨hgd, hx3, hk3⟩ := hp
      have e4 := hk3.same _ _ e2 rfl
      have hend := run_endRound (P := Tryz.prog) (some .ret) e4
      refine ⟨_, _, hend, .inr ⟨hgd, rfl, hRx _ _ _ hx3 (by omega), ?_, ?_⟩⟩
      · rw [World.putObj_heap_same (Array.getElem?_eq_some_iff.1 e4).1, hrec]; rfl
      · exact (World.putObj_heap_other (by omega)).trans (hk3.same _ _ e3 rfl)
    | exit id => exact hp.elim
    | goto t => exact hp.elim
    | panic ch => exact hp.elim
    | outgrown => exact hp.elim
  rintro e W2 ⟨⟨v, rfl⟩, (⟨hall, h1, h2, h3⟩ | ⟨hall, h1, h2, h3⟩)⟩
  · refine ⟨none, _, by have := run_endLoop (P := Tryz.prog) h2 (by rw [hrec]; simp); rw [hrec] at this; exact this, hdone _ hall (hR _ _ _ h1 (by omega)) ((World.putObj_heap_other (by omega)).trans h3)⟩
  · refine ⟨some .ret, _, by have := run_endLoop (P := Tryz.prog) h2 (by rw [hrec]; simp); rw [hrec] at this; exact this, hstop _ hall (hRx _ _ _ h1 (by omega)) ((World.putObj_heap_other (by omega)).trans h3)⟩

set_option maxRecDepth 100000 in
set_option maxHeartbeats 2000000 in
theorem oName_any (s : ByteArray) (w : World) (hs : s.size ≤ maxLen) : Calls Tryz.prog 134 #[.string s] w fun e w' => e = .returned (.bool (objB s.data.toList)) ∧ Below w.heap.size w w' := by
  unfold maxLen at hs
  have hsz := size_list s
  have hB1 : Below w.heap.size w (w.alloc (.cells #[.bool false] 4)) := (Below.refl _ _).alloc (Nat.le_refl _) _
  have bx := Boxed.new w 4 (.bool false)
  by_cases h1 : s.size < 1 ∨ 16 < s.size
  · have hr : objB s.data.toList = false := by
      unfold objB
      rw [hsz]
      rcases h1 with h | h
      · rw [decide_eq_false (show ¬ 1 ≤ s.size by omega)]; simp
      · rw [decide_eq_false (show ¬ s.size ≤ 16 by omega)]; simp
    rw [hr]
    have c1 := bx.cell
    have f1 := bx.frozen
    have c2 := (bx.set (.bool false)).cell
    have hB2 : Below w.heap.size w ((w.alloc (.cells #[.bool false] 4)).setCell ⟨w.heap.size, 0, none⟩ (.bool false)) := hB1.setCell (p := ⟨w.heap.size, 0, none⟩) (Nat.le_refl _) _
    clear hsz hr
    rcases h1 with h | h
    · have d1 : decide ((s.size : Int) < 1) = true := decide_eq_true (by omega)
      go_enter Tryz.func134, Tryz.ntmps134
      go_wp2
      exact bodyPost_ret (v := .bool false) (by simp [results, Tryz.f134, go_sem, c1]) rfl ⟨rfl, hB1⟩
    · have d1 : decide ((s.size : Int) < 1) = false := decide_eq_false (by omega)
      have d2 : decide ((16 : Int) < (s.size : Int)) = true := decide_eq_true (by omega)
      go_enter Tryz.func134, Tryz.ntmps134
      go_wp2
      exact bodyPost_ret (v := .bool false) (by simp [results, Tryz.f134, go_sem, c1]) rfl ⟨rfl, hB1⟩
  · have hr : objB s.data.toList = (pieces 47 s.data.toList).all goodP := by
      unfold objB
      rw [good_pieces (by omega), decide_eq_true (by omega), decide_eq_true (by omega), Bool.and_true, Bool.and_true]
    rw [hr]
    generalize hG : (pieces 47 s.data.toList).all goodP = G
    have hs16 : s.size ≤ 16 := by omega
    have d1 : decide ((s.size : Int) < 1) = false := decide_eq_false (by omega)
    have d2 : decide ((16 : Int) < (s.size : Int)) = false := decide_eq_false (by omega)
    have HS : Hid (s.size ≤ maxLen) := hs
    clear hr h1 hsz hs
    refine (callsIn_wide (n := 9)).1 ?_
    refine callsIn_of_wp_marks Tryz.func134 rfl trivial ?_ rfl
    simp only [Tryz.ntmps134, List.size_toArray, List.length_cons, List.length_nil, Nat.reduceAdd, Nat.reduceSub, Array.replicate_succ, Array.replicate_zero, List.push_toArray, List.append_toArray, List.nil_append, List.cons_append]
    have hsp := (callsIn_wide (n := 9 - 1)).2 (splitSeq_any s (w.alloc (.cells #[.bool false] 4)))
    simp only [World.size_alloc] at hsp
    gi_wp2_with (refine ⟨trivial, ?_⟩; gi_at_call 179; refine hsp.mono ?_; rintro e w' ⟨rfl, rfl⟩)
    clear hsp
    have hB4 : Below (w.heap.size + 1) (w.alloc (.cells #[.bool false] 4)) (splitW (w.alloc (.cells #[.bool false] 4)) s) := (((Below.refl _ _).alloc (by simp) _).alloc (by simp) _).alloc (by simp) _
    have hBW : Below w.heap.size w (splitW (w.alloc (.cells #[.bool false] 4)) s) := hB1.trans (hB4.mono (by omega))
    have q0 : Boxed (splitW (w.alloc (.cells #[.bool false] 4)) s) w.heap.size 4 (.bool false) := ((bx.alloc _).alloc _).alloc _
    have q1 : Boxed (splitW (w.alloc (.cells #[.bool false] 4)) s) (w.heap.size + 1) 9 (.string s) := by
      have := ((Boxed.new (w.alloc (.cells #[.bool false] 4)) 9 (.string s)).alloc (.cells #[.string ⟨#[47]⟩] 9)).alloc (.cells #[.int .i64 0] 3)
      simpa [splitW] using this
    have q2 : Boxed (splitW (w.alloc (.cells #[.bool false] 4)) s) (w.heap.size + 1 + 1) 9 (.string ⟨#[47]⟩) := by
      have := (Boxed.new ((w.alloc (.cells #[.bool false] 4)).alloc (.cells #[.string s] 9)) 9 (.string ⟨#[47]⟩)).alloc (.cells #[.int .i64 0] 3)
      simpa [splitW] using this
    have q3 : Boxed (splitW (w.alloc (.cells #[.bool false] 4)) s) (w.heap.size + 1 + 2) 3 (.int .i64 0) := by
      have := Boxed.new (((w.alloc (.cells #[.bool false] 4)).alloc (.cells #[.string s] 9)).alloc (.cells #[.string ⟨#[47]⟩] 9)) 3 (.int .i64 0)
      simpa [splitW] using this
    have hszW : (splitW (w.alloc (.cells #[.bool false] 4)) s).heap.size = w.heap.size + 4 := by simp [splitW]
    generalize splitW (w.alloc (.cells #[.bool false] 4)) s = W0 at hBW q0 q1 q2 q3 hszW ⊢
    clear hB4 hB1 bx
    have hput : ∀ W l o, (Boxed W w.heap.size 4 (.bool false) ∧ Below w.heap.size w W) → W0.heap.size ≤ l → Boxed (W.putObj l o) w.heap.size 4 (.bool false) ∧ Below w.heap.size w (W.putObj l o) := fun W l o h hl =>
      ⟨(World.putObj_heap_other (by omega)).trans h.1, h.2.trans ((Below.refl _ W).grown (grownBy_putObj' W l o) (h.2.size) (fun k e => by cases e; omega))⟩
    refine range_words s (w.heap.size + 1) (by omega) rfl q1 q2 q3 HS.out (by decide) (fun W => Boxed W w.heap.size 4 (.bool false) ∧ Below w.heap.size w W) (fun W => Boxed W w.heap.size 4 (.bool false) ∧ Below w.heap.size w W) hput hput
      (fun W o h => ⟨h.1.alloc o, h.2.alloc h.2.size o⟩) (fun W v h => ⟨(Below.heap_setCell W ⟨w.heap.size + 1, 0, none⟩ v _ (by show w.heap.size ≠ w.heap.size + 1; omega)).trans h.1, h.2.setCell (p := ⟨w.heap.size + 1, 0, none⟩) (by show w.heap.size ≤ w.heap.size + 1; omega) _⟩) ⟨q0, hBW⟩ ?a1 ?assign ?body ?done ?stop
    case assign =>
      intro l x W K hK
      gi_wp2
      exact hK
    case body =>
      rintro l x W hx ⟨hv, hB⟩
      have c1 := hv.cell
      have f1 := hv.frozen
      by_cases he : x.data.toList = []
      · have d3 : (x.toList == []) = true := by rw [ByteArray.toList_eq, he]; rfl
        have hgd : goodP x.data.toList = true := by rw [he]; rfl
        rw [hgd]
        clear he hx hgd
        gi_wp2
        refine ⟨trivial, ?_⟩
        gi_wp2
        exact ⟨rfl, rfl⟩
      · have d3 : (x.toList == []) = false := by rw [beq_eq_false_iff_ne, ByteArray.toList_eq]; exact he
        have hgd : goodP x.data.toList = wordB 16 x.data.toList := by
          unfold goodP
          cases hx2 : x.data.toList with
          | nil => exact absurd hx2 he
          | cons c r => rfl
        have hwd := CallsIn.inRound l ((callsIn_wide (n := 9 - 1 - 1 - 1)).2 (word_any x 16 W (Nat.le_trans hx HS.out) (by decide)))
        have HV : Hid (Boxed W w.heap.size 4 (.bool false)) := hv
        have HB : Hid (Below w.heap.size w W) := hB
        rw [hgd]
        clear hgd he hx hv hB
        cases hw : wordB 16 x.data.toList with
        | true =>
          rw [hw] at hwd
          clear hw
          gi_wp2_with (refine ⟨trivial, ?_⟩; gi_at_call 180; refine hwd.mono ?_; rintro e w' ⟨rfl, rfl⟩)
          exact ⟨rfl, rfl⟩
        | false =>
          rw [hw] at hwd
          clear hw
          gi_wp2_with (refine ⟨trivial, ?_⟩; gi_at_call 180; refine hwd.mono ?_; rintro e w' ⟨rfl, rfl⟩)
          exact ⟨rfl, ⟨HV.out.set _, HB.out.setCell (p := ⟨w.heap.size, 0, none⟩) (Nat.le_refl _) _⟩, KeepsOthers.setCell _ _ _⟩
    case done =>
      rintro W hall ⟨hv, hB⟩ hK
      have c1 := hv.cell
      have f1 := hv.frozen
      obtain rfl : G = true := hG.symm.trans hall
      have hK2 : (W.setCell ⟨w.heap.size, 0, none⟩ (.bool true)).heap[W0.heap.size]? = some (.deferred (some [])) := (Below.heap_setCell W ⟨w.heap.size, 0, none⟩ _ _ (by show W0.heap.size ≠ w.heap.size; omega)).trans hK
      have hv3 : Boxed ((W.setCell ⟨w.heap.size, 0, none⟩ (.bool true)).putObj W0.heap.size (.deferred none)) w.heap.size 4 (.bool true) := (World.putObj_heap_other (by omega)).trans (hv.set (.bool true))
      have hb3 : Below w.heap.size w ((W.setCell ⟨w.heap.size, 0, none⟩ (.bool true)).putObj W0.heap.size (.deferred none)) := by
        have h1 := hB.setCell (p := ⟨w.heap.size, 0, none⟩) (Nat.le_refl _) (.bool true)
        exact h1.trans ((Below.refl _ _).grown (grownBy_putObj' _ W0.heap.size (.deferred none)) h1.size (fun k e => by cases e; omega))
      have c3 := hv3.cell
      gi_wp2
      refine ⟨by simp, .inl ⟨_, _, rfl, run_takeDeferred hK2, ?_⟩⟩
      exact ⟨.bool true, by simp [results, Tryz.f134, go_sem, c3], rfl, hb3⟩
    case stop =>
      rintro W hall ⟨hv, hB⟩ hK
      have c1 := hv.cell
      obtain rfl : G = false := hG.symm.trans hall
      obtain ⟨hv2, hb2⟩ := hput _ W0.heap.size (.deferred none) ⟨hv, hB⟩ (Nat.le_refl _)
      have c3 := hv2.cell
      gi_wp2
      refine ⟨by simp, .inl ⟨_, _, rfl, run_takeDeferred hK, ?_⟩⟩
      exact ⟨.bool false, by simp [results, Tryz.f134, go_sem, c3], rfl, hb2⟩
end Go.Proofs.YtdhkdjlgmbejnaaGreatDoor
namespace Go.Proofs.YtdhkdjlgmbejnaaGreatDoor
open Go.RowKit Go.Extern.Stop Go.Stop Go.Extern

def EMw (w : World) : World → Prop := fun W => Below w.heap.size w W
end Go.Proofs.YtdhkdjlgmbejnaaGreatDoor
namespace Go.Proofs.YtdhkdjlgmbejnaaGreatDoor
open Go.RowKit Go.Extern.Stop Go.Stop Go.Extern Go.Sort Go.Shelf Go.Lib

structure EnvO (w : World) (a : Nat → Addr) : Prop where
  bound : w.cell? ⟨2, 0, none⟩ = some (.iface 327 (.pointer (some (a 1))))
  name : w.cell? ⟨6, 0, none⟩ = some (.iface 327 (.pointer (some (a 4))))
  miss : w.cell? ⟨7, 0, none⟩ = some (.iface 327 (.pointer (some (a 5))))
  exist : w.cell? ⟨8, 0, none⟩ = some (.iface 327 (.pointer (some (a 6))))
  full : w.cell? ⟨1, 0, none⟩ = some (.iface 327 (.pointer (some (a 7))))
  off : w.cell? ⟨11, 0, none⟩ = some (.iface 327 (.pointer (some (a 11))))
theorem EnvO.below {w w' : World} {a : Nat → Addr} (h : EnvO w a) (hb : Below w.heap.size w w') : EnvO w' a where
  bound := below_keep hb h.bound
  name := below_keep hb h.name
  miss := below_keep hb h.miss
  exist := below_keep hb h.exist
  full := below_keep hb h.full
  off := below_keep hb h.off

set_option maxRecDepth 100000 in
theorem snew_any (w : World) : Calls Tryz.prog 31 #[] w fun e w' => e = .returned (.pointer (some ⟨w.heap.size, 0, none⟩)) ∧ SIn w' w.heap.size none (fun _ => 0) newS ∧ Below w.heap.size w w' := by
  have hal : Below w.heap.size w (w.alloc (.cells #[.map none, .string ⟨#[]⟩, .int .i64 0, .bool false, .bool false, .int .i64 0] 127)) := (Below.refl _ _).alloc (Nat.le_refl _) _
  have HM : Hid (SIn (w.alloc (.cells #[.map none, .string ⟨#[]⟩, .int .i64 0, .bool false, .bool false, .int .i64 0] 127)) w.heap.size none (fun _ => 0) newS) := ⟨heap_alloc_new _ _, Or.inl ⟨rfl, rfl⟩, fun _ h => (nomatch h), List.Pairwise.nil, by decide⟩
  go_enter Tryz.func31, Tryz.ntmps31
  go_wp2
  go_ret
  exact ⟨rfl, HM.out, hal⟩

section
variable {w : World} {b : Nat} {mo : Option Nat} {hd : ByteArray} {d : Int} {off waits : Bool} {left : Int}
def powW (w : World) (b : Nat) (x y : Bool) (z : Int) : World := ((w.setCell ⟨b, 3, none⟩ (.bool x)).setCell ⟨b, 4, none⟩ (.bool y)).setCell ⟨b, 5, none⟩ (.int .i64 z)
theorem SC.pow (h : SC w b mo hd d off waits left) (x y : Bool) (z : Int) : SC (powW w b x y z) b mo hd d x y z := by
  have h1 : SC (w.setCell ⟨b, 3, none⟩ (.bool x)) b mo hd d x waits left := by
    unfold SC at *
    rw [heap_setCell_same _ _ _ _ _ _ h]; rfl
  have h2 : SC ((w.setCell ⟨b, 3, none⟩ (.bool x)).setCell ⟨b, 4, none⟩ (.bool y)) b mo hd d x y left := by
    unfold SC at *
    rw [heap_setCell_same _ _ _ _ _ _ h1]; rfl
  unfold powW
  unfold SC at *
  rw [heap_setCell_same _ _ _ _ _ _ h2]; rfl
theorem powW_but (w : World) (b : Nat) (x y : Bool) (z : Int) : But (fun k => k = b) w (powW w b x y z) := (((But.refl (fun k => k = b) w).setCell (Or.inl rfl) _).setCell (Or.inl rfl) _).setCell (Or.inl rfl) _
theorem SC.objs (h : SC w b mo hd d off waits left) (mo' : Option Nat) : SC (w.setCell ⟨b, 0, none⟩ (.map mo')) b mo' hd d off waits left := by
  unfold SC at *
  rw [heap_setCell_same _ _ _ _ _ _ h]; rfl
theorem set_but (w : World) (b o : Nat) (v : Value) : But (fun k => k = b) w (w.setCell ⟨b, o, none⟩ v) := (But.refl (fun k => k = b) w).setCell (Or.inl rfl) _

end
end Go.Proofs.YtdhkdjlgmbejnaaGreatDoor
