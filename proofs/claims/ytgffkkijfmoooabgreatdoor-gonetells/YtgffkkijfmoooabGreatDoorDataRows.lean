/-
  The contract of data.readHead: the four numbers of a head's line.
  The contracts of data.eachLine and data.ReadLines, for any kind of file: the lines of a body, one behind the other, each handed to the function that takes it.
  The contract of data.ReadLines, for any kind of file: what a text is.
  The contract of the function that data.Read hands over: one row more.
-/
import Derived.Test.YtgffkkijfmoooabGreatDoorDataMake
import Derived.Maps.AppendAt
import Derived.Deep.Onto
namespace Go.Proofs.YtgffkkijfmoooabGreatDoor
open Go.RowKit Go.Extern.Stop Go.Stop Go.Extern Go.Sort Go.Shelf Go.Lib

theorem headO_five {Kw l k A B C D : List UInt8} (h : words l = [k, A, B, C, D]) : headO Kw l = if k = Kw then (match numO A, numO B, numO C, numO D with
    | some a, some b, some c, some d => some (a, b, c, d)
    | _, _, _, _ => none) else none := by
  unfold headO; rw [h]; rfl
theorem headO_other {Kw l : List UInt8} (h : (words l).length ≠ 5) : headO Kw l = none := by
  unfold headO
  split
  · rename_i e; rw [e] at h; simp at h
  · rfl

theorem five_of {α : Type} {ts : List α} (h : ts.length = 5) : ∃ a b c d e, ts = [a, b, c, d, e] := by
  match ts, h with
  | [a, b, c, d, e], _ => exact ⟨a, b, c, d, e, rfl⟩

theorem eqBB {s t : ByteArray} (h : s.data.toList = t.data.toList) : (s.toList == t.toList) = true := by
  rw [ByteArray.toList_eq, ByteArray.toList_eq]; simpa using h
theorem neBB {s t : ByteArray} (h : s.data.toList ≠ t.data.toList) : (s.toList == t.toList) = false := by
  rw [ByteArray.toList_eq, ByteArray.toList_eq]; simpa using h

/-- What readHead hands back. -/
def headR (K l : List UInt8) : (Int × Int × Int) × Int × Bool := match headO K l with
  | some (n, lo, hi, sum) => ((n, lo, hi), sum, true)
  | none => ((0, 0, 0), 0, false)

set_option maxRecDepth 100000 in
set_option maxHeartbeats 4000000 in
theorem readHead_any (kb s : ByteArray) (w : World) (a : Nat → Addr) (h : Env0 w a) (hs : s.size ≤ 100000) :
    Calls Tryz.prog 121 #[.string kb, .string s] w fun e w' => e = .returned (.tuple #[.agg #[.int .i64 (headR kb.data.toList s.data.toList).1.1, .int .i64 (headR kb.data.toList s.data.toList).1.2.1, .int .i64 (headR kb.data.toList s.data.toList).1.2.2], .int .i64 (headR kb.data.toList s.data.toList).2.1, .bool (headR kb.data.toList s.data.toList).2.2]) ∧ Below w.heap.size w w' := by
  have hal : Below w.heap.size w (w.alloc (.cells #[.int .i64 0, .int .i64 0, .int .i64 0] 154)) := (Below.refl _ _).alloc (Nat.le_refl _) _
  have hsp := splitTx_any s _ a (h.below hal) (by omega)
  have hblk := heap_alloc_new w (.cells #[.int .i64 0, .int .i64 0, .int .i64 0] 154)
  have hwl := words_len s.data.toList
  go_enter Tryz.func121, Tryz.ntmps121
  go_wp2_with fail
  generalize hWA : w.alloc (.cells #[.int .i64 0, .int .i64 0, .int .i64 0] 154) = WA at hal hsp hblk ⊢
  refine hsp.mono ?_
  rintro e w1 ⟨v1, ts, rfl, hts, htm, hb1⟩
  clear hsp
  have hB1 : Below w.heap.size w w1 := hal.trans (hb1.mono hal.size)
  have hblk1 : w1.heap[w.heap.size]? = some (.cells #[.int .i64 0, .int .i64 0, .int .i64 0] 154 (0, 0)) := (hb1.block _ (lt_of_block hblk)).trans hblk
  clear hblk hb1 hal hWA
  have bad : ∀ W : World, Below w.heap.size w W → W.heap[w.heap.size]? = some (.cells #[.int .i64 0, .int .i64 0, .int .i64 0] 154 (0, 0)) → (W.cell? ⟨w.heap.size, 0, none⟩ = some (.int .i64 0) ∧ W.cell? ⟨w.heap.size, 1, none⟩ = some (.int .i64 0) ∧ W.cell? ⟨w.heap.size, 2, none⟩ = some (.int .i64 0) ∧ ∀ o, W.frozen? ⟨w.heap.size, o, none⟩ = false) := fun W _ hW =>
    ⟨by rw [cell_of_row _ _ _ _ _ _ hW]; rfl, by rw [cell_of_row _ _ _ _ _ _ hW]; rfl, by rw [cell_of_row _ _ _ _ _ _ hW]; rfl, fun o => frozen_of_row _ _ _ _ _ hW⟩
  have BAD : Hid (∀ W : World, Below w.heap.size w W → W.heap[w.heap.size]? = some (.cells #[.int .i64 0, .int .i64 0, .int .i64 0] 154 (0, 0)) → (W.cell? ⟨w.heap.size, 0, none⟩ = some (.int .i64 0) ∧ W.cell? ⟨w.heap.size, 1, none⟩ = some (.int .i64 0) ∧ W.cell? ⟨w.heap.size, 2, none⟩ = some (.int .i64 0) ∧ ∀ o, W.frozen? ⟨w.heap.size, o, none⟩ = false)) := bad
  have HBLK : Hid (w1.heap[w.heap.size]? = some (.cells #[.int .i64 0, .int .i64 0, .int .i64 0] 154 (0, 0))) := hblk1
  clear bad hblk1
  by_cases h5 : ts.length = 5
  · obtain ⟨K, A, B, C, D, rfl⟩ := five_of h5
    have hw : words s.data.toList = [K.data.toList, A.data.toList, B.data.toList, C.data.toList, D.data.toList] := by rw [← htm]; rfl
    have hf := headO_five (Kw := kb.data.toList) hw
    have hwz : ∀ t ∈ [K, A, B, C, D], t.size ≤ maxLen := fun t ht => by
      have := hwl t.data.toList (by rw [← htm]; exact List.mem_map.2 ⟨t, ht, rfl⟩)
      rw [size_list, size_list] at this
      unfold maxLen; omega
    have HF : Hid (headO kb.data.toList s.data.toList = if K.data.toList = kb.data.toList then (match numO A.data.toList, numO B.data.toList, numO C.data.toList, numO D.data.toList with
      | some a, some b, some c, some d => some (a, b, c, d)
      | _, _, _, _ => none) else none) := hf
    obtain ⟨b, rfl, hcell⟩ := hts
    have c0 := hcell 0 (by simp)
    simp only [List.getElem_cons_zero] at c0
    have HCELL : Hid (∀ j (h : j < [K, A, B, C, D].length), w1.cell? ⟨b, j, none⟩ = some (.string [K, A, B, C, D][j])) := hcell
    clear hf hw htm hwl hcell h5
    simp only [List.length_cons, List.length_nil, Nat.zero_add, Nat.reduceAdd]
    by_cases hk : K.data.toList = kb.data.toList
    · have hkb := eqBB hk
      have hnm := numbers_any b 1 4 [A, B, C, D] w1 a (h.below hB1) (fun j hj => by
        have hj' : j + 1 < [K, A, B, C, D].length := by simp at hj ⊢; omega
        have := HCELL.out (j + 1) hj'
        rw [Nat.add_comm 1 j]
        simpa using this) (fun t ht => hwz t (List.mem_cons_of_mem _ ht)) (by simp)
      simp only [List.length_cons, List.length_nil, Nat.zero_add, Nat.reduceAdd] at hnm
      go_wp2_with fail
      refine hnm.mono ?_
      rintro e w3 ⟨hres, hb3⟩
      clear hnm c0
      have hB3 : Below w.heap.size w w3 := hB1.trans (hb3.mono hB1.size)
      obtain ⟨y0, y1, y2, fz⟩ := BAD.out w3 hB3 ((hb3.block _ (lt_of_block HBLK.out)).trans HBLK.out)
      have s0 := setCell_self y0
      have s1 := setCell_self y1
      have s2 := setCell_self y2
      rcases hres with ⟨zs, g, hzl, hzn, rfl, hzc⟩ | ⟨j, t, ht, hno, rfl⟩
      · obtain ⟨z0, z1, z2, z3, hz4⟩ : ∃ z0 z1 z2 z3, zs = [z0, z1, z2, z3] := by
          match zs, hzl with
          | [z0, z1, z2, z3], _ => exact ⟨z0, z1, z2, z3, rfl⟩
        subst hz4
        have HSOME : Hid (headO kb.data.toList s.data.toList = some (z0, z1, z2, z3)) := by
          show _ = _
          have q0 := hzn 0 A rfl
          have q1 := hzn 1 B rfl
          have q2 := hzn 2 C rfl
          have q3 := hzn 3 D rfl
          rw [HF.out, if_pos hk, q0, q1, q2, q3]
          rfl
        have k0 := hzc 0 (by simp)
        have k1 := hzc 1 (by simp)
        have k2 := hzc 2 (by simp)
        have k3 := hzc 3 (by simp)
        simp only [List.getElem_cons_succ, List.getElem_cons_zero] at k0 k1 k2 k3
        have hgw : g ≠ w.heap.size := by
          intro e
          subst e
          have := y0.symm.trans k0
          have e1 := k3
          rw [cell_of_row _ _ _ _ _ _ ((hb3.block _ (lt_of_block HBLK.out)).trans HBLK.out)] at e1
          simp at e1
        have hne1 : ¬ g = w.heap.size := hgw
        have hne2 : ¬ w.heap.size = g := fun e => hgw e.symm
        clear hzn hzc hzl hgw s0 s1 s2
        simp only [List.length_cons, List.length_nil, Nat.zero_add, Nat.reduceAdd]
        go_wp2
        go_region
        go_wp2
        refine bodyPost_ret (v := .tuple #[.agg #[.int .i64 z0, .int .i64 z1, .int .i64 z2], .int .i64 z3, .bool true]) (by simp [results, Tryz.results121, go_sem, y0, y1, y2]) rfl ⟨by unfold headR; rw [HSOME.out], ?_⟩
        exact (((hB3.setCell (by simp) _).setCell (by simp) _).setCell (by simp) _).drew
      · have HNONE : Hid (headO kb.data.toList s.data.toList = none) := by
          show _ = _
          rw [HF.out, if_pos hk]
          match j, ht with
          | 0, ht => rw [Option.some.inj ht, hno]
          | 1, ht => rw [Option.some.inj ht, hno]; split <;> simp_all
          | 2, ht => rw [Option.some.inj ht, hno]; split <;> simp_all
          | 3, ht => rw [Option.some.inj ht, hno]; split <;> simp_all
        clear ht hno
        go_wp2
        exact bodyPost_ret (v := .tuple #[.agg #[.int .i64 0, .int .i64 0, .int .i64 0], .int .i64 0, .bool false]) (by simp [results, Tryz.results121, go_sem, y0, y1, y2]) rfl ⟨by unfold headR; rw [HNONE.out], hB3⟩
    · have hkb := neBB hk
      have HNONE : Hid (headO kb.data.toList s.data.toList = none) := by
        show _ = _
        rw [HF.out, if_neg hk]
      obtain ⟨y0, y1, y2, fz⟩ := BAD.out w1 hB1 HBLK.out
      have s0 := setCell_self y0
      have s1 := setCell_self y1
      have s2 := setCell_self y2
      go_wp2
      exact bodyPost_ret (v := .tuple #[.agg #[.int .i64 0, .int .i64 0, .int .i64 0], .int .i64 0, .bool false]) (by simp [results, Tryz.results121, go_sem, y0, y1, y2]) rfl ⟨by unfold headR; rw [HNONE.out], hB1⟩
  · have HNONE : Hid (headO kb.data.toList s.data.toList = none) := headO_other (fun e => h5 (by rw [← e, ← htm, List.length_map]))
    have hne : ¬ (ts.length : Int) = 5 := by omega
    obtain ⟨b, rfl, _⟩ := hts
    obtain ⟨y0, y1, y2, fz⟩ := BAD.out w1 hB1 HBLK.out
    have s0 := setCell_self y0
    have s1 := setCell_self y1
    have s2 := setCell_self y2
    clear htm hwl h5
    go_wp2
    exact bodyPost_ret (v := .tuple #[.agg #[.int .i64 0, .int .i64 0, .int .i64 0], .int .i64 0, .bool false]) (by simp [results, Tryz.results121, go_sem, y0, y1, y2]) rfl ⟨by unfold headR; rw [HNONE.out], hB1⟩
end Go.Proofs.YtgffkkijfmoooabGreatDoor
namespace Go.Proofs.YtgffkkijfmoooabGreatDoor
open Go.RowKit Go.Extern.Stop Go.Stop Go.Extern Go.Sort Go.Shelf Go.Lib

def strLen : Value → Nat
  | .string s => s.size
  | _ => 0

/-- What is wrong with one line more (0: nothing). -/
def stepE {β : Type} (k : FK β) (acc : List β) (l : List UInt8) : Nat := if (k.rd l).2 ≠ 0 then (k.rd l).2 else if acc ≠ [] ∧ k.bad (k.rd l).1 (acc.getLastD k.d) = true then 9 else 0

theorem rowsG_step {β : Type} (k : FK β) (l : List UInt8) (r : List (List UInt8)) (hr : r ≠ []) (at_ : Nat) (acc : List β) : rowsG k (l :: r) at_ acc = if stepE k acc l ≠ 0 then ([], stepE k acc l, at_) else rowsG k r (at_ + 1) (acc ++ [(k.rd l).1]) := by
  obtain ⟨l2, r2, rfl⟩ := List.exists_cons_of_ne_nil hr
  rw [rowsG_cons]
  unfold stepE
  by_cases h1 : (k.rd l).2 ≠ 0
  · simp only [if_pos h1]
  · simp only [if_neg h1]
    by_cases h2 : acc ≠ [] ∧ k.bad (k.rd l).1 (acc.getLastD k.d) = true
    · simp only [if_pos h2]; rfl
    · simp only [if_neg h2]; rfl

/-- What is asked of the function that takes the lines: it turns nothing but what is its own; the blocks from P to Q are not. -/
structure Taker {β : Type} (k : FK β) (a : Nat → Addr) (En : World → Prop) (F bl B P Q : Nat) (Inv : World → List β → Prop) : Prop where
  env : ∀ {W : World}, En W → EnvD0 W a
  ent : ∀ args w, (callFunc F args).run Tryz.prog w = .ok (.enter F args) w
  low : B ≤ P
  keep : ∀ {W W' : World} {acc : List β}, Inv W acc → Below W.heap.size W W' → Inv W' acc
  set : ∀ {W : World} {acc : List β} (j o : Nat) (u : Value), P ≤ j → j < Q → Inv W acc → Inv (W.setCell ⟨j, o, none⟩ u) acc
  take : ∀ (W : World) (line : ByteArray) (acc : List β), En W → Inv W acc → Q ≤ W.heap.size → line.size ≤ 100000 → acc.length ≤ 100000 →
    Calls Tryz.prog F #[.string line, .pointer (some ⟨bl, 0, none⟩)] W fun e w' => Below B W w' ∧ (∀ j, P ≤ j → j < Q → w'.heap[j]? = W.heap[j]?) ∧
      ((stepE k acc line.data.toList ≠ 0 ∧ e = .returned (.tuple #[.int .i64 0, errV a (stepE k acc line.data.toList)]) ∧ Inv w' acc) ∨
       (stepE k acc line.data.toList = 0 ∧ e = .returned (.tuple #[.int .i64 (k.key (k.rd line.data.toList).1), .nilIface]) ∧ Inv w' (acc ++ [(k.rd line.data.toList).1])))

/-- The box of the function that takes lines. -/
def FunAt (W : World) (t F bl : Nat) : Prop := W.heap[t]? = some (.cells #[.func (.func F) #[] #[.pointer (some ⟨bl, 0, none⟩)]] 112 (0, 0))

theorem FunAt.cell {W : World} {t F bl : Nat} (h : FunAt W t F bl) : W.cell? ⟨t, 0, none⟩ = some (.func (.func F) #[] #[.pointer (some ⟨bl, 0, none⟩)]) := cell_of_one h
theorem FunAt.below {W W' : World} {t F bl : Nat} (h : FunAt W t F bl) (hb : Below W.heap.size W W') : FunAt W' t F bl := by
  unfold FunAt at *
  exact (hb.block t (lt_of_block h)).trans h

set_option maxRecDepth 100000 in
set_option maxHeartbeats 2000000 in
theorem line1_any {β : Type} {k : FK β} {a : Nat → Addr} {En : World → Prop} {F bl B P Q : Nat} {Inv : World → List β → Prop} (T : Taker k a En F bl B P Q Inv) (t g : Nat) (line : ByteArray) (acc : List β) (W : World) (hE : En W) (hI : Inv W acc) (hQ : Q ≤ W.heap.size) (hF : FunAt W t F bl) (hH : HeadAt W g acc.length (endsZ (keysG k acc))) (ht : P ≤ t ∧ t < Q) (hg : P ≤ g ∧ g < Q) (htg : t ≠ g) (hs : line.size ≤ 100000) (hl : acc.length ≤ 100000) :
    Calls Tryz.prog 122 #[.string line, .pointer (some ⟨t, 0, none⟩), .pointer (some ⟨g, 0, none⟩)] W fun e w' => Below B W w' ∧ FunAt w' t F bl ∧ (∀ j, P ≤ j → j < Q → j ≠ g → w'.heap[j]? = W.heap[j]?) ∧
      ((stepE k acc line.data.toList ≠ 0 ∧ e = .returned (errV a (stepE k acc line.data.toList))) ∨
       (stepE k acc line.data.toList = 0 ∧ e = .returned .nilIface ∧ Inv w' (acc ++ [(k.rd line.data.toList).1]) ∧ HeadAt w' g (acc.length + 1) (endsZ (keysG k (acc ++ [(k.rd line.data.toList).1]))))) := by
  have eg := T.ent
  have htk := T.take W line acc hE hI hQ hs hl
  have hc := hF.cell
  have hBg : B ≤ g := Nat.le_trans T.low hg.1
  have HFA : Hid (FunAt W t F bl) := hF
  have HHA : Hid (HeadAt W g acc.length (endsZ (keysG k acc))) := hH
  have HKE : Hid (endsZ (keysG k (acc ++ [(k.rd line.data.toList).1])) = endsP acc.length (endsZ (keysG k acc)) (k.key (k.rd line.data.toList).1)) := by
    show _ = _
    have := ends_more (keysG k acc) (k.key (k.rd line.data.toList).1)
    rw [show (keysG k acc).length = acc.length by simp [keysG]] at this
    rw [← this]
    simp [keysG]
  have HT : Hid (Taker k a En F bl B P Q Inv) := T
  clear hF hH hI T
  obtain ⟨E, hEE⟩ : ∃ E, stepE k acc line.data.toList = E := ⟨_, rfl⟩
  rw [hEE] at htk
  simp only [hEE]
  clear hEE
  obtain ⟨x, hx⟩ : ∃ x, (k.rd line.data.toList).1 = x := ⟨_, rfl⟩
  rw [hx] at htk HKE
  simp only [hx]
  clear hx
  by_cases hE0 : E = 0
  · subst hE0
    have htk2 : Calls Tryz.prog F #[.string line, .pointer (some ⟨bl, 0, none⟩)] W fun e w' => e = .returned (.tuple #[.int .i64 (k.key x), .nilIface]) ∧ Below B W w' ∧ (∀ j, P ≤ j → j < Q → w'.heap[j]? = W.heap[j]?) ∧ Inv w' (acc ++ [x]) := htk.mono fun e w' ⟨h1, h2, h3⟩ => by
      rcases h3 with ⟨h, _⟩ | ⟨_, h, h'⟩
      · exact absurd rfl h
      · exact ⟨h, h1, h2, h'⟩
    clear htk
    generalize k.key x = key at htk2 HKE
    go_enter Tryz.func122, Tryz.ntmps122
    go_wp2_with (go_at_fn F; refine htk2.mono ?_; rintro e w1 ⟨rfl, hb1, hfr, hI1⟩)
    clear htk2
    have hFA1 : FunAt w1 t F bl := by have := HFA.out; unfold FunAt at *; rw [hfr t ht.1 ht.2]; exact this
    have hHA1 : HeadAt w1 g acc.length (endsZ (keysG k acc)) := by have := HHA.out; unfold HeadAt at *; rw [hfr g hg.1 hg.2]; exact this
    have HFR : Hid (∀ j, P ≤ j → j < Q → w1.heap[j]? = W.heap[j]?) := hfr
    have HF1 : Hid (FunAt w1 t F bl) := hFA1
    have hct := count_any g acc.length (endsZ (keysG k acc)) key w1 hHA1 hl
    have HI1 : Hid (Inv w1 (acc ++ [x])) := hI1
    have HH1 : Hid (HeadAt w1 g acc.length (endsZ (keysG k acc))) := hHA1
    clear hfr hFA1 hc hHA1 hI1
    refine hct.mono ?_
    rintro e w2 ⟨rfl, rfl⟩
    clear hct
    go_wp2
    go_ret
    refine ⟨headW_below hb1 hBg, ?_, fun j h1 h2 h3 => ?_, Or.inr ⟨by first | rfl | trivial, rfl, ?_, ?_⟩⟩
    · have := HF1.out
      unfold FunAt at *
      rw [headW_other _ _ _ _ _ htg]; exact this
    · rw [headW_other _ _ _ _ _ h3]; exact HFR.out j h1 h2
    · exact HT.out.set g 0 _ hg.1 hg.2 (HT.out.set g 2 _ hg.1 hg.2 (HT.out.set g 1 _ hg.1 hg.2 HI1.out))
    · rw [HKE.out]; exact headW_at HH1.out
  · obtain ⟨E', hE'⟩ : ∃ E', E = E' + 1 := ⟨E - 1, by omega⟩
    subst hE'
    have htk2 : Calls Tryz.prog F #[.string line, .pointer (some ⟨bl, 0, none⟩)] W fun e w' => e = .returned (.tuple #[.int .i64 0, .iface 273 (.pointer (some (a E')))]) ∧ Below B W w' ∧ (∀ j, P ≤ j → j < Q → w'.heap[j]? = W.heap[j]?) := htk.mono fun e w' ⟨h1, h2, h3⟩ => by
      rcases h3 with ⟨_, h, _⟩ | ⟨h, _⟩
      · exact ⟨h, h1, h2⟩
      · exact absurd h hE0
    clear htk
    simp only [errV]
    go_enter Tryz.func122, Tryz.ntmps122
    go_wp2_with (go_at_fn F; refine htk2.mono ?_; rintro e w1 ⟨rfl, hb1, hfr⟩)
    clear htk2
    have hFA1 : FunAt w1 t F bl := by have := HFA.out; unfold FunAt at *; rw [hfr t ht.1 ht.2]; exact this
    go_ret
    exact ⟨hb1, hFA1, fun j h1 h2 _ => hfr j h1 h2, Or.inl ⟨hE0, rfl⟩⟩

/-- What eachLine hands back. -/
def LinesPost {β : Type} (k : FK β) (W : World) (a : Nat → Addr) (B P Q g : Nat) (Inv : World → List β → Prop) (R : List β × Nat × Nat) (e : Ending) (w' : World) : Prop :=
  Below B W w' ∧ (∀ j, P ≤ j → j < Q → j ≠ g → w'.heap[j]? = W.heap[j]?) ∧ ((R.2.1 = 0 ∧ e = .returned .nilIface ∧ Inv w' R.1 ∧ HeadAt w' g R.1.length (endsZ (keysG k R.1))) ∨
    (R.2.1 ≠ 0 ∧ ∃ fb, e = .returned (.iface 92 (.pointer (some ⟨fb, 0, none⟩))) ∧ w'.cell? ⟨fb, 0, none⟩ = some (.int .i64 R.2.2) ∧ w'.cell? ⟨fb, 1, none⟩ = some (errV a R.2.1)))

theorem frame_below {B W w w' P Q g} (_ : Below B W w) (h : ∀ j, P ≤ j → j < Q → j ≠ g → w.heap[j]? = W.heap[j]?) (hQ : Q ≤ w.heap.size) (hb : Below w.heap.size w w') : ∀ j, P ≤ j → j < Q → j ≠ g → w'.heap[j]? = W.heap[j]? :=
  fun j h1 h2 h3 => (hb.block j (Nat.lt_of_lt_of_le h2 hQ)).trans (h j h1 h2 h3)

set_option maxRecDepth 100000 in
set_option maxHeartbeats 8000000 in
theorem eachLine_any {β : Type} {k : FK β} {a : Nat → Addr} {En : World → Prop} {F bl B P Q : Nat} {Inv : World → List β → Prop} (T : Taker k a En F bl B P Q Inv) (t g : Nat) (body : ByteArray) (W : World) (hlowE : ∀ W', Below B W W' → En W') (hI : Inv W []) (hQ : Q ≤ W.heap.size) (hBW : B ≤ W.heap.size) (hF : FunAt W t F bl) (hH : HeadAt W g 0 (0, 0)) (ht : P ≤ t ∧ t < Q) (hg : P ≤ g ∧ g < Q) (htg : t ≠ g) (hs : body.size ≤ 20000) :
    Calls Tryz.prog 106 #[.string body, .func (.func 122) #[] #[.pointer (some ⟨t, 0, none⟩), .pointer (some ⟨g, 0, none⟩)]] W fun e w' => LinesPost k W a B P Q g Inv (rowsG k (pieces 10 body.data.toList) 0 []) e w' := by
  have eg : ∀ args w, (callFunc 122 args).run Tryz.prog w = .ok (.enter 122 args) w := enters_of Tryz.func122 (by kernel_rfl) rfl
  obtain ⟨R, hR⟩ : ∃ R, rowsG k (pieces 10 body.data.toList) 0 [] = R := ⟨_, rfl⟩
  rw [hR]
  have HR : Hid (rowsG k (pieces 10 body.data.toList) 0 [] = R) := hR
  clear hR
  have HT : Hid (Taker k a En F bl B P Q Inv) := T
  have hHn : HeadAt W g ([] : List β).length (endsZ (keysG k [])) := hH
  clear T hH
  go_enter Tryz.func106, Tryz.ntmps106
  go_wp2
  go_loopw [0, 5] (fun sv n wr => ∃ (rest : ByteArray) (acc : List β), sv = .string rest ∧ n = .int .i64 acc.length ∧ rest.size + acc.length ≤ 20000 ∧ Below B W wr ∧ (∀ j, P ≤ j → j < Q → j ≠ g → wr.heap[j]? = W.heap[j]?) ∧ Inv wr acc ∧ FunAt wr t F bl ∧ HeadAt wr g acc.length (endsZ (keysG k acc)) ∧ rowsG k (pieces 10 rest.data.toList) acc.length acc = R) (fun sv _ _ => strLen sv)
  case atStart => exact ⟨body, [], rfl, rfl, by simpa using hs, Below.refl _ _, fun _ _ _ _ => rfl, hI, hF, hHn, HR.out⟩
  case round =>
    clear hI hF hHn
    obtain ⟨rest, acc, rfl, rfl, hsz, hb, hfr, hIr, hFr, hHr, hrec⟩ := hrel
    have HREC : Hid (rowsG k (pieces 10 rest.data.toList) acc.length acc = R) := hrec
    have HFR : Hid (∀ j, P ≤ j → j < Q → j ≠ g → wr.heap[j]? = W.heap[j]?) := hfr
    clear hrec HR hfr
    have hEr := hlowE wr hb
    have hQr : Q ≤ wr.heap.size := Nat.le_trans hQ hb.size
    have hBr : B ≤ wr.heap.size := Nat.le_trans hBW hb.size
    obtain ⟨n, hn⟩ : ∃ n, acc.length = n := ⟨_, rfl⟩
    have HN : Hid (acc.length = n) := hn
    rw [hn] at hsz
    simp only [hn]
    clear hn
    by_cases he : rest.size = 0
    · have hre : rest.data.toList = [] := List.length_eq_zero_iff.1 (by rw [size_list]; exact he)
      have hbe : (rest.toList == []) = true := eqB_of hre
      have HRE : Hid (R = (acc, 0, 0)) := by
        show _ = _
        rw [← HREC.out, hre]; rfl
      have HIr : Hid (Inv wr acc ∧ HeadAt wr g acc.length (endsZ (keysG k acc))) := ⟨hIr, hHr⟩
      clear hre hIr hHr hFr
      go_wp2
      go_ret
      refine ⟨hb, HFR.out, Or.inl ⟨by rw [HRE.out], rfl, ?_, ?_⟩⟩
      · rw [HRE.out]; exact HIr.out.1
      · rw [HRE.out]; exact HIr.out.2
    · have hne : rest.data.toList ≠ [] := fun e => he (by rw [← size_list, e]; rfl)
      have hbe : (rest.toList == []) = false := neB_of hne
      obtain ⟨mx, hmx⟩ := (HT.out.env hEr).env.maxl
      have hcut := Tryz.strings_Cut rest ⟨#[10]⟩ mx wr (by omega) hmx
      dsimp only at hcut
      rcases cut_cases 10 rest.data.toList with ⟨hno, hc⟩ | ⟨la, lb, hl, hno, hc⟩
      · rw [hc] at hcut
        dsimp only at hcut
        have HRE : Hid (R = ([], 1, n)) := by
          show _ = _
          rw [← HREC.out, pieces_none 10 _ hno, rowsG_one, if_neg hne, HN.out]
        clear hc hno hne hIr hHr hFr
        generalize (⟨rest.data.toList.toArray⟩ : ByteArray) = fB at hcut
        go_wp2_with fail
        refine hcut.mono ?_
        rintro e w1 ⟨rfl, q, rfl⟩
        clear hcut
        have hbq : Below wr.heap.size wr (wr.drewN q) := below_drewN (Below.refl _ _) q
        have hb1 : Below B W (wr.drewN q) := hb.trans (hbq.mono hBr)
        have HF1 : Hid (∀ j, P ≤ j → j < Q → j ≠ g → (wr.drewN q).heap[j]? = W.heap[j]?) := frame_below hb HFR.out hQr hbq
        have ht := (HT.out.env (hlowE _ hb1)).env.text
        have hQ1 : Q ≤ (wr.drewN q).heap.size := Nat.le_trans hQ hb1.size
        clear hEr hmx hbq
        generalize wr.drewN q = W1 at hb1 ht HF1 hQ1 ⊢
        have hal : Below W1.heap.size W1 (W1.alloc (.cells #[.int .i64 n, .iface 273 (.pointer (some (a 0)))] 94)) := (Below.refl _ _).alloc (Nat.le_refl _) _
        have hb2 : Below B W (W1.alloc (.cells #[.int .i64 n, .iface 273 (.pointer (some (a 0)))] 94)) := hb1.trans (hal.mono (Nat.le_trans hBW hb1.size))
        have HF2 : Hid (∀ j, P ≤ j → j < Q → j ≠ g → (W1.alloc (.cells #[.int .i64 n, .iface 273 (.pointer (some (a 0)))] 94)).heap[j]? = W.heap[j]?) := frame_below hb1 HF1.out hQ1 hal
        go_wp2
        go_ret
        exact ⟨hb2, HF2.out, Or.inr ⟨by rw [HRE.out]; exact Nat.one_ne_zero, W1.heap.size, rfl, by rw [HRE.out]; simp, by rw [HRE.out]; simp [errV]⟩⟩
      · rw [hc] at hcut
        dsimp only at hcut
        have hlen : la.length + lb.length + 1 = rest.size := by rw [← size_list, hl]; simp; omega
        have hrw : R = if stepE k acc la ≠ 0 then ([], stepE k acc la, n) else rowsG k (pieces 10 lb) (n + 1) (acc ++ [(k.rd la).1]) := by
          rw [← HREC.out, hl, pieces_append 10 la lb hno, rowsG_step k la _ (pieces_ne 10 lb), HN.out]
        have eA : (⟨la.toArray⟩ : ByteArray) = bytesOf la := rfl
        have eB : (⟨lb.toArray⟩ : ByteArray) = bytesOf lb := rfl
        rw [eA, eB] at hcut
        have eAd : (bytesOf la).data.toList = la := by simp [bytesOf]
        have eBd : (bytesOf lb).data.toList = lb := by simp [bytesOf]
        have hsA : (bytesOf la).size ≤ 100000 := by rw [bytes_len]; omega
        have hszB : (bytesOf lb).size + n + 1 ≤ 20000 ∧ (bytesOf lb).size < rest.size := by rw [bytes_len]; omega
        have hacl : acc.length ≤ 100000 := by rw [HN.out]; omega
        clear hc hno hne hl eA eB hlen
        go_wp2_with fail
        refine hcut.mono ?_
        rintro e w1 ⟨rfl, q, rfl⟩
        clear hcut
        have hbq : Below wr.heap.size wr (wr.drewN q) := below_drewN (Below.refl _ _) q
        have hb1 : Below B W (wr.drewN q) := hb.trans (hbq.mono hBr)
        have HF1 : Hid (∀ j, P ≤ j → j < Q → j ≠ g → (wr.drewN q).heap[j]? = W.heap[j]?) := frame_below hb HFR.out hQr hbq
        have hE1 := hlowE _ hb1
        have hQ1 : Q ≤ (wr.drewN q).heap.size := Nat.le_trans hQ hb1.size
        have hI1 := HT.out.keep hIr hbq
        have hFn1 := hFr.below hbq
        have hH1 := hHr.below hbq
        clear hIr hFr hHr hEr hmx hbq
        generalize wr.drewN q = W1 at hb1 HF1 hE1 hQ1 hI1 hFn1 hH1 ⊢
        have hln := line1_any HT.out t g (bytesOf la) acc W1 hE1 hI1 hQ1 hFn1 hH1 ht hg htg hsA hacl
        rw [eAd] at hln
        have HBD : Hid ((bytesOf lb).data.toList = lb) := eBd
        clear hI1 hFn1 hH1 eAd eBd hacl
        obtain ⟨E, hEE⟩ : ∃ E, stepE k acc la = E := ⟨_, rfl⟩
        rw [hEE] at hln hrw
        clear hEE
        by_cases hE0 : E = 0
        · subst hE0
          rw [if_neg (by simp)] at hrw
          have HRE : Hid (rowsG k (pieces 10 lb) (n + 1) (acc ++ [(k.rd la).1]) = R) := hrw.symm
          clear hrw
          simp only [ne_eq, not_true_eq_false, false_and, false_or, true_and] at hln
          generalize (k.rd la).1 = x at hln HRE
          generalize bytesOf la = lA at hln hsA ⊢
          generalize bytesOf lb = lB at hszB HBD ⊢
          go_wp2_with (go_at_fn 122; refine hln.mono ?_; rintro e w2 ⟨hb2, hF2, hfr2, rfl, hI2, hH2⟩)
          have hb3 : Below B W w2 := hb1.trans hb2
          have HALL : Hid ((∀ j, P ≤ j → j < Q → j ≠ g → w2.heap[j]? = W.heap[j]?) ∧ Inv w2 (acc ++ [x]) ∧ FunAt w2 t F bl ∧ HeadAt w2 g (acc ++ [x]).length (endsZ (keysG k (acc ++ [x])))) :=
            ⟨fun j h1 h2 h3 => (hfr2 j h1 h2 h3).trans (HF1.out j h1 h2 h3), hI2, hF2, by rw [List.length_append]; exact hH2⟩
          clear hfr2 hI2 hF2 hH2 hln
          go_roundw
          case rel => exact ⟨lB, acc ++ [x], rfl, by rw [List.length_append, HN.out]; go_num, by rw [List.length_append, HN.out]; simp; omega, hb3, HALL.out.1, HALL.out.2.1, HALL.out.2.2.1, HALL.out.2.2.2, by rw [HBD.out, List.length_append, HN.out]; exact HRE.out⟩
          case measure => simp only [strLen]; exact hszB.2
        · rw [if_pos hE0] at hrw
          obtain ⟨E', hE'⟩ : ∃ E', E = E' + 1 := ⟨E - 1, by omega⟩
          subst hE'
          have HRE : Hid (R = ([], E' + 1, n)) := hrw
          clear hrw
          simp only [errV, ne_eq, Nat.succ_ne_zero, not_false_eq_true, false_and, or_false, true_and] at hln
          generalize bytesOf la = lA at hln hsA ⊢
          generalize bytesOf lb = lB at hszB HBD ⊢
          go_wp2_with (go_at_fn 122; refine hln.mono ?_; rintro e w2 ⟨hb2, hF2, hfr2, rfl⟩)
          have hb3 : Below B W w2 := hb1.trans hb2
          have HF3 : Hid (∀ j, P ≤ j → j < Q → j ≠ g → w2.heap[j]? = W.heap[j]?) := fun j h1 h2 h3 => (hfr2 j h1 h2 h3).trans (HF1.out j h1 h2 h3)
          have hQ3 : Q ≤ w2.heap.size := Nat.le_trans hQ hb3.size
          have hal : Below w2.heap.size w2 (w2.alloc (.cells #[.int .i64 n, .iface 273 (.pointer (some (a E')))] 94)) := (Below.refl _ _).alloc (Nat.le_refl _) _
          have hb4 : Below B W (w2.alloc (.cells #[.int .i64 n, .iface 273 (.pointer (some (a E')))] 94)) := hb3.trans (hal.mono (Nat.le_trans hBW hb3.size))
          have HF4 : Hid (∀ j, P ≤ j → j < Q → j ≠ g → (w2.alloc (.cells #[.int .i64 n, .iface 273 (.pointer (some (a E')))] 94)).heap[j]? = W.heap[j]?) := frame_below hb3 HF3.out hQ3 hal
          clear hfr2 hF2 hln
          go_wp2
          go_ret
          exact ⟨hb4, HF4.out, Or.inr ⟨by rw [HRE.out]; exact Nat.succ_ne_zero _, w2.heap.size, rfl, by rw [HRE.out]; simp, by rw [HRE.out]; simp [errV]⟩⟩
end Go.Proofs.YtgffkkijfmoooabGreatDoor
namespace Go.Proofs.YtgffkkijfmoooabGreatDoor
open Go.RowKit Go.Extern.Stop Go.Stop Go.Extern Go.Sort Go.Shelf Go.Lib

/-- A head: its three numbers. -/
abbrev Hd := Int × Int × Int
def encH (x : Hd) : List Value := [.int .i64 x.1, .int .i64 x.2.1, .int .i64 x.2.2]

theorem eqHead : EqlAt Tryz.prog 154 (fun x : Hd => .agg (encH x).toArray) (fun x y => decide (x = y)) := by
  refine ⟨fun x y w => ?_, GuardAt.agg _ (by kernel_rfl)⟩
  have u3 := Tryz.underlying3
  have a3 := Tryz.isAgg3
  have z3 := Tryz.sizeOf3
  have hS : Tryz.prog.underlying 154 = some (.struct (Tryz.prog.fieldsOf 154)) := by kernel_rfl
  have hp : Tryz.prog.stoodInHeld 154 = false := by kernel_rfl
  obtain ⟨x0, x1, x2⟩ := x
  obtain ⟨y0, y1, y2⟩ := y
  simp only [encH]
  rw [run_eql_struct, show (10000 : Nat) = 9999 + 1 from rfl, run_equalIn_agg w 9999 154 _ _ hS hp]
  simp only [Program.fieldsOf, Tryz.underlying154]
  go_simp
  by_cases h0 : x0 = y0 <;> by_cases h1 : x1 = y1 <;> by_cases h2 : x2 = y2 <;> simp [h0, h1, h2]

theorem neqHead : NeqAt Tryz.prog 154 (fun x : Hd => .agg (encH x).toArray) (fun x y => decide (x = y)) := by
  refine ⟨fun x y w => ?_, eqHead.2⟩
  have h := eqHead.1 x y w
  simp only [encH] at h ⊢
  rw [run_eql_struct] at h
  rw [run_neq_struct]
  generalize Sem.run Tryz.prog (Op.equalIn 10000 154 _ _) w = r at h ⊢
  cases r with
  | ok b w' =>
    simp only [Result.andThen, Result.ok.injEq, Value.bool.injEq] at h ⊢
    exact ⟨by rw [h.1], h.2⟩
  | halt z w' => simp [Result.andThen] at h

/-- What ReadLines hands back. -/
def AllPost {β : Type} (B : Nat) (w : World) (a : Nat → Addr) (Inv : Nat → World → List β → Prop) (D : List β × Nat × Option Nat) (e : Ending) (w' : World) : Prop :=
  Below B w w' ∧ ((D.2.1 = 0 ∧ e = .returned .nilIface ∧ ∃ Q, Inv Q w' D.1) ∨
    (D.2.1 ≠ 0 ∧ D.1 = [] ∧ D.2.2 = none ∧ e = .returned (errV a D.2.1)) ∨
    (D.2.1 ≠ 0 ∧ D.1 = [] ∧ ∃ at_, D.2.2 = some at_ ∧ ∃ fb, e = .returned (.iface 92 (.pointer (some ⟨fb, 0, none⟩))) ∧ w'.cell? ⟨fb, 0, none⟩ = some (.int .i64 at_) ∧ w'.cell? ⟨fb, 1, none⟩ = some (errV a D.2.1)))

set_option maxRecDepth 100000 in
set_option maxHeartbeats 8000000 in
theorem readLines_any {β : Type} (k : FK β) (kb s : ByteArray) (hkb : kb.data.toList = k.word) (w : World) (a : Nat → Addr) (En : World → Prop) (F bl B : Nat) (Inv : Nat → World → List β → Prop) (hB : B ≤ w.heap.size) (hlow1 : ∀ W', Below B w W' → En W')
    (T : ∀ Q, Taker k a En F bl B w.heap.size Q (Inv Q)) (hI : ∀ Q W', Below w.heap.size w W' → Q ≤ W'.heap.size → Inv Q W' []) (hs : s.size ≤ maxLen) :
    Calls Tryz.prog 67 #[.string kb, .string s, .func (.func F) #[] #[.pointer (some ⟨bl, 0, none⟩)]] w fun e w' => AllPost B w a Inv (readG k s.data.toList) e w' := by
  have hlow : ∀ W', Below B w W' → EnvD0 W' a := fun W' hW => (T 0).env (hlow1 W' hW)
  unfold maxLen at hs
  have hszl := size_list s
  have hal : Below w.heap.size w (w.alloc (.cells #[.func (.func F) #[] #[.pointer (some ⟨bl, 0, none⟩)]] 112)) := (Below.refl _ _).alloc (Nat.le_refl _) _
  have hFun : FunAt (w.alloc (.cells #[.func (.func F) #[] #[.pointer (some ⟨bl, 0, none⟩)]] 112)) w.heap.size F bl := heap_alloc_new _ _
  by_cases hbig : 20000 < s.size
  · have HD : Hid (readG k s.data.toList = ([], 2, none)) := by show _ = _; unfold readG; rw [if_pos (by omega)]
    have hb' : (20000 : Int) < (s.size : Int) := by omega
    have hbd := (hlow _ (hal.mono hB)).env.bound
    clear hszl
    go_enter Tryz.func67, Tryz.ntmps67
    go_wp2
    go_ret
    refine ⟨hal.mono hB, ?_⟩
    rw [HD.out]
    exact Or.inr (Or.inl ⟨by simp, rfl, rfl, rfl⟩)
  · have hb' : ¬ (20000 : Int) < (s.size : Int) := by omega
    have hnb : ¬ 20000 < s.data.toList.length := by omega
    have hE0 := hlow _ (hal.mono hB)
    obtain ⟨mx, hmx⟩ := hE0.env.maxl
    have hcut := Tryz.strings_Cut s ⟨#[10]⟩ mx _ (by omega) hmx
    dsimp only at hcut
    rcases cut_cases 10 s.data.toList with ⟨hno, hc⟩ | ⟨la, lb, hl, hno, hc⟩
    · have HD : Hid (readG k s.data.toList = ([], 1, none)) := by show _ = _; unfold readG; rw [if_neg hnb, hc]; rfl
      rw [hc] at hcut
      dsimp only at hcut
      have eA : (⟨s.data.toList.toArray⟩ : ByteArray) = bytesOf s.data.toList := rfl
      rw [eA] at hcut
      have hrh := fun W (hW : Env0 W a) => readHead_any kb (bytesOf s.data.toList) W a hW (by rw [bytes_len]; omega)
      generalize bytesOf s.data.toList = lA at hcut hrh
      generalize headR kb.data.toList lA.data.toList = H at hrh
      obtain ⟨⟨z0, z1, z2⟩, z3, okb⟩ := H
      dsimp only at hrh
      clear hc hno eA hnb hszl hE0
      go_enter Tryz.func67, Tryz.ntmps67
      go_wp2_with fail
      generalize w.alloc (.cells #[.func (.func F) #[] #[.pointer (some ⟨bl, 0, none⟩)]] 112) = W0 at hal hFun hmx hcut ⊢
      refine hcut.mono ?_
      rintro e w1 ⟨rfl, q, rfl⟩
      clear hcut
      have hb1 : Below w.heap.size w (W0.drewN q) := below_drewN hal q
      have hrh1 := hrh _ (hlow _ (hb1.mono hB)).env
      clear hrh hmx hFun hal
      generalize W0.drewN q = W1 at hb1 hrh1 ⊢
      go_wp2_with fail
      refine hrh1.mono ?_
      rintro e w2 ⟨rfl, hb2⟩
      clear hrh1
      have hB2 : Below w.heap.size w w2 := hb1.trans (hb2.mono hb1.size)
      have hB3 : Below w.heap.size w (w2.alloc (.cells #[.int .i64 z0, .int .i64 z1, .int .i64 z2] 154)) := hB2.alloc hB2.size _
      have ht := (hlow _ (hB3.mono hB)).env.text
      go_wp2
      go_ret
      refine ⟨hB3.mono hB, ?_⟩
      rw [HD.out]
      exact Or.inr (Or.inl ⟨by simp, rfl, rfl, rfl⟩)
    · have hlen : la.length + lb.length + 1 = s.size := by rw [← size_list, hl]; simp; omega
      rw [hc] at hcut
      dsimp only at hcut
      have eA : (⟨la.toArray⟩ : ByteArray) = bytesOf la := rfl
      have eB : (⟨lb.toArray⟩ : ByteArray) = bytesOf lb := rfl
      rw [eA, eB] at hcut
      have eAd : (bytesOf la).data.toList = la := by simp [bytesOf]
      have eBd : (bytesOf lb).data.toList = lb := by simp [bytesOf]
      have hrh := fun W (hW : Env0 W a) => readHead_any kb (bytesOf la) W a hW (by rw [bytes_len]; omega)
      rw [eAd, hkb] at hrh
      have hsum := fun W => sum_any (bytesOf lb) W (by rw [bytes_len]; unfold maxLen; omega)
      rw [eBd] at hsum
      unfold headR at hrh
      cases hho : headO k.word la with
      | none =>
        have HD : Hid (readG k s.data.toList = ([], 1, none)) := by show _ = _; unfold readG; rw [if_neg hnb, hc]; simp only [hho]; rfl
        rw [hho] at hrh
        dsimp only at hrh
        clear hc hno eA eB eAd eBd hnb hszl hsum hho hlen hl hE0
        generalize bytesOf la = lA at hcut hrh
        generalize bytesOf lb = lB at hcut
        go_enter Tryz.func67, Tryz.ntmps67
        go_wp2_with fail
        generalize w.alloc (.cells #[.func (.func F) #[] #[.pointer (some ⟨bl, 0, none⟩)]] 112) = W0 at hal hFun hmx hcut ⊢
        refine hcut.mono ?_
        rintro e w1 ⟨rfl, q, rfl⟩
        clear hcut
        have hb1 : Below w.heap.size w (W0.drewN q) := below_drewN hal q
        have hrh1 := hrh _ (hlow _ (hb1.mono hB)).env
        clear hrh hmx hFun hal
        generalize W0.drewN q = W1 at hb1 hrh1 ⊢
        go_wp2_with fail
        refine hrh1.mono ?_
        rintro e w2 ⟨rfl, hb2⟩
        clear hrh1
        have hB2 : Below w.heap.size w w2 := hb1.trans (hb2.mono hb1.size)
        have hB3 : Below w.heap.size w (w2.alloc (.cells #[.int .i64 0, .int .i64 0, .int .i64 0] 154)) := hB2.alloc hB2.size _
        have ht := (hlow _ (hB3.mono hB)).env.text
        go_wp2
        go_ret
        refine ⟨hB3.mono hB, ?_⟩
        rw [HD.out]
        exact Or.inr (Or.inl ⟨by simp, rfl, rfl, rfl⟩)
      | some hd =>
        obtain ⟨z0, z1, z2, z3⟩ := hd
        rw [hho] at hrh
        dsimp only at hrh
        have hD : readG k s.data.toList = if z3 ≠ sumL lb then ([], 10, none) else endG k z0 z1 z2 (rowsG k (pieces 10 lb) 0 []) := by
          unfold readG; rw [if_neg hnb, hc]; simp only [hho]; rfl
        have HD : Hid (readG k s.data.toList = if z3 ≠ sumL lb then ([], 10, none) else endG k z0 z1 z2 (rowsG k (pieces 10 lb) 0 [])) := hD
        have hsl := sumL_lt lb
        have hlb2 : (bytesOf lb).size ≤ 20000 := by rw [bytes_len]; omega
        have HBD : Hid (rowsG k (pieces 10 (bytesOf lb).data.toList) 0 [] = rowsG k (pieces 10 lb) 0 []) := by show _ = _; rw [eBd]
        generalize sumL lb = S at hsum HD hsl
        generalize rowsG k (pieces 10 lb) 0 [] = R at HD HBD
        clear hD hc hno eA eB eAd eBd hnb hszl hho hlen hl hE0
        generalize bytesOf la = lA at hcut hrh
        generalize bytesOf lb = lB at hcut hsum hlb2 HBD
        have HTT : Hid (∀ Q, Taker k a En F bl B w.heap.size Q (Inv Q)) := T
        have HII : Hid (∀ Q W', Below w.heap.size w W' → Q ≤ W'.heap.size → Inv Q W' []) := hI
        clear T hI
        go_enter Tryz.func67, Tryz.ntmps67
        go_wp2_with fail
        generalize w.alloc (.cells #[.func (.func F) #[] #[.pointer (some ⟨bl, 0, none⟩)]] 112) = W0 at hal hFun hmx hcut ⊢
        refine hcut.mono ?_
        rintro e w1 ⟨rfl, q, rfl⟩
        clear hcut
        have hbq : Below W0.heap.size W0 (W0.drewN q) := below_drewN (Below.refl _ _) q
        have hb1 : Below w.heap.size w (W0.drewN q) := below_drewN hal q
        have hFun1 := hFun.below hbq
        have hrh1 := hrh _ (hlow _ (hb1.mono hB)).env
        clear hrh hmx hFun hal hbq
        generalize W0.drewN q = W1 at hb1 hrh1 hFun1 ⊢
        go_wp2_with fail
        refine hrh1.mono ?_
        rintro e w2 ⟨rfl, hb2⟩
        clear hrh1
        have hB2 : Below w.heap.size w w2 := hb1.trans (hb2.mono hb1.size)
        have hFun2 := hFun1.below hb2
        have hal3 : Below w2.heap.size w2 (w2.alloc (.cells #[.int .i64 z0, .int .i64 z1, .int .i64 z2] 154)) := (Below.refl _ _).alloc (Nat.le_refl _) _
        have hB3 : Below w.heap.size w (w2.alloc (.cells #[.int .i64 z0, .int .i64 z1, .int .i64 z2] 154)) := hB2.alloc hB2.size _
        have hFun3 := hFun2.below hal3
        have hSd : (w2.alloc (.cells #[.int .i64 z0, .int .i64 z1, .int .i64 z2] 154)).heap[w2.heap.size]? = some (.cells #[.int .i64 z0, .int .i64 z1, .int .i64 z2] 154 (0, 0)) := heap_alloc_new _ _
        have hsum3 := hsum (w2.alloc (.cells #[.int .i64 z0, .int .i64 z1, .int .i64 z2] 154))
        have hsd1 : w.heap.size ≤ w2.heap.size := hB2.size
        have hsd2 : w.heap.size ≠ w2.heap.size := by have := lt_of_block hFun2; omega
        clear hsum hFun1 hFun2 hal3
        go_wp2_with fail
        generalize hsd : w2.heap.size = sd at hSd hsd1 hsd2 ⊢
        generalize w2.alloc (.cells #[.int .i64 z0, .int .i64 z1, .int .i64 z2] 154) = W3 at hB3 hsum3 hFun3 hSd ⊢
        clear hsd hB2 hb2 hb1
        refine hsum3.mono ?_
        rintro e w4 ⟨rfl, hb4⟩
        clear hsum3
        have hB4 : Below w.heap.size w w4 := hB3.trans (hb4.mono hB3.size)
        have hFun4 := hFun3.below hb4
        have hSd4 : w4.heap[sd]? = some (.cells #[.int .i64 z0, .int .i64 z1, .int .i64 z2] 154 (0, 0)) := (hb4.block _ (lt_of_block hSd)).trans hSd
        have hw0 : IntKind.i64.wrap (S : Int) = (S : Int) := IntWalk.i64_in _ (by omega)
        have hsd4 : sd < w4.heap.size := lt_of_block hSd4
        clear hFun3 hSd hB3 hb4
        by_cases hzs : z3 = (S : Int)
        · have HD2 : Hid (readG k s.data.toList = endG k z0 z1 z2 R) := by show _ = _; rw [HD.out, if_neg (by simpa using hzs)]
          clear HD
          subst hzs
          have hal5 : Below w4.heap.size w4 (w4.alloc (.cells #[.int .i64 0, .int .i64 0, .int .i64 0] 154)) := (Below.refl _ _).alloc (Nat.le_refl _) _
          have hB5 : Below w.heap.size w (w4.alloc (.cells #[.int .i64 0, .int .i64 0, .int .i64 0] 154)) := hB4.alloc hB4.size _
          have hH5 : HeadAt (w4.alloc (.cells #[.int .i64 0, .int .i64 0, .int .i64 0] 154)) w4.heap.size 0 (0, 0) := heap_alloc_new _ _
          have hFun5 := hFun4.below hal5
          have hSd5 : (w4.alloc (.cells #[.int .i64 0, .int .i64 0, .int .i64 0] 154)).heap[sd]? = some (.cells #[.int .i64 z0, .int .i64 z1, .int .i64 z2] 154 (0, 0)) := (hal5.block _ (lt_of_block hSd4)).trans hSd4
          have hP4 : w.heap.size < w4.heap.size := lt_of_block hFun4
          have hel := eachLine_any (HTT.out (w4.heap.size + 1)) w.heap.size w4.heap.size lB _ (fun W' hW => hlow1 W' ((hB5.mono hB).trans hW)) (HII.out (w4.heap.size + 1) _ hB5 (by simp)) (by simp) (Nat.le_trans hB hB5.size) hFun5 hH5 ⟨Nat.le_refl _, by omega⟩ ⟨by omega, by omega⟩ (by omega) hlb2
          rw [HBD.out] at hel
          clear hFun4 hFun5 hH5 hal5 hSd4
          go_wp2_with fail
          generalize hg4 : w4.heap.size = g at hel hsd4 hP4 ⊢
          generalize w4.alloc (.cells #[.int .i64 0, .int .i64 0, .int .i64 0] 154) = W5 at hB5 hSd5 hel ⊢
          clear hg4 hB4
          refine hel.mono ?_
          rintro e w6 ⟨hb6, hfr, hres⟩
          clear hel
          have hB6 : Below B w w6 := (hB5.mono hB).trans hb6
          have hSd6 : w6.heap[sd]? = some (.cells #[.int .i64 z0, .int .i64 z1, .int .i64 z2] 154 (0, 0)) := (hfr sd hsd1 (by omega) (by omega)).trans hSd5
          clear hfr hSd5 hB5 hb6
          rcases hres with ⟨h0, rfl, hI6, hH6⟩ | ⟨h0, fb, rfl, c0, c1⟩
          · have HR0 : Hid (R.2.1 = 0) := h0
            have HI6 : Hid (∃ Q, Inv Q w6 R.1) := ⟨_, hI6⟩
            have x0 : w6.cell? ⟨sd, 0, none⟩ = some (.int .i64 z0) := by rw [cell_of_row _ _ _ _ _ _ hSd6]; rfl
            have x1 : w6.cell? ⟨sd, 1, none⟩ = some (.int .i64 z1) := by rw [cell_of_row _ _ _ _ _ _ hSd6]; rfl
            have x2 : w6.cell? ⟨sd, 2, none⟩ = some (.int .i64 z2) := by rw [cell_of_row _ _ _ _ _ _ hSd6]; rfl
            obtain ⟨y0, y1, y2, _⟩ := hH6.cells
            have hE6 := hlow _ hB6
            by_cases h40 : 40 < R.1.length
            · have h40' : (40 : Int) < (R.1.length : Int) := by omega
              have HDE : Hid (readG k s.data.toList = ([], 8, none)) := by
                show _ = _
                rw [HD2.out]; unfold endG; rw [if_neg (by simpa using HR0.out), if_pos h40]
              have hfu := hE6.full
              clear h0 hI6 hH6 x0 x1 x2 y1 y2 hE6 h40 HI6
              generalize R.1.length = LL at h40' y0
              go_wp2
              go_ret
              refine ⟨hB6, ?_⟩
              rw [HDE.out]
              exact Or.inr (Or.inl ⟨by simp, rfl, rfl, rfl⟩)
            · have h40' : ¬ (40 : Int) < (R.1.length : Int) := by omega
              have HDE : Hid (readG k s.data.toList = if z0 = (R.1.length : Int) ∧ z1 = (endsZ (keysG k R.1)).1 ∧ z2 = (endsZ (keysG k R.1)).2 then (R.1, 0, none) else ([], 3, none)) := by
                show _ = _
                rw [HD2.out]; unfold endG; rw [if_neg (by simpa using HR0.out), if_neg h40]
              have hneq := neqHead.1 ((R.1.length : Int), (endsZ (keysG k R.1)).1, (endsZ (keysG k R.1)).2) (z0, z1, z2)
              simp only [encH] at hneq
              have hgd' : ∀ (op : BinOp) (a b : Operand) (w : World), Sem.run Tryz.prog (eqGuard op 154 a b (.agg #[.int .i64 (R.1.length : Int), .int .i64 (endsZ (keysG k R.1)).1, .int .i64 (endsZ (keysG k R.1)).2]) (.agg #[.int .i64 z0, .int .i64 z1, .int .i64 z2])) w = .ok () w := fun op a b w => neqHead.2 op a b ((R.1.length : Int), (endsZ (keysG k R.1)).1, (endsZ (keysG k R.1)).2) (z0, z1, z2) w
              have hqe : decide ((((R.1.length : Int), (endsZ (keysG k R.1)).1, (endsZ (keysG k R.1)).2) : Hd) = (z0, z1, z2)) = decide (z0 = (R.1.length : Int) ∧ z1 = (endsZ (keysG k R.1)).1 ∧ z2 = (endsZ (keysG k R.1)).2) := by
                rw [decide_eq_decide]; simp only [Prod.mk.injEq]
                exact ⟨fun ⟨h1, h2, h3⟩ => ⟨h1.symm, h2.symm, h3.symm⟩, fun ⟨h1, h2, h3⟩ => ⟨h1.symm, h2.symm, h3.symm⟩⟩
              rw [hqe] at hneq
              obtain ⟨bq, hbq⟩ : ∃ bq, decide (z0 = (R.1.length : Int) ∧ z1 = (endsZ (keysG k R.1)).1 ∧ z2 = (endsZ (keysG k R.1)).2) = bq := ⟨_, rfl⟩
              have HBQ : Hid (decide (z0 = (R.1.length : Int) ∧ z1 = (endsZ (keysG k R.1)).1 ∧ z2 = (endsZ (keysG k R.1)).2) = bq) := hbq
              rw [hbq] at hneq
              clear hqe hbq h0 hI6 hH6
              generalize hEE : endsZ (keysG k R.1) = E at hneq hgd' y1 y2
              have HEE : Hid (endsZ (keysG k R.1) = E) := hEE
              clear hEE
              obtain ⟨e1, e2⟩ := E
              dsimp only at hneq hgd' y1 y2
              obtain ⟨LL, hLL⟩ : ∃ LL, R.1.length = LL := ⟨_, rfl⟩
              have HLL : Hid (R.1.length = LL) := hLL
              rw [hLL] at hneq hgd' h40' y0
              clear hLL h40
              have hsh := hE6.shape
              clear hE6
              cases bq with
              | true =>
                have HFIN : Hid (readG k s.data.toList = (R.1, 0, none)) := by
                  show _ = _
                  rw [HDE.out, if_pos (of_decide_eq_true HBQ.out)]
                go_wp2
                go_ret
                refine ⟨hB6, ?_⟩
                rw [HFIN.out]
                exact Or.inl ⟨rfl, rfl, HI6.out⟩
              | false =>
                have HFIN : Hid (readG k s.data.toList = ([], 3, none)) := by
                  show _ = _
                  rw [HDE.out, if_neg (of_decide_eq_false HBQ.out)]
                go_wp2
                go_ret
                refine ⟨hB6, ?_⟩
                rw [HFIN.out]
                exact Or.inr (Or.inl ⟨by simp, rfl, rfl, rfl⟩)
          · have HR0 : Hid (R.2.1 ≠ 0) := h0
            have C0 : Hid (w6.cell? ⟨fb, 0, none⟩ = some (.int .i64 R.2.2)) := c0
            have C1 : Hid (w6.cell? ⟨fb, 1, none⟩ = some (errV a R.2.1)) := c1
            have HDE : Hid (readG k s.data.toList = ([], R.2.1, some R.2.2)) := by
              show _ = _
              rw [HD2.out]; unfold endG; rw [if_pos HR0.out]
            clear h0 c0 c1 hSd6
            go_wp2
            go_ret
            refine ⟨hB6, ?_⟩
            rw [HDE.out]
            exact Or.inr (Or.inr ⟨HR0.out, rfl, R.2.2, rfl, fb, rfl, C0.out, C1.out⟩)
        · have HDE : Hid (readG k s.data.toList = ([], 10, none)) := by
            show _ = _
            rw [HD.out, if_pos hzs]
          have hsu := (hlow _ (hB4.mono hB)).sum
          clear hFun4 hSd4
          go_wp2
          go_ret
          refine ⟨hB4.mono hB, ?_⟩
          rw [HDE.out]
          exact Or.inr (Or.inl ⟨by simp, rfl, rfl, rfl⟩)
end Go.Proofs.YtgffkkijfmoooabGreatDoor
namespace Go.Proofs.YtgffkkijfmoooabGreatDoor
open Go.RowKit Go.Extern.Stop Go.Stop Go.Extern Go.Sort Go.Shelf Go.Lib

/-- A variable of rows, in a block of its own. -/
structure BoxR (W : World) (B bl : Nat) (v : Value) (acc : List Rw) : Prop where
  box : W.heap[bl]? = some (.cells #[v] 22 (0, 0))
  own : W.ownsRow B 69 3 v acc.length (flatR acc)
  off : v.ownBlock ≠ some bl
  low : B ≤ bl

/-- The variable of rows is none of the blocks from P to Q. -/
structure InvR (B bl P Q : Nat) (W : World) (acc : List Rw) : Prop where
  ex : ∃ v, BoxR W B bl v acc ∧ ∀ j, P ≤ j → j < Q → v.ownBlock ≠ some j
  lt : bl < P
  hq : Q ≤ W.heap.size

theorem BoxR.below {W W' : World} {B bl : Nat} {v : Value} {acc : List Rw} (h : BoxR W B bl v acc) (hb : Below W.heap.size W W') : BoxR W' B bl v acc :=
  ⟨(hb.block bl (lt_of_block h.box)).trans h.box, own_below h.own hb, h.off, h.low⟩

set_option maxRecDepth 100000 in
set_option maxHeartbeats 2000000 in
theorem line_bad (line : ByteArray) (bl : Nat) (W : World) (a : Nat → Addr) (h : EnvD W a) (hs : line.size ≤ 100000) (hr : (readO line.data.toList).2 ≠ 0) :
    Calls Tryz.prog 68 #[.string line, .pointer (some ⟨bl, 0, none⟩)] W fun e w' => e = .returned (.tuple #[.int .i64 0, errV a (readO line.data.toList).2]) ∧ Below W.heap.size W w' := by
  have hrd := read_any line W a h.env (by omega)
  obtain ⟨E, hE⟩ : ∃ E, (readO line.data.toList).2 = E + 1 := ⟨(readO line.data.toList).2 - 1, by omega⟩
  rw [hE] at hrd ⊢
  simp only [errV] at hrd ⊢
  generalize (readO line.data.toList).1 = x at hrd
  obtain ⟨xp, xk, xv⟩ := x
  simp only [rowV] at hrd
  clear hr hE
  go_enter Tryz.func68, Tryz.ntmps68
  go_wp2_with fail
  refine hrd.mono ?_
  rintro e w1 ⟨rfl, hb1⟩
  clear hrd
  have hb2 : Below W.heap.size W (w1.alloc (.cells #[.string xp, .int .i64 xk, .int .i64 xv] 69)) := hb1.alloc hb1.size _
  go_wp2
  go_ret2
  exact ⟨rfl, hb2⟩

theorem own_shape {W : World} {base : Nat} {e : TypeId} {size : Nat} {v : Value} {n : Nat} {xs : List Value} (h : W.ownsRow base e size v n xs) : ∃ q c, v = .slice q n c := by
  rcases h.2 with ⟨rfl, rfl⟩ | ⟨g, cap, cur, rfl, _⟩
  · exact ⟨none, 0, rfl⟩
  · exact ⟨_, _, rfl⟩
theorem own_next {W : World} {base : Nat} {e : TypeId} {size : Nat} {v : Value} {n : Nat} {xs : List Value} (h : W.ownsRow base e size v (n + 1) xs) : ∃ g c, v = .slice (some ⟨g, 0, none⟩) (n + 1) c := by
  rcases h.2 with ⟨_, h0⟩ | ⟨g, cap, cur, rfl, _⟩
  · omega
  · exact ⟨_, _, rfl⟩
theorem own_far {W : World} {base : Nat} {e : TypeId} {size : Nat} {v : Value} {n : Nat} {xs : List Value} (h : W.ownsRow base e size v n xs) {k : Nat} (hk : v.ownBlock = some k) : base ≤ k := (h.lt k hk).1
theorem row_cells (wr : World) (xp : ByteArray) (xk xv : Int) (j : Nat) (u : Value) (hj : (encR (xp, xk, xv))[j]? = some u) : (wr.alloc (.cells #[.string xp, .int .i64 xk, .int .i64 xv] 69)).cell? ⟨wr.heap.size, j, none⟩ = some u := by
  rw [cell_of_row _ _ _ _ _ _ (heap_alloc_new _ _)]
  match j, hj with
  | 0, hj => simpa [encR] using hj
  | 1, hj => simpa [encR] using hj
  | 2, hj => simpa [encR] using hj
  | j + 3, hj => simp [encR] at hj

/-- What the last part of it does: the row is put behind the others. -/
theorem box_put {W w5 : World} {B bl : Nat} {v v' : Value} {acc : List Rw} {x : Rw} (h : BoxR W B bl v acc) (ho : w5.ownsRow B 69 3 v' (acc.length + 1) (flatR acc ++ encR x)) (hg : W.grownBy w5 v.ownBlock) (hat : v'.ownBlock = v.ownBlock ∨ v'.ownBlock = some W.heap.size) :
    BoxR (w5.setCell ⟨bl, 0, none⟩ v') B bl v' (acc ++ [x]) ∧ w5.heap[bl]? = some (.cells #[v] 22 (0, 0)) := by
  have hlt := lt_of_block h.box
  have hb5 : w5.heap[bl]? = some (.cells #[v] 22 (0, 0)) := (hg.block bl hlt (fun e => h.off e.symm)).trans h.box
  have hoff : v'.ownBlock ≠ some bl := by
    rcases hat with e | e
    · rw [e]; exact h.off
    · rw [e]; intro e'; have := Option.some.inj e'; omega
  refine ⟨⟨one_setCell hb5, ?_, hoff, h.low⟩, hb5⟩
  rw [List.length_append, flat_append, flat_single]
  exact ownsRow_setCell_other ho hoff _

/-- The same, with what is not its own. -/
theorem inv_put {W0 W w5 : World} {B bl P Q : Nat} {v v' : Value} {acc : List Rw} {x : Rw} (h : BoxR W B bl v acc) (ho : w5.ownsRow B 69 3 v' (acc.length + 1) (flatR acc ++ encR x)) (hg : W.grownBy w5 v.ownBlock) (hat : v'.ownBlock = v.ownBlock ∨ v'.ownBlock = some W.heap.size)
    (hb : Below W0.heap.size W0 W) (hoff : ∀ j, P ≤ j → j < Q → v.ownBlock ≠ some j) (hlt : bl < P) (hq : Q ≤ W0.heap.size) :
    InvR B bl P Q (w5.setCell ⟨bl, 0, none⟩ v') (acc ++ [x]) ∧ ∀ j, P ≤ j → j < Q → (w5.setCell ⟨bl, 0, none⟩ v').heap[j]? = W0.heap[j]? := by
  have hsz : Q ≤ W.heap.size := Nat.le_trans hq hb.size
  have hs5 : W.heap.size ≤ w5.heap.size := hg.size
  refine ⟨⟨⟨v', (box_put h ho hg hat).1, fun j h1 h2 e => ?_⟩, hlt, ?_⟩, fun j h1 h2 => ?_⟩
  · rcases hat with e' | e'
    · exact hoff j h1 h2 (e'.symm.trans e)
    · rw [e'] at e; have := Option.some.inj e; omega
  · have : (w5.setCell ⟨bl, 0, none⟩ v').heap.size = w5.heap.size := by simp [World.setCell]
    omega
  · rw [heap_setCell_other _ _ _ _ (by show j ≠ bl; omega), hg.block j (by omega) (fun e => hoff j h1 h2 e.symm)]
    exact hb.block j (by omega)

set_option maxRecDepth 100000 in
set_option maxHeartbeats 4000000 in
theorem line_first (line : ByteArray) (bl B : Nat) (v : Value) (W : World) (a : Nat → Addr) (h : EnvD W a) (hB : BoxR W B bl v []) (P Q : Nat) (hoff : ∀ j, P ≤ j → j < Q → v.ownBlock ≠ some j) (hlt : bl < P) (hq : Q ≤ W.heap.size) (hs : line.size ≤ 100000) (hr : (readO line.data.toList).2 = 0) :
    Calls Tryz.prog 68 #[.string line, .pointer (some ⟨bl, 0, none⟩)] W fun e w' => e = .returned (.tuple #[.int .i64 (readO line.data.toList).1.2.1, .nilIface]) ∧ InvR B bl P Q w' [(readO line.data.toList).1] ∧ (∀ j, P ≤ j → j < Q → w'.heap[j]? = W.heap[j]?) ∧ Below B W w' := by
  obtain ⟨i0, hi0, hz0, hs0, hby0⟩ := Tryz.rowInfo
  have hrd := read_any line W a h.env (by omega)
  rw [hr] at hrd
  simp only [errV] at hrd
  obtain ⟨x, hx⟩ : ∃ x, (readO line.data.toList).1 = x := ⟨_, rfl⟩
  rw [hx] at hrd ⊢
  clear hx hr
  obtain ⟨xp, xk, xv⟩ := x
  simp only [rowV] at hrd
  have hBW : B ≤ W.heap.size := Nat.le_trans hB.low (Nat.le_of_lt (lt_of_block hB.box))
  have hblW : bl < W.heap.size := lt_of_block hB.box
  have hownW : ∀ k, v.ownBlock = some k → k < W.heap.size := fun k hk => (hB.own.lt k hk).2
  have HOFF : Hid (∀ j, P ≤ j → j < Q → v.ownBlock ≠ some j) := hoff
  have HOWN : Hid (∀ k, v.ownBlock = some k → k < W.heap.size) := hownW
  clear hoff hownW
  go_enter Tryz.func68, Tryz.ntmps68
  go_wp2_with fail
  refine hrd.mono ?_
  rintro e w1 ⟨rfl, hb1⟩
  clear hrd
  have hb2 : Below W.heap.size W (w1.alloc (.cells #[.string xp, .int .i64 xk, .int .i64 xv] 69)) := hb1.alloc hb1.size _
  have hB2 := hB.below hb2
  have x0 : (w1.alloc (.cells #[.string xp, .int .i64 xk, .int .i64 xv] 69)).cell? ⟨w1.heap.size, 0, none⟩ = some (.string xp) := by simp
  have x1 : (w1.alloc (.cells #[.string xp, .int .i64 xk, .int .i64 xv] 69)).cell? ⟨w1.heap.size, 1, none⟩ = some (.int .i64 xk) := by simp
  have x2 : (w1.alloc (.cells #[.string xp, .int .i64 xk, .int .i64 xv] 69)).cell? ⟨w1.heap.size, 2, none⟩ = some (.int .i64 xv) := by simp
  obtain ⟨q, cp, rfl⟩ := own_shape hB2.own
  simp only [List.length_nil] at hB2
  have hcb := cell_of_one hB2.box
  have hfb := free_of_one hB2.box
  clear hB
  go_wp2_with fail
  have hbxW : W.heap.size ≤ w1.heap.size := hb1.size
  generalize w1.heap.size = bx at x0 x1 x2 hbxW ⊢
  generalize w1.alloc (.cells #[.string xp, .int .i64 xk, .int .i64 xv] 69) = W2 at hb2 hB2 x0 x1 x2 hcb hfb ⊢
  go_quiet (fail)
  have hbq : Below W2.heap.size W2 (W2.drewN nq) := below_drewN (Below.refl _ _) nq
  have hb3 : Below W.heap.size W (W2.drewN nq) := hb2.trans (hbq.mono hb2.size)
  have hB3 := hB2.below hbq
  have y0 := below_keep hbq x0
  have y1 := below_keep hbq x1
  have y2 := below_keep hbq x2
  have hcb3 := cell_of_one hB3.box
  have hfb3 := free_of_one hB3.box
  clear hB2 x0 x1 x2 hcb hfb hb2 hbq
  generalize W2.drewN nq = W3 at hb3 hB3 y0 y1 y2 hcb3 hfb3 ⊢
  have hal : Below W3.heap.size W3 (W3.alloc (.cells #[.string xp, .int .i64 xk, .int .i64 xv] 69)) := (Below.refl _ _).alloc (Nat.le_refl _) _
  have hB4 := hB3.below hal
  have hb4 : Below B W (W3.alloc (.cells #[.string xp, .int .i64 xk, .int .i64 xv] 69)) := (hb3.trans (hal.mono hb3.size)).mono hBW
  go_wp2_with (at_builtin; refine wpList_append_own_at _ rfl _ _ 22 rfl B 69 i0 (.agg #[.string ⟨#[]⟩, .int .i64 0, .int .i64 0]) 3 32 Tryz.underlying22 hi0 hz0 hs0 hby0 rfl (by decide) (.slice q 0 cp) 0 (flatR []) rfl hB4.own ⟨W3.heap.size, 0, none⟩ 1 1 (encR (xp, xk, xv)) rfl ?qd1 ?qd2 ?qd3 ?qd4 ?qd5 ?qd6 ?_)
  case qd1 => rfl
  case qd2 =>
    intro j u hj
    rw [Addr.add_lit, Nat.zero_add]
    exact row_cells W3 xp xk xv j u hj
  case qd3 => exact encR_one _
  case qd4 => unfold maxLen; omega
  case qd5 => omega
  case qd6 => exact Nat.le_trans hBW hb4.size
  intro v7 w7 hown7 hgrow7 _ hat7
  obtain ⟨g7, cap7, rfl⟩ := own_next hown7
  obtain ⟨hput, hb7⟩ := box_put (x := (xp, xk, xv)) hB4 hown7 hgrow7 (by simpa using hat7)
  have hcb7 := cell_of_one hb7
  have hfb7 := free_of_one hb7
  have hW7 : Below B W w7 := hb4.grown hgrow7 (Nat.le_trans hBW hb4.size) (fun k hk => own_far hB4.own hk)
  have hW8 : Below B W (w7.setCell ⟨bl, 0, none⟩ (.slice (some ⟨g7, 0, none⟩) (0 + 1) cap7)) := hW7.setCell hB4.low _
  have hbW4 : Below W.heap.size W (W3.alloc (.cells #[.string xp, .int .i64 xk, .int .i64 xv] 69)) := hb3.trans (hal.mono hb3.size)
  have HPUT : Hid (InvR B bl P Q (w7.setCell ⟨bl, 0, none⟩ (.slice (some ⟨g7, 0, none⟩) (0 + 1) cap7)) ([] ++ [(xp, xk, xv)]) ∧ ∀ j, P ≤ j → j < Q → (w7.setCell ⟨bl, 0, none⟩ (.slice (some ⟨g7, 0, none⟩) (0 + 1) cap7)).heap[j]? = W.heap[j]?) := inv_put (x := (xp, xk, xv)) hB4 hown7 hgrow7 (by simpa using hat7) hbW4 HOFF.out hlt hq
  have hk7 : w7.cell? ⟨bx, 1, none⟩ = some (.int .i64 xk) := (World.cell?_of_block (hgrow7.block bx (cell_lt (below_keep hal y1)) (fun e => by have := HOWN.out bx e.symm; omega))).trans (below_keep hal y1)
  have hk8 : (w7.setCell ⟨bl, 0, none⟩ (.slice (some ⟨g7, 0, none⟩) (0 + 1) cap7)).cell? ⟨bx, 1, none⟩ = some (.int .i64 xk) := by
    rw [World.cell?_setCell_other _ _ _ _ (by intro e; injection e; omega)]; exact hk7
  clear hown7 hgrow7 hat7 hB4 hB3 hput y0 y1 y2
  go_wp2
  go_ret2
  exact ⟨rfl, HPUT.out.1, HPUT.out.2, hW8⟩

set_option maxRecDepth 100000 in
set_option maxHeartbeats 8000000 in
theorem line_next (line : ByteArray) (bl B k : Nat) (v : Value) (acc : List Rw) (W : World) (a : Nat → Addr) (h : EnvD W a) (hB : BoxR W B bl v acc) (hs : line.size ≤ 100000) (hl : acc.length ≤ 100000) (P Q : Nat) (hoff : ∀ j, P ≤ j → j < Q → v.ownBlock ≠ some j) (hlt : bl < P) (hq : Q ≤ W.heap.size) (hk : acc.length = k + 1) (hkk : k < acc.length) (hr : (readO line.data.toList).2 = 0) :
    Calls Tryz.prog 68 #[.string line, .pointer (some ⟨bl, 0, none⟩)] W fun e w' => (ltOf cfR (readO line.data.toList).1 acc[k] = true → e = .returned (.tuple #[.int .i64 0, errV a 9]) ∧ Below W.heap.size W w') ∧
      (ltOf cfR (readO line.data.toList).1 acc[k] = false → e = .returned (.tuple #[.int .i64 (readO line.data.toList).1.2.1, .nilIface]) ∧ InvR B bl P Q w' (acc ++ [(readO line.data.toList).1]) ∧ (∀ j, P ≤ j → j < Q → w'.heap[j]? = W.heap[j]?) ∧ Below B W w') := by
  obtain ⟨i0, hi0, hz0, hs0, hby0⟩ := Tryz.rowInfo
  have hrd := read_any line W a h.env (by omega)
  rw [hr] at hrd
  simp only [errV] at hrd
  obtain ⟨x, hx⟩ : ∃ x, (readO line.data.toList).1 = x := ⟨_, rfl⟩
  rw [hx] at hrd
  have hless := less_any x acc[k]
  obtain ⟨lb, hlb⟩ : ∃ lb, ltOf cfR x acc[k] = lb := ⟨_, rfl⟩
  rw [hlb] at hless
  have HX : Hid ((readO line.data.toList).1 = x) := hx
  have HLB : Hid (ltOf cfR x acc[k] = lb) := hlb
  clear hx hr hlb
  obtain ⟨xp, xk, xv⟩ := x
  simp only [rowV] at hrd
  have hBW : B ≤ W.heap.size := Nat.le_trans hB.low (Nat.le_of_lt (lt_of_block hB.box))
  have hblW : bl < W.heap.size := lt_of_block hB.box
  have hownW : ∀ k, v.ownBlock = some k → k < W.heap.size := fun k hk => (hB.own.lt k hk).2
  have HOFF : Hid (∀ j, P ≤ j → j < Q → v.ownBlock ≠ some j) := hoff
  have HOWN : Hid (∀ k, v.ownBlock = some k → k < W.heap.size) := hownW
  clear hoff hownW
  go_enter Tryz.func68, Tryz.ntmps68
  go_wp2_with fail
  refine hrd.mono ?_
  rintro e w1 ⟨rfl, hb1⟩
  clear hrd
  have hb2 : Below W.heap.size W (w1.alloc (.cells #[.string xp, .int .i64 xk, .int .i64 xv] 69)) := hb1.alloc hb1.size _
  have hB2 := hB.below hb2
  have x0 : (w1.alloc (.cells #[.string xp, .int .i64 xk, .int .i64 xv] 69)).cell? ⟨w1.heap.size, 0, none⟩ = some (.string xp) := by simp
  have x1 : (w1.alloc (.cells #[.string xp, .int .i64 xk, .int .i64 xv] 69)).cell? ⟨w1.heap.size, 1, none⟩ = some (.int .i64 xk) := by simp
  have x2 : (w1.alloc (.cells #[.string xp, .int .i64 xk, .int .i64 xv] 69)).cell? ⟨w1.heap.size, 2, none⟩ = some (.int .i64 xv) := by simp
  have hnx : ∃ g c, v = .slice (some ⟨g, 0, none⟩) (k + 1) c := own_next (n := k) (by rw [← hk]; exact hB2.own)
  obtain ⟨g, cp, rfl⟩ := hnx
  have hcb := cell_of_one hB2.box
  have hfb := free_of_one hB2.box
  have hrc : RowCells (w1.alloc (.cells #[.string xp, .int .i64 xk, .int .i64 xv] 69)) g 0 acc := by
    rcases (own_cases hB2.own).2 with ⟨e, _⟩ | ⟨g', cap', e, hc⟩
    · cases e
    · injection e with e1
      injection e1 with e1
      injection e1 with e1
      subst e1
      exact hc
  obtain ⟨p0, p1, p2⟩ := hrc k hkk
  simp only [Nat.zero_add] at p0 p1 p2
  generalize acc[k] = y at p0 p1 p2 hless
  obtain ⟨yp, yk, yv⟩ := y
  dsimp only at p0 p1 p2 hless
  clear hB hrc
  have hi1 : (0 : Int) < (k : Int) + 1 := by omega
  have hi3 : (k : Int) < (k : Int) + 1 := by omega
  have hi4 : (0 : Int) ≤ (k : Int) := by omega
  have hi5 : IntKind.i64.wrap (k : Int) = (k : Int) := IntWalk.i64_in _ (by omega)
  have hmxo : Tryz.prog.follows .mixedOrders = true := by kernel_rfl
  have HKK : Hid (acc.length = k + 1) := hk
  have HHL : Hid (acc.length ≤ 100000) := hl
  clear hk hl
  go_wp2_with fail
  have hbxW : W.heap.size ≤ w1.heap.size := hb1.size
  generalize w1.heap.size = bx at x0 x1 x2 hbxW ⊢
  generalize w1.alloc (.cells #[.string xp, .int .i64 xk, .int .i64 xv] 69) = W2 at hb2 hB2 x0 x1 x2 hcb hfb p0 p1 p2 ⊢
  have hless2 := fun d os => Calls.regrown_of (w := W2) (d := d) (os := os) (hless _)
  have f0 := cell_regrown x0
  have f1 := cell_regrown x1
  have f2 := cell_regrown x2
  have f3 := cell_regrown hcb
  have f4 := cell_regrown p0
  have f5 := cell_regrown p1
  have f6 := cell_regrown p2
  refine wp_region_quiet_below hmxo (by kernel_rfl) ?_
  repeat (go_big_quiet_step (exact hless2 _ _))
  refine wpQuiet_nil ?_
  intro _ hw'
  obtain ⟨⟨dq, osq⟩, hw''⟩ := hw'
  subst hw''
  clear hless2 hless f0 f1 f2 f3 f4 f5 f6
  have hbq := below_regrown W2 dq osq
  have hb3 : Below W.heap.size W (grow (redrawn W2 dq) osq) := hb2.trans (hbq.mono hb2.size)
  have hB3 := hB2.below hbq
  have y0 := below_keep hbq x0
  have y1 := below_keep hbq x1
  have y2 := below_keep hbq x2
  clear hB2 x0 x1 x2 hcb hfb hb2 hbq p0 p1 p2
  generalize grow (redrawn W2 dq) osq = W3 at hb3 hB3 y0 y1 y2 ⊢
  have hcb3 := cell_of_one hB3.box
  have hfb3 := free_of_one hB3.box
  cases lb
  · have hal : Below W3.heap.size W3 (W3.alloc (.cells #[.string xp, .int .i64 xk, .int .i64 xv] 69)) := (Below.refl _ _).alloc (Nat.le_refl _) _
    have hB4 := hB3.below hal
    have hb4 : Below B W (W3.alloc (.cells #[.string xp, .int .i64 xk, .int .i64 xv] 69)) := (hb3.trans (hal.mono hb3.size)).mono hBW
    have HB4 : Hid (BoxR (W3.alloc (.cells #[.string xp, .int .i64 xk, .int .i64 xv] 69)) B bl (.slice (some ⟨g, 0, none⟩) (k + 1) cp) acc) := hB4
    clear hB4 hB3
    go_wp2_with (at_builtin; refine wpList_append_own_at _ rfl _ _ 22 rfl B 69 i0 (.agg #[.string ⟨#[]⟩, .int .i64 0, .int .i64 0]) 3 32 Tryz.underlying22 hi0 hz0 hs0 hby0 rfl (by decide) (.slice (some ⟨g, 0, none⟩) (k + 1) cp) acc.length (flatR acc) rfl HB4.out.own ⟨W3.heap.size, 0, none⟩ 1 1 (encR (xp, xk, xv)) rfl ?qd1 ?qd2 ?qd3 ?qd4 ?qd5 ?qd6 ?_)
    case qd1 => rfl
    case qd2 =>
      intro j u hj
      rw [Addr.add_lit, Nat.zero_add]
      exact row_cells W3 xp xk xv j u hj
    case qd3 => exact encR_one _
    case qd4 => have := HHL.out; unfold maxLen; omega
    case qd5 => have := HHL.out; omega
    case qd6 => exact Nat.le_trans hBW hb4.size
    intro v7 w7 hown7 hgrow7 _ hat7
    obtain ⟨g7, cap7, rfl⟩ := own_next hown7
    obtain ⟨hput, hb7⟩ := box_put (x := (xp, xk, xv)) HB4.out hown7 hgrow7 (by simpa using hat7)
    have hcb7 := cell_of_one hb7
    have hfb7 := free_of_one hb7
    have hW7 : Below B W w7 := hb4.grown hgrow7 (Nat.le_trans hBW hb4.size) (fun k hk => own_far HB4.out.own hk)
    have hW8 : Below B W (w7.setCell ⟨bl, 0, none⟩ (.slice (some ⟨g7, 0, none⟩) (acc.length + 1) cap7)) := hW7.setCell HB4.out.low _
    have hbW4 : Below W.heap.size W (W3.alloc (.cells #[.string xp, .int .i64 xk, .int .i64 xv] 69)) := hb3.trans (hal.mono hb3.size)
    have HPUT : Hid (InvR B bl P Q (w7.setCell ⟨bl, 0, none⟩ (.slice (some ⟨g7, 0, none⟩) (acc.length + 1) cap7)) (acc ++ [(xp, xk, xv)]) ∧ ∀ j, P ≤ j → j < Q → (w7.setCell ⟨bl, 0, none⟩ (.slice (some ⟨g7, 0, none⟩) (acc.length + 1) cap7)).heap[j]? = W.heap[j]?) := inv_put (x := (xp, xk, xv)) HB4.out hown7 hgrow7 (by simpa using hat7) hbW4 HOFF.out hlt hq
    have hk7 : w7.cell? ⟨bx, 1, none⟩ = some (.int .i64 xk) := (World.cell?_of_block (hgrow7.block bx (cell_lt (below_keep hal y1)) (fun e => by have := HOWN.out bx e.symm; omega))).trans (below_keep hal y1)
    have hk8 : (w7.setCell ⟨bl, 0, none⟩ (.slice (some ⟨g7, 0, none⟩) (acc.length + 1) cap7)).cell? ⟨bx, 1, none⟩ = some (.int .i64 xk) := by
      rw [World.cell?_setCell_other _ _ _ _ (by intro e; injection e; omega)]; exact hk7
    clear hown7 hgrow7 hat7 hput y0 y1 y2
    go_wp2
    go_ret2
    refine ⟨fun h9 => ?_, fun _ => ⟨by rw [HX.out]; rfl, by rw [HX.out]; exact HPUT.out.1, HPUT.out.2, hW8⟩⟩
    rw [HX.out, HLB.out] at h9
    cases h9
  · have ho := (h.below hb3).order
    go_wp2
    go_quiet (fail)
    go_wp2
    go_ret2
    refine ⟨fun _ => ⟨rfl, below_drewN hb3 nq⟩, fun h9 => ?_⟩
    rw [HX.out, HLB.out] at h9
    cases h9

theorem InvR.keep {B bl P Q : Nat} {W W' : World} {acc : List Rw} (h : InvR B bl P Q W acc) (hb : Below W.heap.size W W') : InvR B bl P Q W' acc := by
  obtain ⟨⟨v, hv, ho⟩, hl, hq⟩ := h
  exact ⟨⟨v, hv.below hb, ho⟩, hl, Nat.le_trans hq hb.size⟩

theorem InvR.set {B bl P Q : Nat} {W : World} {acc : List Rw} (j o : Nat) (u : Value) (h1 : P ≤ j) (h2 : j < Q) (h : InvR B bl P Q W acc) : InvR B bl P Q (W.setCell ⟨j, o, none⟩ u) acc := by
  obtain ⟨⟨v, hv, ho⟩, hl, hq⟩ := h
  have hsz : (W.setCell ⟨j, o, none⟩ u).heap.size = W.heap.size := by simp [World.setCell]
  refine ⟨⟨v, ⟨?_, ownsRow_setCell_other hv.own (ho j h1 h2) u, hv.off, hv.low⟩, ho⟩, hl, by omega⟩
  rw [heap_setCell_other _ _ _ _ (by show bl ≠ j; omega)]
  exact hv.box

theorem last_is {β : Type} (acc : List β) (k : Nat) (d : β) (hk : acc.length = k + 1) (hkk : k < acc.length) : acc.getLastD d = acc[k] := by
  have hne : acc ≠ [] := by intro e; rw [e] at hk; simp at hk
  rw [List.getLastD_eq_getLast?, List.getLast?_eq_some_getLast hne, Option.getD_some, List.getLast_eq_getElem]
  congr 1
  omega

/-- The function that data.Read hands over takes rows. -/
theorem taker_rows (a : Nat → Addr) (bl B P Q : Nat) (hBP : B ≤ P) : Taker dataK a (fun W => EnvD W a) 68 bl B P Q (InvR B bl P Q) where
  env := fun h => h.weak
  ent := enters_of Tryz.func68 (by kernel_rfl) rfl
  low := hBP
  keep := fun h hb => h.keep hb
  set := fun j o u h1 h2 h => h.set j o u h1 h2
  take := fun W line acc hE hI hQ hs hl => by
    have HI : Hid (InvR B bl P Q W acc) := hI
    obtain ⟨⟨v, hv, ho⟩, hlt, hq⟩ := hI
    have hBW : B ≤ W.heap.size := Nat.le_trans hv.low (Nat.le_of_lt (lt_of_block hv.box))
    show Calls _ _ _ _ fun e w' => Below B W w' ∧ _ ∧ ((stepE dataK acc line.data.toList ≠ 0 ∧ _) ∨ (stepE dataK acc line.data.toList = 0 ∧ _))
    have hst : stepE dataK acc line.data.toList = if (readO line.data.toList).2 ≠ 0 then (readO line.data.toList).2 else if acc ≠ [] ∧ ltOf cfR (readO line.data.toList).1 (acc.getLastD (bytesOf [], 0, 0)) = true then 9 else 0 := rfl
    by_cases hr : (readO line.data.toList).2 ≠ 0
    · rw [if_pos hr] at hst
      refine (line_bad line bl W a hE hs hr).mono fun e w' ⟨he, hb⟩ => ⟨hb.mono hBW, fun j h1 h2 => hb.block j (by omega), Or.inl ⟨by rw [hst]; exact hr, by rw [he, hst], HI.out.keep hb⟩⟩
    · have hr0 : (readO line.data.toList).2 = 0 := Classical.byContradiction hr
      rw [if_neg hr] at hst
      by_cases hac : acc = []
      · subst hac
        rw [if_neg (by simp)] at hst
        exact (line_first line bl B v W a hE hv P Q ho hlt hq hs hr0).mono fun e w' ⟨he, hi, hf, hb⟩ => ⟨hb, hf, Or.inr ⟨hst, he, hi⟩⟩
      · obtain ⟨k, hk⟩ : ∃ k, acc.length = k + 1 := ⟨acc.length - 1, by have := List.length_pos_iff.2 hac; omega⟩
        have hkk : k < acc.length := by omega
        rw [last_is acc k _ hk hkk] at hst
        refine (line_next line bl B k v acc W a hE hv hs hl P Q ho hlt hq hk hkk hr0).mono fun e w' ⟨h1, h2⟩ => ?_
        cases hb : ltOf cfR (readO line.data.toList).1 acc[k] with
        | true =>
          rw [if_pos ⟨hac, hb⟩] at hst
          obtain ⟨he, hbl⟩ := h1 hb
          exact ⟨hbl.mono hBW, fun j q1 q2 => hbl.block j (by omega), Or.inl ⟨by rw [hst]; decide, by rw [he, hst], HI.out.keep hbl⟩⟩
        | false =>
          rw [if_neg (fun e => by rw [hb] at e; cases e.2)] at hst
          obtain ⟨he, hi, hf, hbl⟩ := h2 hb
          exact ⟨hbl, hf, Or.inr ⟨hst, he, hi⟩⟩
end Go.Proofs.YtgffkkijfmoooabGreatDoor
