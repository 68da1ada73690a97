/-
  The contracts of data.eachLine and data.ReadLines, for any kind of file: the lines of a body, one behind the other, each handed to the function that takes it.
-/
import Derived.Test.YtdhkdjlgmbejnaaGreatDoorDataMake
import Derived.Maps.AppendAt
import Derived.Deep.Onto
namespace Go.Proofs.YtdhkdjlgmbejnaaGreatDoor
open Go.RowKit Go.Extern.Stop Go.Stop Go.Extern Go.Sort Go.Shelf Go.Lib

theorem headO_five {Kw l k A B C D : List UInt8} (h : words l = [k, A, B, C, D]) : headO Kw l = if k = Kw then (match numO A, numO B, numO C, numO D with
    | some a, some b, some c, some d => some (a, b, c, d)
    | _, _, _, _ => none) else none := by
  unfold headO; rw [h]; rfl
theorem headO_other {Kw l : List UInt8} (h : (words l).length ≠ 5) : headO Kw l = none := by
  unfold headO
  split
  · rename_i e; rw [e] at h; simp at h
  · rfl

theorem five_of {α : Type} {ts : List α} (h : ts.length = 5) : ∃ a b c d e, ts = [a, b, c, d, e] := by
  match ts, h with
  | [a, b, c, d, e], _ => exact ⟨a, b, c, d, e, rfl⟩

theorem eqBB {s t : ByteArray} (h : s.data.toList = t.data.toList) : (s.toList == t.toList) = true := by
  rw [ByteArray.toList_eq, ByteArray.toList_eq]; simpa using h
theorem neBB {s t : ByteArray} (h : s.data.toList ≠ t.data.toList) : (s.toList == t.toList) = false := by
  rw [ByteArray.toList_eq, ByteArray.toList_eq]; simpa using h

def headR (K l : List UInt8) : (Int × Int × Int) × Int × Bool := match headO K l with
  | some (n, lo, hi, sum) => ((n, lo, hi), sum, true)
  | none => ((0, 0, 0), 0, false)

set_option maxRecDepth 100000 in
set_option maxHeartbeats 4000000 in
theorem readHead_any (kb s : ByteArray) (w : World) (a : Nat → Addr) (h : Env0 w a) (hs : s.size ≤ 100000) :
    Calls Tryz.prog 231 #[.string kb, .string s] w fun e w' => e = .returned (.tuple #[.agg #[.int .i64 (headR kb.data.toList s.data.toList).1.1, .int .i64 (headR kb.data.toList s.data.toList).1.2.1, .int .i64 (headR kb.data.toList s.data.toList).1.2.2], .int .i64 (headR kb.data.toList s.data.toList).2.1, .bool (headR kb.data.toList s.data.toList).2.2]) ∧ Below w.heap.size w w' := by
  have hal : Below w.heap.size w (w.alloc (.cells #[.int .i64 0, .int .i64 0, .int .i64 0] 174)) := (Below.refl _ _).alloc (Nat.le_refl _) _
  have hsp := splitTx_any s _ a (h.below hal) (by omega)
  have hblk := heap_alloc_new w (.cells #[.int .i64 0, .int .i64 0, .int .i64 0] 174)
  have hwl := words_len s.data.toList
  go_enter Tryz.func231, Tryz.ntmps231
  go_wp2_with fail
  generalize hWA : w.alloc (.cells #[.int .i64 0, .int .i64 0, .int .i64 0] 174) = WA at hal hsp hblk ⊢
  refine hsp.mono ?_
  rintro e w1 ⟨v1, ts, rfl, hts, htm, hb1⟩
  clear hsp
  have hB1 : Below w.heap.size w w1 := hal.trans (hb1.mono hal.size)
  have hblk1 : w1.heap[w.heap.size]? = some (.cells #[.int .i64 0, .int .i64 0, .int .i64 0] 174 (0, 0)) := (hb1.block _ (lt_of_block hblk)).trans hblk
  clear hblk hb1 hal hWA
  have bad : ∀ W : World, Below w.heap.size w W → W.heap[w.heap.size]? = some (.cells #[.int .i64 0, .int .i64 0, .int .i64 0] 174 (0, 0)) → (W.cell? ⟨w.heap.size, 0, none⟩ = some (.int .i64 0) ∧ W.cell? ⟨w.heap.size, 1, none⟩ = some (.int .i64 0) ∧ W.cell? ⟨w.heap.size, 2, none⟩ = some (.int .i64 0) ∧ ∀ o, W.frozen? ⟨w.heap.size, o, none⟩ = false) := fun W _ hW =>
    ⟨by rw [cell_of_row _ _ _ _ _ _ hW]; rfl, by rw [cell_of_row _ _ _ _ _ _ hW]; rfl, by rw [cell_of_row _ _ _ _ _ _ hW]; rfl, fun o => frozen_of_row _ _ _ _ _ hW⟩
  have BAD : Hid (∀ W : World, Below w.heap.size w W → W.heap[w.heap.size]? = some (.cells #[.int .i64 0, .int .i64 0, .int .i64 0] 174 (0, 0)) → (W.cell? ⟨w.heap.size, 0, none⟩ = some (.int .i64 0) ∧ W.cell? ⟨w.heap.size, 1, none⟩ = some (.int .i64 0) ∧ W.cell? ⟨w.heap.size, 2, none⟩ = some (.int .i64 0) ∧ ∀ o, W.frozen? ⟨w.heap.size, o, none⟩ = false)) := bad
  have HBLK : Hid (w1.heap[w.heap.size]? = some (.cells #[.int .i64 0, .int .i64 0, .int .i64 0] 174 (0, 0))) := hblk1
  clear bad hblk1
  by_cases h5 : ts.length = 5
  · obtain ⟨K, A, B, C, D, rfl⟩ := five_of h5
    have hw : words s.data.toList = [K.data.toList, A.data.toList, B.data.toList, C.data.toList, D.data.toList] := by rw [← htm]; rfl
    have hf := headO_five (Kw := kb.data.toList) hw
    have hwz : ∀ t ∈ [K, A, B, C, D], t.size ≤ maxLen := fun t ht => by
      have := hwl t.data.toList (by rw [← htm]; exact List.mem_map.2 ⟨t, ht, rfl⟩)
      rw [size_list, size_list] at this
      unfold maxLen; omega
    have HF : Hid (headO kb.data.toList s.data.toList = if K.data.toList = kb.data.toList then (match numO A.data.toList, numO B.data.toList, numO C.data.toList, numO D.data.toList with
      | some a, some b, some c, some d => some (a, b, c, d)
      | _, _, _, _ => none) else none) := hf
    obtain ⟨b, rfl, hcell⟩ := hts
    have c0 := hcell 0 (by simp)
    simp only [List.getElem_cons_zero] at c0
    have HCELL : Hid (∀ j (h : j < [K, A, B, C, D].length), w1.cell? ⟨b, j, none⟩ = some (.string [K, A, B, C, D][j])) := hcell
    clear hf hw htm hwl hcell h5
    simp only [List.length_cons, List.length_nil, Nat.zero_add, Nat.reduceAdd]
    by_cases hk : K.data.toList = kb.data.toList
    · have hkb := eqBB hk
      have hnm := numbers_any b 1 4 [A, B, C, D] w1 a (h.below hB1) (fun j hj => by
        have hj' : j + 1 < [K, A, B, C, D].length := by simp at hj ⊢; omega
        have := HCELL.out (j + 1) hj'
        rw [Nat.add_comm 1 j]
        simpa using this) (fun t ht => hwz t (List.mem_cons_of_mem _ ht)) (by simp)
      simp only [List.length_cons, List.length_nil, Nat.zero_add, Nat.reduceAdd] at hnm
      go_wp2_with fail
      refine hnm.mono ?_
      rintro e w3 ⟨hres, hb3⟩
      clear hnm c0
      have hB3 : Below w.heap.size w w3 := hB1.trans (hb3.mono hB1.size)
      obtain ⟨y0, y1, y2, fz⟩ := BAD.out w3 hB3 ((hb3.block _ (lt_of_block HBLK.out)).trans HBLK.out)
      have s0 := setCell_self y0
      have s1 := setCell_self y1
      have s2 := setCell_self y2
      rcases hres with ⟨zs, g, hzl, hzn, rfl, hzc⟩ | ⟨j, t, ht, hno, rfl⟩
      · obtain ⟨z0, z1, z2, z3, hz4⟩ : ∃ z0 z1 z2 z3, zs = [z0, z1, z2, z3] := by
          match zs, hzl with
          | [z0, z1, z2, z3], _ => exact ⟨z0, z1, z2, z3, rfl⟩
        subst hz4
        have HSOME : Hid (headO kb.data.toList s.data.toList = some (z0, z1, z2, z3)) := by
          show _ = _
          have q0 := hzn 0 A rfl
          have q1 := hzn 1 B rfl
          have q2 := hzn 2 C rfl
          have q3 := hzn 3 D rfl
          rw [HF.out, if_pos hk, q0, q1, q2, q3]
          rfl
        have k0 := hzc 0 (by simp)
        have k1 := hzc 1 (by simp)
        have k2 := hzc 2 (by simp)
        have k3 := hzc 3 (by simp)
        simp only [List.getElem_cons_succ, List.getElem_cons_zero] at k0 k1 k2 k3
        have hgw : g ≠ w.heap.size := by
          intro e
          subst e
          have := y0.symm.trans k0
          have e1 := k3
          rw [cell_of_row _ _ _ _ _ _ ((hb3.block _ (lt_of_block HBLK.out)).trans HBLK.out)] at e1
          simp at e1
        have hne1 : ¬ g = w.heap.size := hgw
        have hne2 : ¬ w.heap.size = g := fun e => hgw e.symm
        clear hzn hzc hzl hgw s0 s1 s2
        simp only [List.length_cons, List.length_nil, Nat.zero_add, Nat.reduceAdd]
        go_wp2
        go_region
        go_wp2
        refine bodyPost_ret (v := .tuple #[.agg #[.int .i64 z0, .int .i64 z1, .int .i64 z2], .int .i64 z3, .bool true]) (by simp [results, Tryz.results231, go_sem, y0, y1, y2]) rfl ⟨by unfold headR; rw [HSOME.out], ?_⟩
        exact (((hB3.setCell (by simp) _).setCell (by simp) _).setCell (by simp) _).drew
      · have HNONE : Hid (headO kb.data.toList s.data.toList = none) := by
          show _ = _
          rw [HF.out, if_pos hk]
          match j, ht with
          | 0, ht => rw [Option.some.inj ht, hno]
          | 1, ht => rw [Option.some.inj ht, hno]; split <;> simp_all
          | 2, ht => rw [Option.some.inj ht, hno]; split <;> simp_all
          | 3, ht => rw [Option.some.inj ht, hno]; split <;> simp_all
        clear ht hno
        go_wp2
        exact bodyPost_ret (v := .tuple #[.agg #[.int .i64 0, .int .i64 0, .int .i64 0], .int .i64 0, .bool false]) (by simp [results, Tryz.results231, go_sem, y0, y1, y2]) rfl ⟨by unfold headR; rw [HNONE.out], hB3⟩
    · have hkb := neBB hk
      have HNONE : Hid (headO kb.data.toList s.data.toList = none) := by
        show _ = _
        rw [HF.out, if_neg hk]
      obtain ⟨y0, y1, y2, fz⟩ := BAD.out w1 hB1 HBLK.out
      have s0 := setCell_self y0
      have s1 := setCell_self y1
      have s2 := setCell_self y2
      go_wp2
      exact bodyPost_ret (v := .tuple #[.agg #[.int .i64 0, .int .i64 0, .int .i64 0], .int .i64 0, .bool false]) (by simp [results, Tryz.results231, go_sem, y0, y1, y2]) rfl ⟨by unfold headR; rw [HNONE.out], hB1⟩
  · have HNONE : Hid (headO kb.data.toList s.data.toList = none) := headO_other (fun e => h5 (by rw [← e, ← htm, List.length_map]))
    have hne : ¬ (ts.length : Int) = 5 := by omega
    obtain ⟨b, rfl, _⟩ := hts
    obtain ⟨y0, y1, y2, fz⟩ := BAD.out w1 hB1 HBLK.out
    have s0 := setCell_self y0
    have s1 := setCell_self y1
    have s2 := setCell_self y2
    clear htm hwl h5
    go_wp2
    exact bodyPost_ret (v := .tuple #[.agg #[.int .i64 0, .int .i64 0, .int .i64 0], .int .i64 0, .bool false]) (by simp [results, Tryz.results231, go_sem, y0, y1, y2]) rfl ⟨by unfold headR; rw [HNONE.out], hB1⟩
end Go.Proofs.YtdhkdjlgmbejnaaGreatDoor
namespace Go.Proofs.YtdhkdjlgmbejnaaGreatDoor
open Go.RowKit Go.Extern.Stop Go.Stop Go.Extern Go.Sort Go.Shelf Go.Lib

def strLen : Value → Nat
  | .string s => s.size
  | _ => 0

def stepE {β : Type} (k : FK β) (acc : List β) (l : List UInt8) : Nat := if (k.rd l).2 ≠ 0 then (k.rd l).2 else if acc ≠ [] ∧ k.bad (k.rd l).1 (acc.getLastD k.d) = true then 9 else 0

theorem rowsG_step {β : Type} (k : FK β) (l : List UInt8) (r : List (List UInt8)) (hr : r ≠ []) (at_ : Nat) (acc : List β) : rowsG k (l :: r) at_ acc = if stepE k acc l ≠ 0 then ([], stepE k acc l, at_) else rowsG k r (at_ + 1) (acc ++ [(k.rd l).1]) := by
  obtain ⟨l2, r2, rfl⟩ := List.exists_cons_of_ne_nil hr
  rw [rowsG_cons]
  unfold stepE
  by_cases h1 : (k.rd l).2 ≠ 0
  · simp only [if_pos h1]
  · simp only [if_neg h1]
    by_cases h2 : acc ≠ [] ∧ k.bad (k.rd l).1 (acc.getLastD k.d) = true
    · simp only [if_pos h2]; rfl
    · simp only [if_neg h2]; rfl

structure Taker {β : Type} (k : FK β) (a : Nat → Addr) (En : World → Prop) (F bl B P Q : Nat) (Inv : World → List β → Prop) : Prop where
  env : ∀ {W : World}, En W → EnvD0 W a
  ent : ∀ args w, (callFunc F args).run Tryz.prog w = .ok (.enter F args) w
  low : B ≤ P
  keep : ∀ {W W' : World} {acc : List β}, Inv W acc → Below W.heap.size W W' → Inv W' acc
  set : ∀ {W : World} {acc : List β} (j o : Nat) (u : Value), P ≤ j → j < Q → Inv W acc → Inv (W.setCell ⟨j, o, none⟩ u) acc
  take : ∀ (W : World) (line : ByteArray) (acc : List β), En W → Inv W acc → Q ≤ W.heap.size → line.size ≤ 100000 → acc.length ≤ 100000 →
    Calls Tryz.prog F #[.string line, .pointer (some ⟨bl, 0, none⟩)] W fun e w' => Below B W w' ∧ (∀ j, P ≤ j → j < Q → w'.heap[j]? = W.heap[j]?) ∧
      ((stepE k acc line.data.toList ≠ 0 ∧ e = .returned (.tuple #[.int .i64 0, errV a (stepE k acc line.data.toList)]) ∧ Inv w' acc) ∨
       (stepE k acc line.data.toList = 0 ∧ e = .returned (.tuple #[.int .i64 (k.key (k.rd line.data.toList).1), .nilIface]) ∧ Inv w' (acc ++ [(k.rd line.data.toList).1])))

def FunAt (W : World) (t F bl : Nat) : Prop := W.heap[t]? = some (.cells #[.func (.func F) #[] #[.pointer (some ⟨bl, 0, none⟩)]] 180 (0, 0))

theorem FunAt.cell {W : World} {t F bl : Nat} (h : FunAt W t F bl) : W.cell? ⟨t, 0, none⟩ = some (.func (.func F) #[] #[.pointer (some ⟨bl, 0, none⟩)]) := cell_of_one h
theorem FunAt.below {W W' : World} {t F bl : Nat} (h : FunAt W t F bl) (hb : Below W.heap.size W W') : FunAt W' t F bl := by
  unfold FunAt at *
  exact (hb.block t (lt_of_block h)).trans h

set_option maxRecDepth 100000 in
set_option maxHeartbeats 2000000 in
theorem line1_any {β : Type} {k : FK β} {a : Nat → Addr} {En : World → Prop} {F bl B P Q : Nat} {Inv : World → List β → Prop} (T : Taker k a En F bl B P Q Inv) (t g : Nat) (line : ByteArray) (acc : List β) (W : World) (hE : En W) (hI : Inv W acc) (hQ : Q ≤ W.heap.size) (hF : FunAt W t F bl) (hH : HeadAt W g acc.length (endsZ (keysG k acc))) (ht : P ≤ t ∧ t < Q) (hg : P ≤ g ∧ g < Q) (htg : t ≠ g) (hs : line.size ≤ 100000) (hl : acc.length ≤ 100000) :
    Calls Tryz.prog 233 #[.string line, .pointer (some ⟨t, 0, none⟩), .pointer (some ⟨g, 0, none⟩)] W fun e w' => Below B W w' ∧ FunAt w' t F bl ∧ (∀ j, P ≤ j → j < Q → j ≠ g → w'.heap[j]? = W.heap[j]?) ∧
      ((stepE k acc line.data.toList ≠ 0 ∧ e = .returned (errV a (stepE k acc line.data.toList))) ∨
       (stepE k acc line.data.toList = 0 ∧ e = .returned .nilIface ∧ Inv w' (acc ++ [(k.rd line.data.toList).1]) ∧ HeadAt w' g (acc.length + 1) (endsZ (keysG k (acc ++ [(k.rd line.data.toList).1]))))) := by
  have eg := T.ent
  have htk := T.take W line acc hE hI hQ hs hl
  have hc := hF.cell
  have hBg : B ≤ g := Nat.le_trans T.low hg.1
  have HFA : Hid (FunAt W t F bl) := hF
  have HHA : Hid (HeadAt W g acc.length (endsZ (keysG k acc))) := hH
  have HKE : Hid (endsZ (keysG k (acc ++ [(k.rd line.data.toList).1])) = endsP acc.length (endsZ (keysG k acc)) (k.key (k.rd line.data.toList).1)) := by
    show _ = _
    have := ends_more (keysG k acc) (k.key (k.rd line.data.toList).1)
    rw [show (keysG k acc).length = acc.length by simp [keysG]] at this
    rw [← this]
    simp [keysG]
  have HT : Hid (Taker k a En F bl B P Q Inv) := T
  clear hF hH hI T
  obtain ⟨E, hEE⟩ : ∃ E, stepE k acc line.data.toList = E := ⟨_, rfl⟩
  rw [hEE] at htk
  simp only [hEE]
  clear hEE
  obtain ⟨x, hx⟩ : ∃ x, (k.rd line.data.toList).1 = x := ⟨_, rfl⟩
  rw [hx] at htk HKE
  simp only [hx]
  clear hx
  by_cases hE0 : E = 0
  · subst hE0
    have htk2 : Calls Tryz.prog F #[.string line, .pointer (some ⟨bl, 0, none⟩)] W fun e w' => e = .returned (.tuple #[.int .i64 (k.key x), .nilIface]) ∧ Below B W w' ∧ (∀ j, P ≤ j → j < Q → w'.heap[j]? = W.heap[j]?) ∧ Inv w' (acc ++ [x]) := htk.mono fun e w' ⟨h1, h2, h3⟩ => by
      rcases h3 with ⟨h, _⟩ | ⟨_, h, h'⟩
      · exact absurd rfl h
      · exact ⟨h, h1, h2, h'⟩
    clear htk
    generalize k.key x = key at htk2 HKE
    go_enter Tryz.func233, Tryz.ntmps233
    go_wp2_with (go_at_fn F; refine htk2.mono ?_; rintro e w1 ⟨rfl, hb1, hfr, hI1⟩)
    clear htk2
    have hFA1 : FunAt w1 t F bl := by have := HFA.out; unfold FunAt at *; rw [hfr t ht.1 ht.2]; exact this
    have hHA1 : HeadAt w1 g acc.length (endsZ (keysG k acc)) := by have := HHA.out; unfold HeadAt at *; rw [hfr g hg.1 hg.2]; exact this
    have HFR : Hid (∀ j, P ≤ j → j < Q → w1.heap[j]? = W.heap[j]?) := hfr
    have HF1 : Hid (FunAt w1 t F bl) := hFA1
    have hct := count_any g acc.length (endsZ (keysG k acc)) key w1 hHA1 hl
    have HI1 : Hid (Inv w1 (acc ++ [x])) := hI1
    have HH1 : Hid (HeadAt w1 g acc.length (endsZ (keysG k acc))) := hHA1
    clear hfr hFA1 hc hHA1 hI1
    refine hct.mono ?_
    rintro e w2 ⟨rfl, rfl⟩
    clear hct
    go_wp2
    go_ret
    refine ⟨headW_below hb1 hBg, ?_, fun j h1 h2 h3 => ?_, Or.inr ⟨by first | rfl | trivial, rfl, ?_, ?_⟩⟩
    · have := HF1.out
      unfold FunAt at *
      rw [headW_other _ _ _ _ _ htg]; exact this
    · rw [headW_other _ _ _ _ _ h3]; exact HFR.out j h1 h2
    · exact HT.out.set g 0 _ hg.1 hg.2 (HT.out.set g 2 _ hg.1 hg.2 (HT.out.set g 1 _ hg.1 hg.2 HI1.out))
    · rw [HKE.out]; exact headW_at HH1.out
  · obtain ⟨E', hE'⟩ : ∃ E', E = E' + 1 := ⟨E - 1, by omega⟩
    subst hE'
    have htk2 : Calls Tryz.prog F #[.string line, .pointer (some ⟨bl, 0, none⟩)] W fun e w' => e = .returned (.tuple #[.int .i64 0, .iface 327 (.pointer (some (a E')))]) ∧ Below B W w' ∧ (∀ j, P ≤ j → j < Q → w'.heap[j]? = W.heap[j]?) := htk.mono fun e w' ⟨h1, h2, h3⟩ => by
      rcases h3 with ⟨_, h, _⟩ | ⟨h, _⟩
      · exact ⟨h, h1, h2⟩
      · exact absurd h hE0
    clear htk
    simp only [errV]
    go_enter Tryz.func233, Tryz.ntmps233
    go_wp2_with (go_at_fn F; refine htk2.mono ?_; rintro e w1 ⟨rfl, hb1, hfr⟩)
    clear htk2
    have hFA1 : FunAt w1 t F bl := by have := HFA.out; unfold FunAt at *; rw [hfr t ht.1 ht.2]; exact this
    go_ret
    exact ⟨hb1, hFA1, fun j h1 h2 _ => hfr j h1 h2, Or.inl ⟨hE0, rfl⟩⟩

def LinesPost {β : Type} (k : FK β) (W : World) (a : Nat → Addr) (B P Q g : Nat) (Inv : World → List β → Prop) (R : List β × Nat × Nat) (e : Ending) (w' : World) : Prop :=
  Below B W w' ∧ (∀ j, P ≤ j → j < Q → j ≠ g → w'.heap[j]? = W.heap[j]?) ∧ ((R.2.1 = 0 ∧ e = .returned .nilIface ∧ Inv w' R.1 ∧ HeadAt w' g R.1.length (endsZ (keysG k R.1))) ∨
    (R.2.1 ≠ 0 ∧ ∃ fb, e = .returned (.iface 92 (.pointer (some ⟨fb, 0, none⟩))) ∧ w'.cell? ⟨fb, 0, none⟩ = some (.int .i64 R.2.2) ∧ w'.cell? ⟨fb, 1, none⟩ = some (errV a R.2.1)))

theorem frame_below {B W w w' P Q g} (_ : Below B W w) (h : ∀ j, P ≤ j → j < Q → j ≠ g → w.heap[j]? = W.heap[j]?) (hQ : Q ≤ w.heap.size) (hb : Below w.heap.size w w') : ∀ j, P ≤ j → j < Q → j ≠ g → w'.heap[j]? = W.heap[j]? :=
  fun j h1 h2 h3 => (hb.block j (Nat.lt_of_lt_of_le h2 hQ)).trans (h j h1 h2 h3)

set_option maxRecDepth 100000 in
set_option maxHeartbeats 8000000 in
theorem eachLine_any {β : Type} {k : FK β} {a : Nat → Addr} {En : World → Prop} {F bl B P Q : Nat} {Inv : World → List β → Prop} (T : Taker k a En F bl B P Q Inv) (t g : Nat) (body : ByteArray) (W : World) (hlowE : ∀ W', Below B W W' → En W') (hI : Inv W []) (hQ : Q ≤ W.heap.size) (hBW : B ≤ W.heap.size) (hF : FunAt W t F bl) (hH : HeadAt W g 0 (0, 0)) (ht : P ≤ t ∧ t < Q) (hg : P ≤ g ∧ g < Q) (htg : t ≠ g) (hs : body.size ≤ 20000) :
    Calls Tryz.prog 232 #[.string body, .func (.func 233) #[] #[.pointer (some ⟨t, 0, none⟩), .pointer (some ⟨g, 0, none⟩)]] W fun e w' => LinesPost k W a B P Q g Inv (rowsG k (pieces 10 body.data.toList) 0 []) e w' := by
  have eg : ∀ args w, (callFunc 233 args).run Tryz.prog w = .ok (.enter 233 args) w := enters_of Tryz.func233 (by kernel_rfl) rfl
  obtain ⟨R, hR⟩ : ∃ R, rowsG k (pieces 10 body.data.toList) 0 [] = R := ⟨_, rfl⟩
  rw [hR]
  have HR : Hid (rowsG k (pieces 10 body.data.toList) 0 [] = R) := hR
  clear hR
  have HT : Hid (Taker k a En F bl B P Q Inv) := T
  have hHn : HeadAt W g ([] : List β).length (endsZ (keysG k [])) := hH
  clear T hH
  go_enter Tryz.func232, Tryz.ntmps232
  go_wp2
  go_loopw [0, 5] (fun sv n wr => ∃ (rest : ByteArray) (acc : List β), sv = .string rest ∧ n = .int .i64 acc.length ∧ rest.size + acc.length ≤ 20000 ∧ Below B W wr ∧ (∀ j, P ≤ j → j < Q → j ≠ g → wr.heap[j]? = W.heap[j]?) ∧ Inv wr acc ∧ FunAt wr t F bl ∧ HeadAt wr g acc.length (endsZ (keysG k acc)) ∧ rowsG k (pieces 10 rest.data.toList) acc.length acc = R) (fun sv _ _ => strLen sv)
  case atStart => exact ⟨body, [], rfl, rfl, by simpa using hs, Below.refl _ _, fun _ _ _ _ => rfl, hI, hF, hHn, HR.out⟩
  case round =>
    clear hI hF hHn
    obtain ⟨rest, acc, rfl, rfl, hsz, hb, hfr, hIr, hFr, hHr, hrec⟩ := hrel
    have HREC : Hid (rowsG k (pieces 10 rest.data.toList) acc.length acc = R) := hrec
    have HFR : Hid (∀ j, P ≤ j → j < Q → j ≠ g → wr.heap[j]? = W.heap[j]?) := hfr
    clear hrec HR hfr
    have hEr := hlowE wr hb
    have hQr : Q ≤ wr.heap.size := Nat.le_trans hQ hb.size
    have hBr : B ≤ wr.heap.size := Nat.le_trans hBW hb.size
    obtain ⟨n, hn⟩ : ∃ n, acc.length = n := ⟨_, rfl⟩
    have HN : Hid (acc.length = n) := hn
    rw [hn] at hsz
    simp only [hn]
    clear hn
    by_cases he : rest.size = 0
    · have hre : rest.data.toList = [] := List.length_eq_zero_iff.1 (by rw [size_list]; exact he)
      have hbe : (rest.toList == []) = true := eqB_of hre
      have HRE : Hid (R = (acc, 0, 0)) := by
        show _ = _
        rw [← HREC.out, hre]; rfl
      have HIr : Hid (Inv wr acc ∧ HeadAt wr g acc.length (endsZ (keysG k acc))) := ⟨hIr, hHr⟩
      clear hre hIr hHr hFr
      go_wp2
      go_ret
      refine ⟨hb, HFR.out, Or.inl ⟨by rw [HRE.out], rfl, ?_, ?_⟩⟩
      · rw [HRE.out]; exact HIr.out.1
      · rw [HRE.out]; exact HIr.out.2
    · have hne : rest.data.toList ≠ [] := fun e => he (by rw [← size_list, e]; rfl)
      have hbe : (rest.toList == []) = false := neB_of hne
      obtain ⟨mx, hmx⟩ := (HT.out.env hEr).env.maxl
      have hcut := Tryz.strings_Cut rest ⟨#[10]⟩ mx wr (by omega) hmx
      dsimp only at hcut
      rcases cut_cases 10 rest.data.toList with ⟨hno, hc⟩ | ⟨la, lb, hl, hno, hc⟩
      · rw [hc] at hcut
        dsimp only at hcut
        have HRE : Hid (R = ([], 1, n)) := by
          show _ = _
          rw [← HREC.out, pieces_none 10 _ hno, rowsG_one, if_neg hne, HN.out]
        clear hc hno hne hIr hHr hFr
        generalize (⟨rest.data.toList.toArray⟩ : ByteArray) = fB at hcut
        go_wp2_with fail
        refine hcut.mono ?_
        rintro e w1 ⟨rfl, q, rfl⟩
        clear hcut
        have hbq : Below wr.heap.size wr (wr.drewN q) := below_drewN (Below.refl _ _) q
        have hb1 : Below B W (wr.drewN q) := hb.trans (hbq.mono hBr)
        have HF1 : Hid (∀ j, P ≤ j → j < Q → j ≠ g → (wr.drewN q).heap[j]? = W.heap[j]?) := frame_below hb HFR.out hQr hbq
        have ht := (HT.out.env (hlowE _ hb1)).env.text
        have hQ1 : Q ≤ (wr.drewN q).heap.size := Nat.le_trans hQ hb1.size
        clear hEr hmx hbq
        generalize wr.drewN q = W1 at hb1 ht HF1 hQ1 ⊢
        have hal : Below W1.heap.size W1 (W1.alloc (.cells #[.int .i64 n, .iface 327 (.pointer (some (a 0)))] 94)) := (Below.refl _ _).alloc (Nat.le_refl _) _
        have hb2 : Below B W (W1.alloc (.cells #[.int .i64 n, .iface 327 (.pointer (some (a 0)))] 94)) := hb1.trans (hal.mono (Nat.le_trans hBW hb1.size))
        have HF2 : Hid (∀ j, P ≤ j → j < Q → j ≠ g → (W1.alloc (.cells #[.int .i64 n, .iface 327 (.pointer (some (a 0)))] 94)).heap[j]? = W.heap[j]?) := frame_below hb1 HF1.out hQ1 hal
        go_wp2
        go_ret
        exact ⟨hb2, HF2.out, Or.inr ⟨by rw [HRE.out]; exact Nat.one_ne_zero, W1.heap.size, rfl, by rw [HRE.out]; simp, by rw [HRE.out]; simp [errV]⟩⟩
      · rw [hc] at hcut
        dsimp only at hcut
        have hlen : la.length + lb.length + 1 = rest.size := by rw [← size_list, hl]; simp; omega
        have hrw : R = if stepE k acc la ≠ 0 then ([], stepE k acc la, n) else rowsG k (pieces 10 lb) (n + 1) (acc ++ [(k.rd la).1]) := by
          rw [← HREC.out, hl, pieces_append 10 la lb hno, rowsG_step k la _ (pieces_ne 10 lb), HN.out]
        have eA : (⟨la.toArray⟩ : ByteArray) = bytesOf la := rfl
        have eB : (⟨lb.toArray⟩ : ByteArray) = bytesOf lb := rfl
        rw [eA, eB] at hcut
        have eAd : (bytesOf la).data.toList = la := by simp [bytesOf]
        have eBd : (bytesOf lb).data.toList = lb := by simp [bytesOf]
        have hsA : (bytesOf la).size ≤ 100000 := by rw [bytes_len]; omega
        have hszB : (bytesOf lb).size + n + 1 ≤ 20000 ∧ (bytesOf lb).size < rest.size := by rw [bytes_len]; omega
        have hacl : acc.length ≤ 100000 := by rw [HN.out]; omega
        clear hc hno hne hl eA eB hlen
        go_wp2_with fail
        refine hcut.mono ?_
        rintro e w1 ⟨rfl, q, rfl⟩
        clear hcut
        have hbq : Below wr.heap.size wr (wr.drewN q) := below_drewN (Below.refl _ _) q
        have hb1 : Below B W (wr.drewN q) := hb.trans (hbq.mono hBr)
        have HF1 : Hid (∀ j, P ≤ j → j < Q → j ≠ g → (wr.drewN q).heap[j]? = W.heap[j]?) := frame_below hb HFR.out hQr hbq
        have hE1 := hlowE _ hb1
        have hQ1 : Q ≤ (wr.drewN q).heap.size := Nat.le_trans hQ hb1.size
        have hI1 := HT.out.keep hIr hbq
        have hFn1 := hFr.below hbq
        have hH1 := hHr.below hbq
        clear hIr hFr hHr hEr hmx hbq
        generalize wr.drewN q = W1 at hb1 HF1 hE1 hQ1 hI1 hFn1 hH1 ⊢
        have hln := line1_any HT.out t g (bytesOf la) acc W1 hE1 hI1 hQ1 hFn1 hH1 ht hg htg hsA hacl
        rw [eAd] at hln
        have HBD : Hid ((bytesOf lb).data.toList = lb) := eBd
        clear hI1 hFn1 hH1 eAd eBd hacl
        obtain ⟨E, hEE⟩ : ∃ E, stepE k acc la = E := ⟨_, rfl⟩
        rw [hEE] at hln hrw
        clear hEE
        by_cases hE0 : E = 0
        · subst hE0
          rw [if_neg (by simp)] at hrw
          have HRE : Hid (rowsG k (pieces 10 lb) (n + 1) (acc ++ [(k.rd la).1]) = R) := hrw.symm
          clear hrw
          simp only [ne_eq, not_true_eq_false, false_and, false_or, true_and] at hln
          generalize (k.rd la).1 = x at hln HRE
          generalize bytesOf la = lA at hln hsA ⊢
          generalize bytesOf lb = lB at hszB HBD ⊢
          go_wp2_with (go_at_fn 233; refine hln.mono ?_; rintro e w2 ⟨hb2, hF2, hfr2, rfl, hI2, hH2⟩)
          have hb3 : Below B W w2 := hb1.trans hb2
          have HALL : Hid ((∀ j, P ≤ j → j < Q → j ≠ g → w2.heap[j]? = W.heap[j]?) ∧ Inv w2 (acc ++ [x]) ∧ FunAt w2 t F bl ∧ HeadAt w2 g (acc ++ [x]).length (endsZ (keysG k (acc ++ [x])))) :=
            ⟨fun j h1 h2 h3 => (hfr2 j h1 h2 h3).trans (HF1.out j h1 h2 h3), hI2, hF2, by rw [List.length_append]; exact hH2⟩
          clear hfr2 hI2 hF2 hH2 hln
          go_roundw
          case rel => exact ⟨lB, acc ++ [x], rfl, by rw [List.length_append, HN.out]; go_num, by rw [List.length_append, HN.out]; simp; omega, hb3, HALL.out.1, HALL.out.2.1, HALL.out.2.2.1, HALL.out.2.2.2, by rw [HBD.out, List.length_append, HN.out]; exact HRE.out⟩
          case measure => simp only [strLen]; exact hszB.2
        · rw [if_pos hE0] at hrw
          obtain ⟨E', hE'⟩ : ∃ E', E = E' + 1 := ⟨E - 1, by omega⟩
          subst hE'
          have HRE : Hid (R = ([], E' + 1, n)) := hrw
          clear hrw
          simp only [errV, ne_eq, Nat.succ_ne_zero, not_false_eq_true, false_and, or_false, true_and] at hln
          generalize bytesOf la = lA at hln hsA ⊢
          generalize bytesOf lb = lB at hszB HBD ⊢
          go_wp2_with (go_at_fn 233; refine hln.mono ?_; rintro e w2 ⟨hb2, hF2, hfr2, rfl⟩)
          have hb3 : Below B W w2 := hb1.trans hb2
          have HF3 : Hid (∀ j, P ≤ j → j < Q → j ≠ g → w2.heap[j]? = W.heap[j]?) := fun j h1 h2 h3 => (hfr2 j h1 h2 h3).trans (HF1.out j h1 h2 h3)
          have hQ3 : Q ≤ w2.heap.size := Nat.le_trans hQ hb3.size
          have hal : Below w2.heap.size w2 (w2.alloc (.cells #[.int .i64 n, .iface 327 (.pointer (some (a E')))] 94)) := (Below.refl _ _).alloc (Nat.le_refl _) _
          have hb4 : Below B W (w2.alloc (.cells #[.int .i64 n, .iface 327 (.pointer (some (a E')))] 94)) := hb3.trans (hal.mono (Nat.le_trans hBW hb3.size))
          have HF4 : Hid (∀ j, P ≤ j → j < Q → j ≠ g → (w2.alloc (.cells #[.int .i64 n, .iface 327 (.pointer (some (a E')))] 94)).heap[j]? = W.heap[j]?) := frame_below hb3 HF3.out hQ3 hal
          clear hfr2 hF2 hln
          go_wp2
          go_ret
          exact ⟨hb4, HF4.out, Or.inr ⟨by rw [HRE.out]; exact Nat.succ_ne_zero _, w2.heap.size, rfl, by rw [HRE.out]; simp, by rw [HRE.out]; simp [errV]⟩⟩
end Go.Proofs.YtdhkdjlgmbejnaaGreatDoor
