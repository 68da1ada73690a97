/-
  The contract of data.readHead: the four numbers of a head's line.
-/
import Derived.Test.YtpkoefpdpoikkaaGreatDoorFmtU
import Derived.Deep.RegionHeld3
import Derived.Lib.JoinLaws
namespace Go.Proofs.YtpkoefpdpoikkaaGreatDoor
open Go.RowKit Go.Extern.Stop Go.Stop Go.Extern Go.Sort Go.Shelf Go.Lib

theorem bytes_len (l : List UInt8) : (bytesOf l).size = l.length := by rw [← size_list]; simp [bytesOf]

theorem ends_snoc (zs : List Int) (k : Int) (h : zs ≠ []) : endsZ (zs ++ [k]) = (if k < (endsZ zs).1 then k else (endsZ zs).1, if (endsZ zs).2 < k then k else (endsZ zs).2) := by
  cases zs with
  | nil => exact absurd rfl h
  | cons z r =>
    show ((r ++ [k]).foldl _ z, (r ++ [k]).foldl _ z) = _
    rw [List.foldl_append, List.foldl_append]
    rfl
def HeadAt (W : World) (g : Nat) (n : Nat) (E : Int × Int) : Prop := W.heap[g]? = some (.cells #[.int .i64 n, .int .i64 E.1, .int .i64 E.2] 160 (0, 0))

def headW (W : World) (g : Nat) (n : Nat) (E : Int × Int) : World := ((W.setCell ⟨g, 1, none⟩ (.int .i64 E.1)).setCell ⟨g, 2, none⟩ (.int .i64 E.2)).setCell ⟨g, 0, none⟩ (.int .i64 n)

def endsP (n : Nat) (E : Int × Int) (key : Int) : Int × Int := if n = 0 then (key, key) else (if key < E.1 then key else E.1, if E.2 < key then key else E.2)

theorem ends_more (zs : List Int) (key : Int) : endsZ (zs ++ [key]) = endsP zs.length (endsZ zs) key := by
  unfold endsP
  by_cases h : zs = []
  · subst h; rfl
  · rw [ends_snoc _ _ h, if_neg (fun e => h (List.length_eq_zero_iff.1 e))]

theorem headW_at {W : World} {g n m : Nat} {E E' : Int × Int} (h : HeadAt W g n E) : HeadAt (headW W g m E') g m E' := by
  unfold HeadAt headW at *
  rw [heap_setCell_same _ _ _ _ _ _ (heap_setCell_same _ _ _ _ _ _ (heap_setCell_same _ _ _ _ _ _ h))]
  rfl
theorem headW_other (W : World) (g m j : Nat) (E' : Int × Int) (hj : j ≠ g) : (headW W g m E').heap[j]? = W.heap[j]? := by
  unfold headW
  rw [heap_setCell_other _ _ _ _ hj, heap_setCell_other _ _ _ _ hj, heap_setCell_other _ _ _ _ hj]
theorem headW_size (W : World) (g m : Nat) (E' : Int × Int) : (headW W g m E').heap.size = W.heap.size := by
  unfold headW; simp [World.setCell]
theorem headW_below {W W0 : World} {B g m : Nat} {E' : Int × Int} (h : Below B W0 W) (hg : B ≤ g) : Below B W0 (headW W g m E') := ((h.setCell hg _).setCell hg _).setCell hg _

theorem HeadAt.cells {W : World} {g n : Nat} {E : Int × Int} (h : HeadAt W g n E) : W.cell? ⟨g, 0, none⟩ = some (.int .i64 n) ∧ W.cell? ⟨g, 1, none⟩ = some (.int .i64 E.1) ∧ W.cell? ⟨g, 2, none⟩ = some (.int .i64 E.2) ∧ ∀ o, W.frozen? ⟨g, o, none⟩ = false := by
  unfold HeadAt at h
  exact ⟨by rw [cell_of_row _ _ _ _ _ _ h]; rfl, by rw [cell_of_row _ _ _ _ _ _ h]; rfl, by rw [cell_of_row _ _ _ _ _ _ h]; rfl, fun o => frozen_of_row _ _ _ _ _ h⟩

theorem HeadAt.below {W W' : World} {g n : Nat} {E : Int × Int} (h : HeadAt W g n E) (hb : Below W.heap.size W W') : HeadAt W' g n E := by
  unfold HeadAt at *
  exact (hb.block g (lt_of_block h)).trans h

set_option maxRecDepth 100000 in
set_option maxHeartbeats 4000000 in
theorem count_any (g n : Nat) (E : Int × Int) (key : Int) (W : World) (h : HeadAt W g n E) (hn : n ≤ 100000) :
    Calls Tryz.prog 122 #[.pointer (some ⟨g, 0, none⟩), .int .i64 key] W fun e w' => e = .returned (.tuple #[]) ∧ w' = headW W g (n + 1) (endsP n E key) := by
  obtain ⟨lo, hi⟩ := E
  have HA : Hid (HeadAt W g n (lo, hi)) := h
  obtain ⟨c0, c1, c2, cf⟩ := h.cells
  dsimp only at c1 c2
  have hw1 : IntKind.i64.wrap ((n : Int) + 1) = (n : Int) + 1 := IntWalk.i64_in _ (by omega)
  have key0 : ∀ lo' hi', Hid (HeadAt (W.setCell ⟨g, 1, none⟩ (.int .i64 lo')) g n (lo', hi) ∧ HeadAt ((W.setCell ⟨g, 1, none⟩ (.int .i64 lo')).setCell ⟨g, 2, none⟩ (.int .i64 hi')) g n (lo', hi')) := fun lo' hi' => by
    have h1 : HeadAt (W.setCell ⟨g, 1, none⟩ (.int .i64 lo')) g n (lo', hi) := by
      have := HA.out
      unfold HeadAt at *
      rw [heap_setCell_same _ _ _ _ _ _ this]; rfl
    refine ⟨h1, ?_⟩
    unfold HeadAt at *
    rw [heap_setCell_same _ _ _ _ _ _ h1]; rfl
  by_cases hn0 : n = 0
  · subst hn0
    have HE : Hid (endsP 0 (lo, hi) key = (key, key)) := rfl
    obtain ⟨d1, d2⟩ := (key0 key key).out
    obtain ⟨c10, c11, c12, c1f⟩ := d1.cells
    obtain ⟨c20, c21, c22, c2f⟩ := d2.cells
    clear key0 d1 d2 h
    dsimp only at c11 c12 c21 c22
    go_enter Tryz.func122, Tryz.ntmps122
    go_wp2
    go_end0
    refine ⟨rfl, ?_⟩
    rw [HE.out]
    rfl
  · have hnz : ((n : Int) == 0) = false := by rw [beq_eq_false_iff_ne]; omega
    have hnz2 : ¬ (n : Int) = 0 := by omega
    by_cases hl1 : key < lo
    · by_cases hl2 : hi < key
      · have HE : Hid (endsP n (lo, hi) key = (key, key)) := by show _ = _; unfold endsP; rw [if_neg hn0]; simp [hl1, hl2]
        obtain ⟨d1, d2⟩ := (key0 key key).out
        obtain ⟨c10, c11, c12, c1f⟩ := d1.cells
        obtain ⟨c20, c21, c22, c2f⟩ := d2.cells
        clear key0 d1 d2 h
        dsimp only at c11 c12 c21 c22
        go_enter Tryz.func122, Tryz.ntmps122
        go_wp2
        go_end0
        refine ⟨rfl, ?_⟩
        rw [HE.out]
        rfl
      · have HE : Hid (endsP n (lo, hi) key = (key, hi)) := by show _ = _; unfold endsP; rw [if_neg hn0]; simp [hl1, hl2]
        obtain ⟨d1, d2⟩ := (key0 key hi).out
        obtain ⟨c10, c11, c12, c1f⟩ := d1.cells
        have S : Hid ((W.setCell ⟨g, 1, none⟩ (.int .i64 key)).setCell ⟨g, 2, none⟩ (.int .i64 hi) = W.setCell ⟨g, 1, none⟩ (.int .i64 key)) := setCell_self c12
        clear key0 d1 d2 h
        dsimp only at c11 c12
        go_enter Tryz.func122, Tryz.ntmps122
        go_wp2
        go_end0
        refine ⟨rfl, ?_⟩
        rw [HE.out]
        unfold headW
        dsimp only
        rw [S.out]
        rfl
    · have S1 : Hid (W.setCell ⟨g, 1, none⟩ (.int .i64 lo) = W) := setCell_self c1
      have S2 : Hid (W.setCell ⟨g, 2, none⟩ (.int .i64 hi) = W) := setCell_self c2
      by_cases hl2 : hi < key
      · have HE : Hid (endsP n (lo, hi) key = (lo, key)) := by show _ = _; unfold endsP; rw [if_neg hn0]; simp [hl1, hl2]
        obtain ⟨d1, d2⟩ := (key0 lo key).out
        rw [S1.out] at d2
        obtain ⟨c20, c21, c22, c2f⟩ := d2.cells
        clear key0 d1 d2 h
        dsimp only at c21 c22
        go_enter Tryz.func122, Tryz.ntmps122
        go_wp2
        go_end0
        refine ⟨rfl, ?_⟩
        rw [HE.out]
        unfold headW
        dsimp only
        rw [S1.out]
        rfl
      · have HE : Hid (endsP n (lo, hi) key = (lo, hi)) := by show _ = _; unfold endsP; rw [if_neg hn0]; simp [hl1, hl2]
        clear key0 h
        go_enter Tryz.func122, Tryz.ntmps122
        go_wp2
        go_end0
        refine ⟨rfl, ?_⟩
        rw [HE.out]
        unfold headW
        dsimp only
        rw [S1.out, S2.out]
        rfl

set_option maxRecDepth 100000 in
set_option maxHeartbeats 4000000 in
theorem headText_any (kb : ByteArray) (hK : kb.data.toList.length ≤ 4) (n : Nat) (lo hi : Int) (sum : Nat) (w : World) (a : Nat → Addr) (h : Env0 w a) (hn : n ≤ 1000) (hlo : inNum lo = true) (hhi : inNum hi = true) (hs : sum < 4294967296) :
    Calls Tryz.prog 123 #[.agg #[.int .i64 n, .int .i64 lo, .int .i64 hi], .string kb, .int .u32 sum] w fun e w' => e = .returned (.string (bytesOf (headL kb.data.toList n lo hi sum))) ∧ Below w.heap.size w w' := by
  have hlen := head_len hK n lo hi sum (by omega) hlo hhi (by omega)
  simp only [inNum, Bool.and_eq_true, decide_eq_true_eq] at hlo hhi
  have hw0 : IntKind.u64.wrap (sum : Int) = (sum : Int) := by rw [IntKind.wrap_u64]; omega
  have hal : Below w.heap.size w (w.alloc (.cells #[.int .i64 n, .int .i64 lo, .int .i64 hi] 160)) := (Below.refl _ _).alloc (Nat.le_refl _) _
  have hEA := h.below hal
  have x0 : (w.alloc (.cells #[.int .i64 n, .int .i64 lo, .int .i64 hi] 160)).cell? ⟨w.heap.size, 0, none⟩ = some (.int .i64 n) := by simp
  have x1 : (w.alloc (.cells #[.int .i64 n, .int .i64 lo, .int .i64 hi] 160)).cell? ⟨w.heap.size, 1, none⟩ = some (.int .i64 lo) := by simp
  have x2 : (w.alloc (.cells #[.int .i64 n, .int .i64 lo, .int .i64 hi] 160)).cell? ⟨w.heap.size, 2, none⟩ = some (.int .i64 hi) := by simp
  go_enter Tryz.func123, Tryz.ntmps123
  go_wp2_with fail
  generalize hW0 : w.alloc (.cells #[.int .i64 n, .int .i64 lo, .int .i64 hi] 160) = W0 at hal hEA x0 x1 x2 ⊢
  generalize w.heap.size = g at x0 x1 x2
  have hb0 : Below W0.heap.size W0 W0 := Below.refl _ _
  go_region_held3 (fun w' => w'.cell? ⟨g, 0, none⟩ = some (.int .i64 n) ∧ w'.cell? ⟨g, 1, none⟩ = some (.int .i64 lo) ∧ w'.cell? ⟨g, 2, none⟩ = some (.int .i64 hi) ∧ Below W0.heap.size W0 w')
    (first
      | (go_split_ands; exact ⟨below_keep hbX (by assumption), below_keep hbX (by assumption), below_keep hbX (by assumption), Below.trans (by assumption) (hbX.mono (Below.size (by assumption)))⟩)
      | (go_split_ands; exact ⟨by go_keep, by go_keep, by go_keep, by assumption⟩)
      | (go_split_ands; exact ⟨by go_keep, by go_keep, by go_keep, Below.drew (by assumption)⟩)
      | (go_split_ands; exact ⟨by go_keep, by go_keep, by go_keep, Below.alloc (by assumption) (Below.size (by assumption)) _⟩))
    (first
      | (go_at_call 61; refine (itoa_below _ _ a (hEA.below (by go_split_ands; assumption)) (by omega) (by omega)).mono ?_; rintro e w2 ⟨rfl, hbX⟩)
      | (go_at_call 143; refine (fmtU_any sum (by omega) _ a (hEA.below (by go_split_ands; assumption))).mono ?_; rintro e w2 ⟨rfl, hbX⟩))
  go_split_ands
  have hbE : Below W0.heap.size W0 (w2.alloc (.cells #[.string kb, .string (bytesOf (itoa n)), .string (bytesOf (itoa lo)), .string (bytesOf (itoa hi)), .string (bytesOf (itoa sum))] 9)) := by assumption
  have hBE : Below w.heap.size w (w2.alloc (.cells #[.string kb, .string (bytesOf (itoa n)), .string (bytesOf (itoa lo)), .string (bytesOf (itoa hi)), .string (bytesOf (itoa sum))] 9)) := hal.trans (hbE.mono hal.size)
  have hjl : (Lib.join ([kb, bytesOf (itoa n), bytesOf (itoa lo), bytesOf (itoa hi), bytesOf (itoa sum)].map (·.data.toList)) (⟨#[32]⟩ : ByteArray).data.toList) = headL kb.data.toList n lo hi sum := by
    simp [Lib.join, headL, bytesOf]
  have hj := Tryz.strings_Join w2.heap.size 0 5 [kb, bytesOf (itoa n), bytesOf (itoa lo), bytesOf (itoa hi), bytesOf (itoa sum)] ⟨#[32]⟩ (w2.alloc (.cells #[.string kb, .string (bytesOf (itoa n)), .string (bytesOf (itoa lo)), .string (bytesOf (itoa hi)), .string (bytesOf (itoa sum))] 9)) (fun j x hx => by
      rw [Nat.zero_add, cell_of_row _ _ _ _ _ _ (heap_alloc_new _ _)]
      match j, hx with
      | 0, hx => simp at hx; subst hx; rfl
      | 1, hx => simp at hx; subst hx; rfl
      | 2, hx => simp at hx; subst hx; rfl
      | 3, hx => simp at hx; subst hx; rfl
      | 4, hx => simp at hx; subst hx; rfl
      | j + 5, hx => simp at hx) (by simp) (by simp) (by simp) (by rw [hjl]; omega)
  rw [hjl] at hj
  clear hjl hlen
  generalize w2.alloc (.cells #[.string kb, .string (bytesOf (itoa n)), .string (bytesOf (itoa lo)), .string (bytesOf (itoa hi)), .string (bytesOf (itoa sum))] 9) = WE at hj hBE ⊢
  go_wp2_with fail
  refine hj.mono ?_
  rintro e w9 ⟨rfl, hb9⟩
  go_wp2
  go_ret
  exact ⟨rfl, hBE.trans (hb9.mono hBE.size)⟩
end Go.Proofs.YtpkoefpdpoikkaaGreatDoor
namespace Go.Proofs.YtpkoefpdpoikkaaGreatDoor
open Go.RowKit Go.Extern.Stop Go.Stop Go.Extern Go.Sort Go.Shelf Go.Lib

theorem writeString_any (B b : Nat) (bs : List Value) (s : ByteArray) (w : World) (h : Lib.IsBuilder 130 5 B b bs w) (hlen : bs.length + s.size ≤ 140737488355328) (hBw : B ≤ w.heap.size) :
    Calls Tryz.prog 89 #[.pointer (some ⟨b, 0, none⟩), .string s] w fun e w' => e = .returned (.tuple #[.int .i64 s.size, .nilIface]) ∧ (Lib.BuilderAt 130 5 B b (.pointer (some ⟨b, 0, none⟩)) (bs ++ Lib.strCells s) w' ∧ Below B w w') := by
  first
  | exact Any.Builder_WriteString { Tryz.lays156 with } Tryz.Builder_Extra_156 B b bs s w h hlen hBw
  | exact Tryz.Builder_WriteString B b bs s w h hlen hBw

theorem isBuilder_below {T e : TypeId} {B b : Nat} {bs : List Value} {w w' : World} (h : Lib.IsBuilder T e B b bs w) (hb : Below w.heap.size w w') : Lib.IsBuilder T e B b bs w' := by
  rcases h with h | h
  · have hlt := h.lt
    obtain ⟨hB, v, hbk, hown, hne⟩ := h
    exact Or.inl ⟨hB, v, (hb.block b hlt).trans hbk, own_below hown hb, hne⟩
  · have hlt := h.lt
    obtain ⟨hB, v, hbk, hown, hne⟩ := h
    exact Or.inr ⟨hB, v, (hb.block b hlt).trans hbk, own_below hown hb, hne⟩

theorem isBuilder_set {T e : TypeId} {B b : Nat} {bs : List Value} {w : World} (h : Lib.IsBuilder T e B b bs w) (g o : Nat) (u : Value) (hg : g < B) : Lib.IsBuilder T e B b bs (w.setCell ⟨g, o, none⟩ u) := by
  rcases h with h | h
  · obtain ⟨hB, v, hbk, hown, hne⟩ := h
    exact Or.inl ⟨hB, v, (heap_setCell_other _ _ _ _ (by show b ≠ g; omega)).trans hbk, ownsRow_setCell_other hown (fun e => by have := (hown.lt g e).1; omega) u, hne⟩
  · obtain ⟨hB, v, hbk, hown, hne⟩ := h
    exact Or.inr ⟨hB, v, (heap_setCell_other _ _ _ _ (by show b ≠ g; omega)).trans hbk, ownsRow_setCell_other hown (fun e => by have := (hown.lt g e).1; omega) u, hne⟩

theorem isBuilder_head {T e : TypeId} {B b : Nat} {bs : List Value} {w : World} (h : Lib.IsBuilder T e B b bs w) (g m : Nat) (E : Int × Int) (hg : g < B) : Lib.IsBuilder T e B b bs (headW w g m E) :=
  isBuilder_set (isBuilder_set (isBuilder_set h g 1 _ hg) g 2 _ hg) g 0 _ hg

end Go.Proofs.YtpkoefpdpoikkaaGreatDoor
namespace Go.Proofs.YtpkoefpdpoikkaaGreatDoor
open Go.RowKit Go.Extern.Stop Go.Stop Go.Extern Go.Sort Go.Shelf Go.Lib

structure EnvD (w : World) (a : Nat → Addr) : Prop where
  env : Env w a
  shape : w.cell? ⟨9, 0, none⟩ = some (.iface 289 (.pointer (some (a 2))))
  full : w.cell? ⟨4, 0, none⟩ = some (.iface 289 (.pointer (some (a 7))))
  order : w.cell? ⟨8, 0, none⟩ = some (.iface 289 (.pointer (some (a 8))))
  sum : w.cell? ⟨7, 0, none⟩ = some (.iface 289 (.pointer (some (a 9))))

theorem EnvD.below {w w' : World} {a : Nat → Addr} (h : EnvD w a) (hb : Below w.heap.size w w') : EnvD w' a :=
  ⟨h.env.below hb, below_keep hb h.shape, below_keep hb h.full, below_keep hb h.order, below_keep hb h.sum⟩

structure EnvD0 (w : World) (a : Nat → Addr) : Prop where
  env : Env0 w a
  shape : w.cell? ⟨9, 0, none⟩ = some (.iface 289 (.pointer (some (a 2))))
  full : w.cell? ⟨4, 0, none⟩ = some (.iface 289 (.pointer (some (a 7))))
  order : w.cell? ⟨8, 0, none⟩ = some (.iface 289 (.pointer (some (a 8))))
  sum : w.cell? ⟨7, 0, none⟩ = some (.iface 289 (.pointer (some (a 9))))

theorem EnvD0.below {w w' : World} {a : Nat → Addr} (h : EnvD0 w a) (hb : Below w.heap.size w w') : EnvD0 w' a :=
  ⟨h.env.below hb, below_keep hb h.shape, below_keep hb h.full, below_keep hb h.order, below_keep hb h.sum⟩

theorem EnvD.weak {w : World} {a : Nat → Addr} (h : EnvD w a) : EnvD0 w a := ⟨h.env.weak, h.shape, h.full, h.order, h.sum⟩

end Go.Proofs.YtpkoefpdpoikkaaGreatDoor
namespace Go.Proofs.YtpkoefpdpoikkaaGreatDoor
open Go.RowKit Go.Extern.Stop Go.Stop Go.Extern Go.Sort Go.Shelf Go.Lib

theorem headO_five {Kw l k A B C D : List UInt8} (h : words l = [k, A, B, C, D]) : headO Kw l = if k = Kw then (match numO A, numO B, numO C, numO D with
    | some a, some b, some c, some d => some (a, b, c, d)
    | _, _, _, _ => none) else none := by
  unfold headO; rw [h]; rfl
theorem headO_other {Kw l : List UInt8} (h : (words l).length ≠ 5) : headO Kw l = none := by
  unfold headO
  split
  · rename_i e; rw [e] at h; simp at h
  · rfl

theorem five_of {α : Type} {ts : List α} (h : ts.length = 5) : ∃ a b c d e, ts = [a, b, c, d, e] := by
  match ts, h with
  | [a, b, c, d, e], _ => exact ⟨a, b, c, d, e, rfl⟩

theorem eqBB {s t : ByteArray} (h : s.data.toList = t.data.toList) : (s.toList == t.toList) = true := by
  rw [ByteArray.toList_eq, ByteArray.toList_eq]; simpa using h
theorem neBB {s t : ByteArray} (h : s.data.toList ≠ t.data.toList) : (s.toList == t.toList) = false := by
  rw [ByteArray.toList_eq, ByteArray.toList_eq]; simpa using h

def headR (K l : List UInt8) : (Int × Int × Int) × Int × Bool := match headO K l with
  | some (n, lo, hi, sum) => ((n, lo, hi), sum, true)
  | none => ((0, 0, 0), 0, false)

set_option maxRecDepth 100000 in
set_option maxHeartbeats 4000000 in
theorem readHead_any (kb s : ByteArray) (w : World) (a : Nat → Addr) (h : Env0 w a) (hs : s.size ≤ 100000) :
    Calls Tryz.prog 209 #[.string kb, .string s] w fun e w' => e = .returned (.tuple #[.agg #[.int .i64 (headR kb.data.toList s.data.toList).1.1, .int .i64 (headR kb.data.toList s.data.toList).1.2.1, .int .i64 (headR kb.data.toList s.data.toList).1.2.2], .int .i64 (headR kb.data.toList s.data.toList).2.1, .bool (headR kb.data.toList s.data.toList).2.2]) ∧ Below w.heap.size w w' := by
  have hal : Below w.heap.size w (w.alloc (.cells #[.int .i64 0, .int .i64 0, .int .i64 0] 160)) := (Below.refl _ _).alloc (Nat.le_refl _) _
  have hsp := splitTx_any s _ a (h.below hal) (by omega)
  have hblk := heap_alloc_new w (.cells #[.int .i64 0, .int .i64 0, .int .i64 0] 160)
  have hwl := words_len s.data.toList
  go_enter Tryz.func209, Tryz.ntmps209
  go_wp2_with fail
  generalize hWA : w.alloc (.cells #[.int .i64 0, .int .i64 0, .int .i64 0] 160) = WA at hal hsp hblk ⊢
  refine hsp.mono ?_
  rintro e w1 ⟨v1, ts, rfl, hts, htm, hb1⟩
  clear hsp
  have hB1 : Below w.heap.size w w1 := hal.trans (hb1.mono hal.size)
  have hblk1 : w1.heap[w.heap.size]? = some (.cells #[.int .i64 0, .int .i64 0, .int .i64 0] 160 (0, 0)) := (hb1.block _ (lt_of_block hblk)).trans hblk
  clear hblk hb1 hal hWA
  have bad : ∀ W : World, Below w.heap.size w W → W.heap[w.heap.size]? = some (.cells #[.int .i64 0, .int .i64 0, .int .i64 0] 160 (0, 0)) → (W.cell? ⟨w.heap.size, 0, none⟩ = some (.int .i64 0) ∧ W.cell? ⟨w.heap.size, 1, none⟩ = some (.int .i64 0) ∧ W.cell? ⟨w.heap.size, 2, none⟩ = some (.int .i64 0) ∧ ∀ o, W.frozen? ⟨w.heap.size, o, none⟩ = false) := fun W _ hW =>
    ⟨by rw [cell_of_row _ _ _ _ _ _ hW]; rfl, by rw [cell_of_row _ _ _ _ _ _ hW]; rfl, by rw [cell_of_row _ _ _ _ _ _ hW]; rfl, fun o => frozen_of_row _ _ _ _ _ hW⟩
  have BAD : Hid (∀ W : World, Below w.heap.size w W → W.heap[w.heap.size]? = some (.cells #[.int .i64 0, .int .i64 0, .int .i64 0] 160 (0, 0)) → (W.cell? ⟨w.heap.size, 0, none⟩ = some (.int .i64 0) ∧ W.cell? ⟨w.heap.size, 1, none⟩ = some (.int .i64 0) ∧ W.cell? ⟨w.heap.size, 2, none⟩ = some (.int .i64 0) ∧ ∀ o, W.frozen? ⟨w.heap.size, o, none⟩ = false)) := bad
  have HBLK : Hid (w1.heap[w.heap.size]? = some (.cells #[.int .i64 0, .int .i64 0, .int .i64 0] 160 (0, 0))) := hblk1
  clear bad hblk1
  by_cases h5 : ts.length = 5
  · obtain ⟨K, A, B, C, D, rfl⟩ := five_of h5
    have hw : words s.data.toList = [K.data.toList, A.data.toList, B.data.toList, C.data.toList, D.data.toList] := by rw [← htm]; rfl
    have hf := headO_five (Kw := kb.data.toList) hw
    have hwz : ∀ t ∈ [K, A, B, C, D], t.size ≤ maxLen := fun t ht => by
      have := hwl t.data.toList (by rw [← htm]; exact List.mem_map.2 ⟨t, ht, rfl⟩)
      rw [size_list, size_list] at this
      unfold maxLen; omega
    have HF : Hid (headO kb.data.toList s.data.toList = if K.data.toList = kb.data.toList then (match numO A.data.toList, numO B.data.toList, numO C.data.toList, numO D.data.toList with
      | some a, some b, some c, some d => some (a, b, c, d)
      | _, _, _, _ => none) else none) := hf
    obtain ⟨b, rfl, hcell⟩ := hts
    have c0 := hcell 0 (by simp)
    simp only [List.getElem_cons_zero] at c0
    have HCELL : Hid (∀ j (h : j < [K, A, B, C, D].length), w1.cell? ⟨b, j, none⟩ = some (.string [K, A, B, C, D][j])) := hcell
    clear hf hw htm hwl hcell h5
    simp only [List.length_cons, List.length_nil, Nat.zero_add, Nat.reduceAdd]
    by_cases hk : K.data.toList = kb.data.toList
    · have hkb := eqBB hk
      have hnm := numbers_any b 1 4 [A, B, C, D] w1 a (h.below hB1) (fun j hj => by
        have hj' : j + 1 < [K, A, B, C, D].length := by simp at hj ⊢; omega
        have := HCELL.out (j + 1) hj'
        rw [Nat.add_comm 1 j]
        simpa using this) (fun t ht => hwz t (List.mem_cons_of_mem _ ht)) (by simp)
      simp only [List.length_cons, List.length_nil, Nat.zero_add, Nat.reduceAdd] at hnm
      go_wp2_with fail
      refine hnm.mono ?_
      rintro e w3 ⟨hres, hb3⟩
      clear hnm c0
      have hB3 : Below w.heap.size w w3 := hB1.trans (hb3.mono hB1.size)
      obtain ⟨y0, y1, y2, fz⟩ := BAD.out w3 hB3 ((hb3.block _ (lt_of_block HBLK.out)).trans HBLK.out)
      have s0 := setCell_self y0
      have s1 := setCell_self y1
      have s2 := setCell_self y2
      rcases hres with ⟨zs, g, hzl, hzn, rfl, hzc⟩ | ⟨j, t, ht, hno, rfl⟩
      · obtain ⟨z0, z1, z2, z3, hz4⟩ : ∃ z0 z1 z2 z3, zs = [z0, z1, z2, z3] := by
          match zs, hzl with
          | [z0, z1, z2, z3], _ => exact ⟨z0, z1, z2, z3, rfl⟩
        subst hz4
        have HSOME : Hid (headO kb.data.toList s.data.toList = some (z0, z1, z2, z3)) := by
          show _ = _
          have q0 := hzn 0 A rfl
          have q1 := hzn 1 B rfl
          have q2 := hzn 2 C rfl
          have q3 := hzn 3 D rfl
          rw [HF.out, if_pos hk, q0, q1, q2, q3]
          rfl
        have k0 := hzc 0 (by simp)
        have k1 := hzc 1 (by simp)
        have k2 := hzc 2 (by simp)
        have k3 := hzc 3 (by simp)
        simp only [List.getElem_cons_succ, List.getElem_cons_zero] at k0 k1 k2 k3
        have hgw : g ≠ w.heap.size := by
          intro e
          subst e
          have := y0.symm.trans k0
          have e1 := k3
          rw [cell_of_row _ _ _ _ _ _ ((hb3.block _ (lt_of_block HBLK.out)).trans HBLK.out)] at e1
          simp at e1
        have hne1 : ¬ g = w.heap.size := hgw
        have hne2 : ¬ w.heap.size = g := fun e => hgw e.symm
        clear hzn hzc hzl hgw s0 s1 s2
        simp only [List.length_cons, List.length_nil, Nat.zero_add, Nat.reduceAdd]
        go_wp2
        go_region
        go_wp2
        refine bodyPost_ret (v := .tuple #[.agg #[.int .i64 z0, .int .i64 z1, .int .i64 z2], .int .i64 z3, .bool true]) (by simp [results, Tryz.results209, go_sem, y0, y1, y2]) rfl ⟨by unfold headR; rw [HSOME.out], ?_⟩
        exact (((hB3.setCell (by simp) _).setCell (by simp) _).setCell (by simp) _).drew
      · have HNONE : Hid (headO kb.data.toList s.data.toList = none) := by
          show _ = _
          rw [HF.out, if_pos hk]
          match j, ht with
          | 0, ht => rw [Option.some.inj ht, hno]
          | 1, ht => rw [Option.some.inj ht, hno]; split <;> simp_all
          | 2, ht => rw [Option.some.inj ht, hno]; split <;> simp_all
          | 3, ht => rw [Option.some.inj ht, hno]; split <;> simp_all
        clear ht hno
        go_wp2
        exact bodyPost_ret (v := .tuple #[.agg #[.int .i64 0, .int .i64 0, .int .i64 0], .int .i64 0, .bool false]) (by simp [results, Tryz.results209, go_sem, y0, y1, y2]) rfl ⟨by unfold headR; rw [HNONE.out], hB3⟩
    · have hkb := neBB hk
      have HNONE : Hid (headO kb.data.toList s.data.toList = none) := by
        show _ = _
        rw [HF.out, if_neg hk]
      obtain ⟨y0, y1, y2, fz⟩ := BAD.out w1 hB1 HBLK.out
      have s0 := setCell_self y0
      have s1 := setCell_self y1
      have s2 := setCell_self y2
      go_wp2
      exact bodyPost_ret (v := .tuple #[.agg #[.int .i64 0, .int .i64 0, .int .i64 0], .int .i64 0, .bool false]) (by simp [results, Tryz.results209, go_sem, y0, y1, y2]) rfl ⟨by unfold headR; rw [HNONE.out], hB1⟩
  · have HNONE : Hid (headO kb.data.toList s.data.toList = none) := headO_other (fun e => h5 (by rw [← e, ← htm, List.length_map]))
    have hne : ¬ (ts.length : Int) = 5 := by omega
    obtain ⟨b, rfl, _⟩ := hts
    obtain ⟨y0, y1, y2, fz⟩ := BAD.out w1 hB1 HBLK.out
    have s0 := setCell_self y0
    have s1 := setCell_self y1
    have s2 := setCell_self y2
    clear htm hwl h5
    go_wp2
    exact bodyPost_ret (v := .tuple #[.agg #[.int .i64 0, .int .i64 0, .int .i64 0], .int .i64 0, .bool false]) (by simp [results, Tryz.results209, go_sem, y0, y1, y2]) rfl ⟨by unfold headR; rw [HNONE.out], hB1⟩
end Go.Proofs.YtpkoefpdpoikkaaGreatDoor
