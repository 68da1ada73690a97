/-
  The contract of the document's own SameInts: of two lists of whole numbers, are they one?
  An append to a row of the call's own, whatever slice is appended: nothing, or cells one behind the other.
  The walks of goned and GoneBack: whatever keys, place and byte: true; what was there is as it was.
-/
import Derived.Test.YtgffkkijfmoooabGreatDoorProg
import Derived.WalkKit
import Derived.Deep.QuietTactic
import Derived.BigQuiet
import Derived.Test.YtgffkkijfmoooabGreatDoorSortsWalk
import Derived.Maps.AppendAt
import Derived.Test.YtgffkkijfmoooabGreatDoorBackWalk
import Derived.Test.YtgffkkijfmoooabGreatDoorRefRise
namespace Go.Proofs.YtgffkkijfmoooabGreatDoor
open Go.RowKit Go.Extern.Stop Go.Stop Go.Extern

/-- A slice of whole numbers, as it reads. -/
def IntsAt (w : World) (v : Value) (xs : List Int) : Prop :=
  (v = .slice none 0 0 ∧ xs = []) ∨ ∃ b o cap, v = .slice (some ⟨b, o, none⟩) xs.length cap ∧ xs.length ≤ maxLen ∧ ∀ i (h : i < xs.length), w.cell? ⟨b, o + i, none⟩ = some (.int .i64 xs[i])

theorem take_upto {fx fy : Nat → Int} {n : Nat} (h : ∀ i, i < n → fx i = fy i) (e : fx n = fy n) : ∀ i, i < n + 1 → fx i = fy i := fun i hi => by
  rcases Nat.lt_or_ge i n with h' | h'
  · exact h i h'
  · obtain rfl : i = n := by omega
    exact e

theorem sameInts_eq (w : World) (b o b' o' cap cap' L : Nat) (fx fy : Nat → Int) (hL : L ≤ maxLen)
    (hcx : ∀ i, i < L → w.cell? ⟨b, o + i, none⟩ = some (.int .i64 (fx i))) (hcy : ∀ i, i < L → w.cell? ⟨b', o' + i, none⟩ = some (.int .i64 (fy i))) :
    Calls Tryz.prog 23 #[.slice (some ⟨b, o, none⟩) L cap, .slice (some ⟨b', o', none⟩) L cap'] w fun e w' => (∃ r : Bool, e = .returned (.bool r) ∧ (r = true ↔ ∀ i, i < L → fx i = fy i)) ∧ ∃ n, w' = w.drewN n := by
  unfold maxLen at hL
  go_enter Tryz.func23, Tryz.ntmps23
  go_wp2
  go_loopw [5] (fun k wr => ∃ n : Nat, n ≤ L ∧ (∀ i, i < n → fx i = fy i) ∧ k = .int .i64 n ∧ ∃ m, wr = w.drewN m) (fun k _ => L - (intOf k).toNat)
  case atStart => exact ⟨0, by omega, by omega, rfl, 0, rfl⟩
  case round =>
    obtain ⟨n, hn, ht, rfl, m, rfl⟩ := hrel
    have HT : Hid (∀ i, i < n → fx i = fy i) := ht
    clear ht
    by_cases hlt : n < L
    · have h1 := hcx n hlt
      have h2 := hcy n hlt
      have hi : (n : Int) < (L : Int) := by omega
      generalize hfx : fx n = p at h1
      generalize hfy : fy n = q at h2
      have HX : Hid (fx n = p) := hfx
      have HY : Hid (fy n = q) := hfy
      clear hfx hfy hcx hcy
      by_cases e : p = q
      · subst e
        go_wp2
        go_quiet (fail)
        go_wp2
        go_roundw
        case rel => exact ⟨n + 1, by omega, take_upto HT.out (HX.out.trans HY.out.symm), by go_num, _, rfl⟩
        case measure => simp [intOf]; omega
      · go_wp2
        go_quiet (fail)
        go_wp2
        go_ret
        exact ⟨⟨false, rfl, by simp; exact ⟨n, hlt, by rw [HX.out, HY.out]; exact e⟩⟩, _, World.drewN_drewN _ _ _⟩
    · have hn' : n = L := by omega
      subst hn'
      go_wp2
      go_ret
      exact ⟨⟨true, rfl, by simpa using HT.out⟩, m, rfl⟩
end Go.Proofs.YtgffkkijfmoooabGreatDoor
namespace Go.Proofs.YtgffkkijfmoooabGreatDoor
open Go.RowKit Go.Extern.Stop Go.Stop Go.Extern Go.Sort Go.Shelf Go.Lib

/-- A slice, as it reads: nothing, wherever it points; or cells, one behind the other. -/
def Src (w : World) (q : Option Addr) (m c : Nat) (ys : List Value) : Prop :=
  (m = 0 ∧ (q = none → c = 0)) ∨ ∃ b o, q = some ⟨b, o, none⟩ ∧ ∀ j u, ys[j]? = some u → w.cell? ⟨b, o + j, none⟩ = some u

theorem Src.below {w w' : World} {q : Option Addr} {m c : Nat} {ys : List Value} (h : Src w q m c ys) (hb : Below w.heap.size w w') : Src w' q m c ys := by
  rcases h with h | ⟨b, o, e, h⟩
  · exact Or.inl h
  · exact Or.inr ⟨b, o, e, fun j u hu => below_keep hb (h j u hu)⟩

theorem src_nil (w : World) : Src w none 0 0 [] := Or.inl ⟨rfl, fun _ => rfl⟩

theorem src_new (w : World) (cs : List Value) (t : TypeId) (m c : Nat) : Src (w.alloc (.cells cs.toArray t)) (some ⟨w.heap.size, 0, none⟩) m c cs := by
  refine Or.inr ⟨_, _, rfl, fun j u hj => ?_⟩
  rw [Nat.zero_add]
  have h := heap_alloc_new w (.cells cs.toArray t)
  unfold World.cell?
  dsimp only
  rw [h]
  simpa using hj

theorem src_of_own {w : World} {base : Nat} {e : TypeId} {size : Nat} {q : Option Addr} {n c m : Nat} {xs : List Value} (h : w.ownsRow base e size (.slice q n c) m xs) : n = m ∧ Src w q n c xs := by
  rcases h.2 with ⟨e, h0⟩ | ⟨g, cap, cur, e, _, hg, _, _, _, ht⟩
  · injection e with e1 e2 e3
    exact ⟨by omega, Or.inl ⟨e2, fun _ => e3⟩⟩
  · injection e with e1 e2 e3
    refine ⟨e2, Or.inr ⟨g, 0, e1, fun j u hj => ?_⟩⟩
    have := h.cells (g := g) (by rw [e1]; rfl) j u hj
    rw [Addr.add_lit, Nat.zero_add] at this
    rw [Nat.zero_add]; exact this

set_option maxHeartbeats 1000000 in
theorem run_append_src {P : Program} (w : World) (base : Nat) (t ty e : TypeId) (i : TypeInfo) (z : Value) (size bytes : Nat) (ht : P.underlying t = some (.slice e)) (hi : P.info? e = some i) (hz : i.zero = some z)
    (hsize : i.size = size) (hby : i.bytes = bytes) (hzs : z.cells.size = size) (hsz : 0 < size)
    (v : Value) (n : Nat) (xs : List Value) (hown : w.ownsRow base e size v n xs)
    (q : Option Addr) (m c : Nat) (news : List Value) (hl : news.length = m * size) (hsrc : Src w q m c news) (h1 : ∀ u ∈ news, u.oneCell' = true)
    (h63 : n + m ≤ maxLen) (hbytes : (n + m) * bytes ≤ 140737488355328) (hbase : base ≤ w.heap.size) :
    ∃ v' w', (Builtin.append_ #[t, t] ty #[v, .slice q m c]).run P w = .ok v' w' ∧ w'.ownsRow base e size v' (n + m) (xs ++ news) ∧ w.grownBy w' v.ownBlock ∧ (v'.ownBlock = v.ownBlock ∨ v'.ownBlock = some w.heap.size) := by
  rcases hsrc with ⟨h0, hc⟩ | ⟨b, o, rfl, hcells⟩
  · subst h0
    have hnews : news = [] := List.length_eq_zero_iff.1 (by simpa using hl)
    subst hnews
    cases q with
    | none =>
      have hc0 := hc rfl
      subst hc0
      refine ⟨v, w, ?_, by simpa using hown, ⟨rfl, rfl, rfl, Nat.le_refl _, fun _ _ _ => rfl⟩, Or.inl rfl⟩
      rcases hown.2 with ⟨rfl, _⟩ | ⟨g, cap, cur, rfl, _, _, hn, _⟩
      · simp [Builtin.append_, run_underlying ht, sizeOf, typeInfo, zeroValue, hi, hz, Builtin.lenOf, run_firstCells_none]
      · simp [Builtin.append_, run_underlying ht, sizeOf, typeInfo, zeroValue, hi, hz, Builtin.lenOf, run_firstCells_none, hn, storeCells]
    | some ad =>
      obtain ⟨v', w', hr, h2, h3, _, h5⟩ := run_append_own_at (P := P) w base t ty e i z size bytes ht hi hz hsize hby hzs hsz v n xs hown ad 0 c [] hl (fun j u hj => by simp at hj) h1 h63 hbytes hbase
      exact ⟨v', w', hr, h2, h3, h5⟩
  · obtain ⟨v', w', hr, h2, h3, _, h5⟩ := run_append_own_at (P := P) w base t ty e i z size bytes ht hi hz hsize hby hzs hsz v n xs hown ⟨b, o, none⟩ m c news hl (fun j u hj => by rw [Addr.add_lit]; exact hcells j u hj) h1 h63 hbytes hbase
    exact ⟨v', w', hr, h2, h3, h5⟩

theorem wpList_append_src {P : Program} {w : World} {ops : Array Oper} {rest : List Oper} {o : Oper} {a : Act} {Q : Exit → Act → World → Prop} (hgd : o.guard = none) (s x : Operand) (t : TypeId)
    (ho : o.op = .call { callee := .builtin .append, args := #[s, x], argTypes := #[t, t] })
    (base : Nat) (e : TypeId) (i : TypeInfo) (z : Value) (size bytes : Nat) (ht : P.underlying t = some (.slice e)) (hi : P.info? e = some i) (hz : i.zero = some z)
    (hsize : i.size = size) (hby : i.bytes = bytes) (hzs : z.cells.size = size) (hsz : 0 < size)
    (v : Value) (n : Nat) (xs : List Value) (hs : a.eval s = v) (hown : w.ownsRow base e size v n xs)
    (q : Option Addr) (m c : Nat) (news : List Value) (hx : a.eval x = .slice q m c) (hl : news.length = m * size) (hsrc : Src w q m c news) (h1 : ∀ u ∈ news, u.oneCell' = true)
    (h63 : n + m ≤ maxLen) (hbytes : (n + m) * bytes ≤ 140737488355328) (hbase : base ≤ w.heap.size)
    (h : ∀ v' w', w'.ownsRow base e size v' (n + m) (xs ++ news) → w.grownBy w' v.ownBlock → (v'.ownBlock = v.ownBlock ∨ v'.ownBlock = some w.heap.size) → wpList P ops Q rest (a.put o.dst v') w') :
    wpList P ops Q (o :: rest) a w := by
  refine wpList_plain hgd fun K hK => ?_
  obtain ⟨v', w', hr, h2, h3, h4⟩ := run_append_src (P := P) w base t o.type e i z size bytes ht hi hz hsize hby hzs hsz v n xs hown q m c news hl hsrc h1 h63 hbytes hbase
  unfold Oper.wp execOp
  simp only [ho, resolve, invoke, builtin, Sem.run_bind, Sem.run_pure, Result.andThen_ok, List.map_toArray, List.map_cons, List.map_nil, hs, hx, hr]
  exact hK _ _ (h v' w' h2 h3 h4)
end Go.Proofs.YtgffkkijfmoooabGreatDoor
namespace Go.Proofs.YtgffkkijfmoooabGreatDoor
open Go.RowKit Go.Extern.Stop Go.Stop Go.Extern Go.Sort Go.Shelf Go.Lib

theorem firstBadZ : ∀ zs : List Int, ∃ m, m ≤ zs.length ∧ (∀ i (h : i < zs.length), i < m → inNum zs[i] = true) ∧ (∀ (h : m < zs.length), inNum zs[m] = false)
  | [] => ⟨0, Nat.le_refl _, fun i h => by simp at h, fun h => by simp at h⟩
  | z :: r => by
    cases hz : inNum z with
    | false => exact ⟨0, Nat.zero_le _, fun i _ h => absurd h (by omega), fun _ => hz⟩
    | true =>
      obtain ⟨m, h1, h2, h3⟩ := firstBadZ r
      refine ⟨m + 1, by simp; omega, fun i h hi => ?_, fun h => ?_⟩
      · cases i with
        | zero => exact hz
        | succ i => exact h2 i (by simpa using h) (by omega)
      · exact h3 (by simpa using h)

set_option maxRecDepth 100000 in
set_option maxHeartbeats 1000000 in
theorem sameInts_yes (v v' : Value) (zs : List Int) (w : World) (h : KeysAt w v zs) (h' : KeysAt w v' zs) (hl : zs.length ≤ 1000) :
    Calls Tryz.prog 23 #[v, v'] w fun e w' => e = .returned (.bool true) ∧ Below w.heap.size w w' := by
  by_cases hz : zs = []
  · subst hz
    obtain ⟨q, c, rfl⟩ := h.form
    obtain ⟨q', c', rfl⟩ := h'.form
    simp only [List.length_nil]
    clear h h' hl
    go_enter Tryz.func23, Tryz.ntmps23
    go_wp2
    refine wp_loop_rounds 1 ?_
    rw [rounds_succ]
    go_wp2
    go_ret
    exact ⟨rfl, Below.refl _ _⟩
  · rcases h with ⟨_, _, _, e⟩ | ⟨b, o, cap, rfl, hc⟩
    · exact absurd e hz
    rcases h' with ⟨_, _, _, e⟩ | ⟨b', o', cap', rfl, hc'⟩
    · exact absurd e hz
    have hs := sameInts_eq w b o b' o' cap cap' zs.length (fun i => zs.getD i 0) (fun i => zs.getD i 0) (by unfold maxLen; omega) (fun i hi => by rw [getD_of hi]; exact hc i hi) (fun i hi => by rw [getD_of hi]; exact hc' i hi)
    refine hs.mono fun e w' ⟨⟨r, he, hr⟩, n, hw⟩ => ⟨?_, ?_⟩
    · rw [he, hr.2 (fun _ _ => rfl)]
    · rw [hw]; exact below_drewN (Below.refl _ _) n

theorem rise_three : riseZ [7, -2, 7] = [-2, 7] := rise_is (by decide) (fun x => by simp; omega)

set_option maxRecDepth 100000 in
set_option maxHeartbeats 4000000 in
theorem goned_any (w : World) (a : Nat → Addr) (h : EnvD0 w a) :
    Calls Tryz.prog 20 #[] w fun e w' => e = .returned (.bool true) ∧ Below w.heap.size w w' := by
  have hal : Below w.heap.size w (w.alloc (.cells #[.int .i64 7, .int .i64 (-2), .int .i64 7] 3)) := (Below.refl _ _).alloc (Nat.le_refl _) _
  have hr : KeysAt (w.alloc (.cells #[.int .i64 7, .int .i64 (-2), .int .i64 7] 3)) (.slice (some ⟨w.heap.size, 0, none⟩) 3 3) [7, -2, 7] := by
    refine .inr ⟨w.heap.size, 0, 3, rfl, fun j hj => ?_⟩
    match j, hj with
    | 0, _ => simp
    | 1, _ => simp
    | 2, _ => simp
  have hok : ∀ x ∈ riseZ [7, -2, 7], inNum x = true := by rw [rise_three]; decide
  have hmk : Calls Tryz.prog 21 #[.slice (some ⟨w.heap.size, 0, none⟩) 3 3] (w.alloc (.cells #[.int .i64 7, .int .i64 (-2), .int .i64 7] 3)) fun e w' => e = .returned (.tuple #[.string (bytesOf (goneF [-2, 7])), .nilIface]) ∧ Below (w.alloc (.cells #[.int .i64 7, .int .i64 (-2), .int .i64 7] 3)).heap.size (w.alloc (.cells #[.int .i64 7, .int .i64 (-2), .int .i64 7] 3)) w' := by
    refine (gmake_any _ [7, -2, 7] _ a (h.below hal) hr (by decide) (by rw [rise_three]; decide) 3 (by decide) (fun i hi _ => by
      match i, hi with
      | 0, _ => exact (by decide : inNum 7 = true)
      | 1, _ => exact (by decide : inNum (-2) = true)
      | 2, _ => exact (by decide : inNum 7 = true)) (fun h => absurd h (by decide))).mono ?_
    rintro e w' (⟨_, h1, h2⟩ | ⟨h1, _⟩)
    · rw [rise_three] at h1
      exact ⟨h1, h2⟩
    · exact absurd h1 (by decide)
  rw [rise_three] at hok
  have hfl := fileG_len gone_fine [-2, 7] hok (by decide)
  have hrd := fun W (hW : EnvD0 W a) => gone_any (bytesOf (goneF [-2, 7])) W a hW (by rw [bytes_len]; unfold maxLen; show (fileG goneK [-2, 7]).length ≤ _; omega)
  have hfr : goneO (goneF [-2, 7]) = ([-2, 7], 0, none) := fileG_read gone_fine [-2, 7] hok (by decide) (by rw [← rise_three]; exact rise_good _)
  simp only [bytes_list, hfr] at hrd
  generalize bytesOf (goneF [-2, 7]) = S at hmk hrd
  clear hfl hfr hok hr
  go_enter Tryz.func20, Tryz.ntmps20
  go_wp2_with fail
  refine hmk.mono ?_
  rintro e w1 ⟨rfl, hb1⟩
  have hB1 : Below w.heap.size w w1 := hal.trans (hb1.mono hal.size)
  have hr1 := hrd w1 (h.below hB1)
  clear hmk hrd hb1 hal
  go_wp2_with fail
  refine hr1.mono ?_
  rintro e w2 ⟨hb2, hp⟩
  clear hr1
  obtain ⟨v, rfl, hv⟩ : ∃ v, e = .returned (.tuple #[v, .nilIface]) ∧ KeysAt w2 v [-2, 7] := by
    rcases hp with ⟨_, v, h1, h2, _⟩ | ⟨h1, _⟩ | ⟨h1, _⟩
    · exact ⟨v, h1, h2⟩
    · exact absurd rfl h1
    · exact absurd rfl h1
  clear hp
  obtain ⟨p, c, hvf⟩ := hv.form
  have hl1 : ([-2, 7] : List Int).length = 2 := rfl
  rw [hl1] at hvf
  subst hvf
  clear hl1
  have hB2 : Below w.heap.size w w2 := hB1.trans (hb2.mono hB1.size)
  have hal2 : Below w2.heap.size w2 (w2.alloc (.cells #[.int .i64 (-2), .int .i64 7] 3)) := (Below.refl _ _).alloc (Nat.le_refl _) _
  have hk2 : KeysAt (w2.alloc (.cells #[.int .i64 (-2), .int .i64 7] 3)) (.slice (some ⟨w2.heap.size, 0, none⟩) 2 2) [-2, 7] := by
    refine .inr ⟨w2.heap.size, 0, 2, rfl, fun j hj => ?_⟩
    match j, hj with
    | 0, _ => simp
    | 1, _ => simp
  have hs2 := sameInts_yes _ _ [-2, 7] _ (hv.below hal2) hk2 (by decide)
  have hh := fun W (hW : KeysAt W (.slice p 2 c) [-2, 7]) => has_any _ [-2, 7] 7 W hW (by decide)
  have hct : ([-2, 7] : List Int).contains 7 = true := by decide
  rw [hct] at hh
  have HV : Hid (KeysAt (w2.alloc (.cells #[.int .i64 (-2), .int .i64 7] 3)) (.slice p 2 c) [-2, 7]) := hv.below hal2
  have hB3 : Below w.heap.size w (w2.alloc (.cells #[.int .i64 (-2), .int .i64 7] 3)) := hB2.alloc hB2.size _
  clear hv hk2 hct hal2
  go_wp2_with fail
  refine hs2.mono ?_
  rintro e w3 ⟨rfl, hb3⟩
  clear hs2
  have hh3 := hh w3 (HV.out.below hb3)
  clear hh
  go_wp2_with fail
  refine hh3.mono ?_
  rintro e w4 ⟨rfl, hb4⟩
  clear hh3
  have hB4 : Below w.heap.size w w3 := hB3.trans (hb3.mono hB3.size)
  go_wp2
  go_ret
  exact ⟨rfl, hB4.trans (hb4.mono hB4.size)⟩

/-- The law's own copy of the keys that came in. -/
theorem src_keys {w : World} {q : Option Addr} {c : Nat} {zs : List Int} (h : KeysAt w (.slice q zs.length c) zs) (hq : q = none → c = 0) : Src w q zs.length c (zs.map (Value.int .i64)) := by
  rcases h with ⟨_, _, _, rfl⟩ | ⟨b, o, cap, e, hc⟩
  · exact Or.inl ⟨rfl, hq⟩
  · injection e with e1
    refine Or.inr ⟨b, o, e1, fun j u hj => ?_⟩
    rw [List.getElem?_map, Option.map_eq_some_iff] at hj
    obtain ⟨y, hy, rfl⟩ := hj
    obtain ⟨hjl, e⟩ := List.getElem?_eq_some_iff.1 hy
    rw [← e]
    exact hc j hjl

set_option maxRecDepth 100000 in
set_option maxHeartbeats 4000000 in
theorem goneBack_any (q : Option Addr) (c : Nat) (zs : List Int) (at_ : Int) (b : UInt8) (w : World) (a : Nat → Addr) (h : EnvD0 w a) (hz : KeysAt w (.slice q zs.length c) zs) (hq : q = none → c = 0) (ha0 : -9223372036854775808 ≤ at_) (ha : at_ ≤ 9223372036854775807) :
    Calls Tryz.prog 4 #[.slice q zs.length c, .int .i64 at_, .int .u8 b.toNat] w fun e w' => e = .returned (.bool true) ∧ Below w.heap.size w w' := by
  obtain ⟨i0, hi0, hz0, hs0, hby0⟩ := Tryz.numInfo
  have hda := goned_any w a h
  by_cases hl60 : 60 < zs.length
  · have h60 : (60 : Int) < (zs.length : Int) := by omega
    generalize zs.length = L at hz h60 ⊢
    clear hz hl60
    go_enter Tryz.func4, Tryz.ntmps4
    go_wp2_with fail
    refine hda.mono ?_
    rintro e w1 ⟨rfl, hb1⟩
    clear hda
    go_wp2
    go_ret
    exact ⟨rfl, hb1⟩
  have h60 : ¬ (60 : Int) < (zs.length : Int) := by omega
  by_cases hneg : at_ < 0
  · generalize zs.length = L at hz h60 hl60 ⊢
    clear hz
    go_enter Tryz.func4, Tryz.ntmps4
    go_wp2_with fail
    refine hda.mono ?_
    rintro e w1 ⟨rfl, hb1⟩
    clear hda
    go_wp2
    go_ret
    exact ⟨rfl, hb1⟩
  obtain ⟨n, rfl⟩ : ∃ n : Nat, at_ = (n : Int) := ⟨at_.toNat, by omega⟩
  have hn0 : (0 : Int) ≤ (n : Int) := by omega
  have hnn : ¬ (n : Int) < 0 := by omega
  have hmf := fun W (v : Value) (hW : EnvD0 W a) (hk : KeysAt W v zs) (hm : 40 < (riseZ zs).length) => gmake_full v zs W a hW hk (by omega) hm
  obtain ⟨m, hm, hgood, hend⟩ := firstBadZ zs
  have hmk := fun W (v : Value) (hW : EnvD0 W a) (hk : KeysAt W v zs) (hl : (riseZ zs).length ≤ 40) => (gmake_any v zs W a hW hk (by omega) hl m hm hgood hend).mono fun e w' hp => show (m = zs.length ∧ e = .returned (.tuple #[.string (bytesOf (goneF (riseZ zs))), .nilIface]) ∧ Below W.heap.size W w') ∨ (∃ fb, e = .returned (.tuple #[.string ⟨#[]⟩, .iface 92 (.pointer (some ⟨fb, 0, none⟩))]) ∧ Below W.heap.size W w') by
    rcases hp with h1 | ⟨_, fb, h1, _, _, h2⟩
    · exact .inl h1
    · exact .inr ⟨fb, h1, h2⟩
  have hall : m = zs.length → ∀ x ∈ riseZ zs, inNum x = true := fun e x hxm => by
    obtain ⟨i, hi, e'⟩ := List.mem_iff_getElem.1 ((rise_mem zs x).1 hxm)
    rw [← e']
    exact hgood i hi (by omega)
  have HF : Hid (m = zs.length → (riseZ zs).length ≤ 40 → (goneF (riseZ zs)).length ≤ 1400 ∧ goneO (goneF (riseZ zs)) = (riseZ zs, 0, none) ∧ ∀ (i : Nat) (c : UInt8) (hi : i < (goneF (riseZ zs)).length), (goneF (riseZ zs))[i] ≠ c → (goneO ((goneF (riseZ zs)).set i c)).2.1 ≠ 0) := fun e h40 => by
    have h1 := hall e
    exact ⟨fileG_len gone_fine _ h1 h40, fileG_read gone_fine _ h1 h40 (rise_good zs), fun i c hi hc => fileG_parts gone_fine _ h1 (rise_good zs) i c hi hc⟩
  have hro := fun W (hr : KeysAt W (.slice q zs.length c) zs) => risingOf_any (.slice q zs.length c) zs W hr (by omega)
  have hrl := rise_len zs
  have hsm := fun W (v v' : Value) (h1 : KeysAt W v (riseZ zs)) (h2 : KeysAt W v' (riseZ zs)) => sameInts_yes v v' (riseZ zs) W h1 h2 (by omega)
  have HHAS : Hid (∀ W (v : Value) (i : Nat) (hi : i < zs.length), KeysAt W v (riseZ zs) → Calls Tryz.prog 25 #[v, .int .i64 zs[i]] W fun e w' => e = .returned (.bool true) ∧ Below W.heap.size W w') := fun W v i hi hk => by
    have := has_any v (riseZ zs) zs[i] W hk (by omega)
    rw [show (riseZ zs).contains zs[i] = true by simpa using (rise_mem zs zs[i]).2 (List.getElem_mem _)] at this
    exact this
  have hsrc := fun W (hW : Below w.heap.size w W) => src_keys (hz.below hW) hq
  have hown := fun W base (v : Value) (ho : World.ownsRow W base 3 1 v zs.length (zs.map (Value.int .i64))) => (keysAt_own ho : KeysAt W v zs)
  have HNL : Hid ((zs.map (Value.int .i64)).length = zs.length * 1) := by show _ = _; simp
  have HZZ : Hid (∀ W, Below w.heap.size w W → KeysAt W (.slice q zs.length c) zs) := fun W hW => hz.below hW
  generalize hL : zs.length = L at hl60 h60 hro hsrc hown HNL HZZ ⊢
  have HL : Hid (zs.length = L) := hL
  clear hgood hend hall hm hL hneg ha0 hz
  go_enter Tryz.func4, Tryz.ntmps4
  go_wp2_with fail
  refine hda.mono ?_
  rintro e w1 ⟨rfl, hb1⟩
  have hsr1 := hsrc w1 hb1
  clear hda hsrc
  go_wp2_with (at_builtin; refine wpList_append_src rfl _ _ 44 rfl w1.heap.size 3 i0 (.int .i64 0) 1 8 Tryz.underlying44 hi0 hz0 hs0 hby0 rfl (by decide) (.slice none 0 0) 0 [] rfl (World.ownsRow_nil _ _ _ _) q L c (zs.map (Value.int .i64)) rfl ?qa1 ?qa2 ?qa3 ?qa4 ?qa5 ?qa6 ?_)
  case qa1 => exact HNL.out
  case qa2 => exact hsr1
  case qa3 => exact ints_one zs
  case qa4 => unfold maxLen; omega
  case qa5 => omega
  case qa6 => exact Nat.le_refl _
  intro v3 w3 ho3 hg3 _
  have hb3 : Below w1.heap.size w1 w3 := (Below.refl _ _).grown hg3 (Nat.le_refl _) (fun k hk => by simp [Value.ownBlock] at hk)
  have hr3 := hown w3 _ v3 ho3
  obtain ⟨q3, c3, hv3⟩ := hr3.form
  rw [HL.out] at hv3
  clear ho3 hg3 hown hsr1
  have hB3 : Below w.heap.size w w3 := hb1.trans (hb3.mono hb1.size)
  subst hv3
  by_cases h40 : 40 < (riseZ zs).length
  · have hf3 := hmf w3 _ (h.below hB3) hr3 h40
    clear hmf hmk hro hsm hr3
    simp only [errV] at hf3
    go_wp2_with fail
    refine hf3.mono ?_
    rintro e w4 ⟨rfl, hb4⟩
    clear hf3
    go_wp2
    go_ret
    exact ⟨rfl, hB3.trans (hb4.mono hB3.size)⟩
  have hk3 := hmk w3 _ (h.below hB3) hr3 (by omega)
  clear hmk hmf hr3
  go_wp2_with fail
  refine hk3.mono ?_
  rintro e w4 hp
  clear hk3
  rcases hp with ⟨hme, rfl, hb4⟩ | ⟨fb, rfl, hb4⟩
  case inr =>
    have hB4 : Below w.heap.size w w4 := hB3.trans (hb4.mono hB3.size)
    clear hro hsm
    go_wp2
    go_ret
    exact ⟨rfl, hB4⟩
  have hB4 : Below w.heap.size w w4 := hB3.trans (hb4.mono hB3.size)
  obtain ⟨hfl, hfr, hfp⟩ := HF.out hme (by omega)
  have hrd := fun W (l : List UInt8) (hl : l.length ≤ 1400) (hW : EnvD0 W a) => gone_any (bytesOf l) W a hW (by rw [bytes_len]; unfold maxLen; omega)
  simp only [bytes_list] at hrd
  have hr4 := hrd w4 _ hfl (h.below hB4)
  rw [hfr] at hr4
  clear hfr
  have HR5 : Hid (∀ W n b, EnvD0 W a → (hn : n < (goneF (riseZ zs)).length) → (goneF (riseZ zs))[n] ≠ b → Calls Tryz.prog 22 #[.string (bytesOf ((goneF (riseZ zs)).set n b))] W fun e w' => ∃ ev p, e = .returned (.tuple #[.slice none 0 0, .iface ev p]) ∧ Below W.heap.size W w') := fun W n b hW hn hnb => by
    have h1 := hfp n b hn hnb
    refine (hrd W ((goneF (riseZ zs)).set n b) (by rw [List.length_set]; exact hfl) hW).mono ?_
    rintro e w' ⟨hb, hp⟩
    rcases hp with ⟨h2, _⟩ | ⟨_, _, _, rfl⟩ | ⟨_, _, _, _, fb, rfl, _⟩
    · exact absurd h2 h1
    · obtain ⟨k, hk⟩ : ∃ k, (goneO ((goneF (riseZ zs)).set n b)).2.1 = k + 1 := ⟨_, (Nat.succ_pred_eq_of_ne_zero h1).symm⟩
      rw [hk]
      exact ⟨_, _, rfl, hb⟩
    · exact ⟨_, _, rfl, hb⟩
  clear hrd hfp
  obtain ⟨S, hS⟩ : ∃ S, bytesOf (goneF (riseZ zs)) = S := ⟨_, rfl⟩
  have HSL : Hid (goneF (riseZ zs) = S.data.toList) := by show _ = _; rw [← hS, bytes_list]
  rw [hS] at hr4 ⊢
  have hSs : S.size ≤ 1400 := by rw [← size_list, ← HSL.out]; exact hfl
  clear hS hfl
  go_wp2_with fail
  refine hr4.mono ?_
  rintro e w5 ⟨hb5, hp⟩
  clear hr4
  obtain ⟨v5, rfl, hv5⟩ : ∃ v, e = .returned (.tuple #[v, .nilIface]) ∧ KeysAt w5 v (riseZ zs) := by
    rcases hp with ⟨_, v, h1, h2, _⟩ | ⟨h1, _⟩ | ⟨h1, _⟩
    · exact ⟨v, h1, h2⟩
    · exact absurd rfl h1
    · exact absurd rfl h1
  clear hp
  have hB5 : Below w.heap.size w w5 := hB4.trans (hb5.mono hB4.size)
  obtain ⟨M, hM⟩ : ∃ M, (riseZ zs).length = M := ⟨_, rfl⟩
  have HM : Hid ((riseZ zs).length = M) := hM
  obtain ⟨p5, c5, hv5f⟩ := hv5.form
  rw [hM] at hv5f
  subst hv5f
  have hs5 := hro w5 (HZZ.out w5 hB5)
  clear hro
  go_wp2_with fail
  refine hs5.mono ?_
  rintro e w6 ⟨v6, rfl, hv6, hb6⟩
  clear hs5
  have hB6 : Below w.heap.size w w6 := hB5.trans (hb6.mono hB5.size)
  obtain ⟨p6, c6, hv6f⟩ := hv6.form
  rw [hM] at hv6f
  subst hv6f
  have hm6 := hsm w6 _ _ (hv5.below hb6) hv6
  have HV6 : Hid (KeysAt w6 (.slice p5 M c5) (riseZ zs)) := hv5.below hb6
  clear hsm hv5 hv6 hM
  go_wp2_with fail
  refine hm6.mono ?_
  rintro e w7 ⟨rfl, hb7⟩
  clear hm6
  have hB7 : Below w.heap.size w w7 := hB6.trans (hb7.mono hB6.size)
  have HV7 : Hid (KeysAt w7 (.slice p5 M c5) (riseZ zs)) := HV6.out.below hb7
  clear hb1 hb3 hb4 hb5 hb6 hb7 hB3 hB4 hB5 hB6 HV6
  generalize w7 = W7 at *
  go_wp2
  go_loopw [12] (fun k wr => ∃ i : Nat, i ≤ L ∧ k = .int .i64 i ∧ Below W7.heap.size W7 wr) (fun k _ => L - (intOf k).toNat)
  case atStart => exact ⟨0, by omega, rfl, Below.refl _ _⟩
  case round =>
    obtain ⟨i, hi, rfl, hb8⟩ := hrel
    have hB8 : Below w.heap.size w wr := hB7.trans (hb8.mono hB7.size)
    by_cases hlt : i < L
    · have hltx : i < zs.length := by rw [HL.out]; exact hlt
      rcases HZZ.out wr hB8 with ⟨_, _, e, e'⟩ | ⟨bb, o, cap2, e, hcells⟩
      · exfalso; have := HL.out; rw [e'] at this; simp at this; omega
      injection e with e1 e2 e3
      subst e1
      clear e2 e3
      have c1 := hcells i hltx
      clear hcells
      have hil : (i : Int) < (L : Int) := by omega
      have hi0n : (0 : Int) ≤ (i : Int) := by omega
      have hh := HHAS.out wr _ i (by first | exact hltx | exact hlt) (HV7.out.below hb8)
      generalize zs[i] = xk at c1 hh
      go_wp2_with fail
      refine hh.mono ?_
      rintro e w9 ⟨rfl, hb9⟩
      clear hh c1
      have hb10 : Below W7.heap.size W7 w9 := hb8.trans (hb9.mono hb8.size)
      go_wp2
      go_roundw
      case rel => exact ⟨i + 1, by omega, by go_num, hb10⟩
      case measure => simp [intOf]; omega
    · obtain rfl : i = L := by omega
      clear hlt
      by_cases hlen : n < S.size
      case neg =>
        have hge : (S.size : Int) ≤ (n : Int) := by omega
        go_wp2
        go_ret
        exact ⟨rfl, hB8⟩
      have hlt : (n : Int) < (S.size : Int) := by omega
      have hnge : ¬ (S.size : Int) ≤ (n : Int) := by omega
      by_cases hsame : S[n] = b
      · subst hsame
        go_wp2
        go_ret
        exact ⟨rfl, hB8⟩
      have hbn : ¬ ((S[n].toNat : Int) = (b.toNat : Int)) := fun e => hsame (UInt8.toNat_inj.1 (by omega))
      obtain ⟨C, W1, v0, hcv, hcell, hfz, hbk, hbw⟩ := set_byte S n hlen b wr
      have hB9 : Below w.heap.size w (W1.setCell ⟨wr.heap.size, n, none⟩ (.int .u8 b.toNat)) := hB8.trans (hbw.mono hB8.size)
      have hr5 := HR5.out _ n b (h.below hB9) (by rw [HSL.out, size_list]; exact hlen) (by
        have := HSL.out
        intro e
        apply hsame
        rw [← e]
        simp only [this]
        rfl)
      rw [HSL.out] at hr5
      generalize bytesOf (S.data.toList.set n b) = S' at hbk hr5
      clear hbw
      go_wp2_with fail
      refine hr5.mono ?_
      rintro e w9 ⟨ev, ep, rfl, hb9⟩
      clear hr5 hcv hbk
      go_wp2
      go_ret
      exact ⟨rfl, hB9.trans (hb9.mono hB9.size)⟩
end Go.Proofs.YtgffkkijfmoooabGreatDoor
