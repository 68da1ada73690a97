/-
  The contracts of cmp.Or at two numbers, list.order and list.behind.
-/
import Derived.Test.YtpkoefpdpoikkaaDoorRefList6
namespace Go.Proofs.YtpkoefpdpoikkaaDoor
open Go.RowKit Go.Extern.Stop Go.Stop Go.Extern Go.Sort Go.Shelf Go.Lib

def ToldE (W : World) (a : Nat → Addr) (ev : Value) (c : Nat × Option Nat) : Prop := match c.2 with
  | none => ev = errV a c.1
  | some j => c.1 ≠ 0 ∧ ∃ fb, ev = .iface 43 (.pointer (some ⟨fb, 0, none⟩)) ∧ W.cell? ⟨fb, 0, none⟩ = some (.int .i64 j) ∧ W.cell? ⟨fb, 1, none⟩ = some (errV a c.1)

theorem ToldE.ok {W : World} {a : Nat → Addr} {ev : Value} {c : Nat × Option Nat} (h : ToldE W a ev c) (h0 : c.1 = 0) : ev = .nilIface := by
  obtain ⟨n, o⟩ := c
  dsimp only at h0
  subst h0
  cases o with
  | none => exact h
  | some j => exact absurd rfl h.1

theorem ToldE.bad {W : World} {a : Nat → Addr} {ev : Value} {c : Nat × Option Nat} (h : ToldE W a ev c) (h0 : c.1 ≠ 0) : ∃ t u, ev = .iface t u := by
  obtain ⟨n, o⟩ := c
  cases o with
  | none =>
    cases n with
    | zero => exact absurd rfl h0
    | succ n => exact ⟨_, _, h⟩
  | some j =>
    obtain ⟨_, fb, h, _⟩ := h
    exact ⟨_, _, h⟩

def Short (fs : List Fl) : Prop := ∀ g ∈ fs, g.1.size ≤ 30 ∧ g.2.1.size ≤ 30

def boxW (W : World) (f : Fl) : World := W.alloc (.cells #[.string f.1, .string f.2.1, .int .i64 f.2.2.1, .int .i64 f.2.2.2.1, .int .i64 f.2.2.2.2.1, .int .i64 f.2.2.2.2.2] 32)
theorem boxW_at (W : World) (f : Fl) : FlAt (boxW W f) W.heap.size f := FlAt.new W f
theorem boxW_below (W : World) (f : Fl) : Below W.heap.size W (boxW W f) := (Below.refl _ _).alloc (Nat.le_refl _) _

theorem flsAt_take {w : World} {b o cap : Nat} {fs : List Fl} (h : FlCells w b o fs) {n : Nat} (hn : n ≤ fs.length) (hc : fs.length ≤ cap) : FlsAt w (.slice (some ⟨b, o, none⟩) n cap) (fs.take n) := by
  refine Or.inr ⟨b, o, cap, ?_, ?_, flCells_take h n⟩
  · rw [List.length_take, Nat.min_eq_left hn]
  · rw [List.length_take]; omega

theorem flsAt_drop {w : World} {b o cap L : Nat} {fs : List Fl} (h : FlCells w b o fs) {n : Nat} (hn : n ≤ fs.length) (hc : fs.length ≤ cap) (hL : fs.length = L) : FlsAt w (.slice (some ⟨b, o + n * 6, none⟩) (L - n) (cap - n)) (fs.drop n) := by
  refine Or.inr ⟨b, o + n * 6, cap - n, ?_, ?_, flCells_drop h n⟩
  · rw [List.length_drop, hL]
  · rw [List.length_drop]; omega
end Go.Proofs.YtpkoefpdpoikkaaDoor
namespace Go.Proofs.YtpkoefpdpoikkaaDoor
open Go.RowKit Go.Extern.Stop Go.Stop Go.Extern Go.Sort Go.Shelf Go.Lib

structure ListK (a : Nat → Addr) (EL : World → Prop) : Prop where
  below : ∀ W W' : World, EL W → Below W.heap.size W W' → EL W'
  check : ∀ (W : World) (v : Value) (fs : List Fl), EL W → FlsAt W v fs → fs.length ≤ 100 → Short fs → Calls Tryd.prog 7 #[v] W fun e w' => ∃ ev, e = .returned ev ∧ ToldE w' a ev (listE fs) ∧ Below W.heap.size W w'
  text : ∀ (W : World) (v : Value) (fs : List Fl), EL W → FlsAt W v fs → fs.length ≤ 100 → Short fs → Calls Tryd.prog 13 #[v] W fun e w' => ∃ ev, e = .returned (.tuple #[.string (if (listE fs).1 = 0 then bytesOf (listL fs) else ⟨#[]⟩), ev]) ∧ ToldE w' a ev (listE fs) ∧ Below W.heap.size W w'
  add : ∀ (W : World) (v : Value) (fs : List Fl) (f : Fl), EL W → FlsAt W v fs → fs.length ≤ 100 → Short fs → f.1.size ≤ 30 → f.2.1.size ≤ 30 → Calls Tryd.prog 8 #[v, flV f] W fun e w' => ∃ v' ev, e = .returned (.tuple #[v', ev]) ∧ FlsAt w' v' (addL fs f) ∧ ToldE w' a ev (addE fs f) ∧ Below W.heap.size W w'
  remove : ∀ (W : World) (v : Value) (fs : List Fl) (p : ByteArray), EL W → FlsAt W v fs → fs.length ≤ 100 → Short fs → p.size ≤ 30 → Calls Tryd.prog 10 #[v, .string p] W fun e w' => ∃ v' ev, e = .returned (.tuple #[v', ev]) ∧ FlsAt w' v' (remL fs p) ∧ ToldE w' a ev (remE fs p) ∧ Below W.heap.size W w'
  find : ∀ (W : World) (v : Value) (fs : List Fl) (p : ByteArray), EL W → FlsAt W v fs → fs.length ≤ 100 → Calls Tryd.prog 11 #[v, .string p] W fun e w' => e = .returned (.int .i64 (findF fs p)) ∧ Below W.heap.size W w'

def oneF (n : UInt8) : Fl := (⟨#[100, 97, 116, 97, 47, n]⟩, ⟨#[97]⟩, 1, 0, 0, 1)

set_option maxRecDepth 100000 in
theorem one_any (p : ByteArray) (seq : Int) (w : World) :
    Calls Tryd.prog 12 #[.string p, .int .i64 seq] w fun e w' => e = .returned (flV (p, ⟨#[97]⟩, 1, 0, 0, seq)) ∧ Below w.heap.size w w' := by
  have hal : Below w.heap.size w (w.alloc (.cells #[.string p, .string ⟨#[97]⟩, .int .i64 1, .int .i64 0, .int .i64 0, .int .i64 seq] 32)) := (Below.refl _ _).alloc (Nat.le_refl _) _
  go_enter Tryd.func12, Tryd.ntmps12
  go_wp2
  refine bodyPost_ret (v := flV (p, ⟨#[97]⟩, 1, 0, 0, seq)) (by simp [results, Tryd.results12, go_sem, flV]) rfl ⟨rfl, ?_⟩
  exact hal

theorem dig_o (d : Nat) (h : d < 10) : decDigits d = [UInt8.ofNat (48 + d)] := by rw [decDigits, dif_pos h]
theorem on_1 : itoa 1 = [49] := by
  have h : decDigits 1 = [49] := dig_o 1 (by decide)
  simp [itoa, h]
theorem on_2 : itoa 2 = [50] := by
  have h : decDigits 2 = [50] := dig_o 2 (by decide)
  simp [itoa, h]
theorem on_0 : itoa 0 = [48] := by
  have h : decDigits 0 = [48] := dig_o 0 (by decide)
  simp [itoa, h]
theorem on_path1 : pathO (oneF 49).1.data.toList = some (false, 1) := by
  have h := path_of false [49]
  have hn : numO [49] = some 1 := by rw [← on_1]; exact numO_itoa 1 (by decide)
  have hp : pathN [49] = some 1 := by unfold pathN; rw [hn]; rfl
  rw [hp] at h
  exact h
theorem on_path2 : pathO (oneF 50).1.data.toList = some (false, 2) := by
  have h := path_of false [50]
  have hn : numO [50] = some 2 := by rw [← on_2]; exact numO_itoa 2 (by decide)
  have hp : pathN [50] = some 2 := by unfold pathN; rw [hn]; rfl
  rw [hp] at h
  exact h
theorem on_ok1 : fileE (oneF 49) = 0 := by
  unfold fileE
  rw [on_path1]
  decide
theorem on_ok2 : fileE (oneF 50) = 0 := by
  unfold fileE
  rw [on_path2]
  decide
theorem on_fk1 : fk (oneF 49) = 1 := by unfold fk; rw [(pk_some on_path1).1]; rfl
theorem on_fk2 : fk (oneF 50) = 2 := by unfold fk; rw [(pk_some on_path2).1]; rfl
theorem on_list : (listE [oneF 50]).1 = 0 := listE_ok.2 ⟨by decide, rises_cons.2 ⟨on_ok2, by rw [on_fk2]; decide, by simp [Rises]⟩⟩
theorem on_two : (listE [oneF 49, oneF 50]).1 = 0 := listE_ok.2 ⟨by decide, rises_cons.2 ⟨on_ok1, by rw [on_fk1]; decide, rises_cons.2 ⟨on_ok2, by rw [on_fk1, on_fk2]; decide, by simp [Rises]⟩⟩⟩
theorem on_find : findF [oneF 50] (oneF 49).1 = -1 := findF_no fun j hj => by
  obtain rfl : j = 0 := by simp at hj; omega
  intro e
  have := congrArg (fun b : ByteArray => b.data.toList) e
  simp [oneF] at this
theorem on_add : addE [oneF 50] (oneF 49) = (0, none) := by
  unfold addE
  rw [if_neg (by rw [on_list]; simp), if_neg (by rw [on_ok1]; simp), on_find, if_neg (by decide), if_neg (by decide)]
theorem on_addL : addL [oneF 50] (oneF 49) = [oneF 49, oneF 50] := by
  unfold addL
  rw [on_add, if_pos rfl]
  exact place_mid (xs := []) (ys := [oneF 50]) (by simp) (by simp [on_fk1, on_fk2])
theorem on_text : listL [oneF 49, oneF 50] = [100, 97, 116, 97, 47, 49, 32, 97, 32, 49, 32, 48, 32, 48, 32, 49, 10, 100, 97, 116, 97, 47, 50, 32, 97, 32, 49, 32, 48, 32, 48, 32, 49, 10] := by
  simp [listL, fileL, oneF, on_1, on_0]

set_option maxRecDepth 100000 in
set_option maxHeartbeats 2000000 in
theorem listed_any (w : World) (a : Nat → Addr) (EL : World → Prop) (K : ListK a EL) (h : EL w) :
    Calls Tryd.prog 4 #[] w fun e w' => e = .returned (.bool true) ∧ Below w.heap.size w w' := by
  have ho := fun p W => one_any p 1 W
  unfold flV at ho
  dsimp only at ho
  go_enter Tryd.func4, Tryd.ntmps4
  go_wp2_with fail
  refine (ho _ _).mono ?_
  rintro e w1 ⟨rfl, hb1⟩
  have hal : Below w1.heap.size w1 (w1.alloc (.cells #[.string ⟨#[100, 97, 116, 97, 47, 50]⟩, .string ⟨#[97]⟩, .int .i64 1, .int .i64 0, .int .i64 0, .int .i64 1] 32)) := (Below.refl _ _).alloc (Nat.le_refl _) _
  have hB2 : Below w.heap.size w (w1.alloc (.cells #[.string ⟨#[100, 97, 116, 97, 47, 50]⟩, .string ⟨#[97]⟩, .int .i64 1, .int .i64 0, .int .i64 0, .int .i64 1] 32)) := hb1.trans (hal.mono hb1.size)
  have hx : FlsAt (w1.alloc (.cells #[.string ⟨#[100, 97, 116, 97, 47, 50]⟩, .string ⟨#[97]⟩, .int .i64 1, .int .i64 0, .int .i64 0, .int .i64 1] 32)) (.slice (some ⟨w1.heap.size, 0, none⟩) 1 1) [oneF 50] := by
    refine Or.inr ⟨w1.heap.size, 0, 1, rfl, Nat.le_refl _, flCells_of fun t u hu => ?_⟩
    have h' := cells6 w1 (oneF 50) t u (by simpa [flatF] using hu)
    rw [Addr.add_lit] at h'
    exact h'
  go_wp2_with fail
  generalize w1.alloc (.cells #[.string ⟨#[100, 97, 116, 97, 47, 50]⟩, .string ⟨#[97]⟩, .int .i64 1, .int .i64 0, .int .i64 0, .int .i64 1] 32) = w2 at hB2 hx ⊢
  generalize w1.heap.size = b1 at hx ⊢
  refine (ho _ _).mono ?_
  rintro e w3 ⟨rfl, hb3⟩
  clear ho hal hb1
  have hB3 : Below w.heap.size w w3 := hB2.trans (hb3.mono hB2.size)
  have had := K.add w3 _ [oneF 50] (oneF 49) (K.below _ _ h hB3) (hx.below hb3) (by decide) (fun g hg => by
    rw [List.mem_singleton] at hg; subst hg; decide) (by decide) (by decide)
  rw [on_add, on_addL] at had
  simp only [flV, oneF] at had
  go_wp2_with fail
  refine had.mono ?_
  rintro e w4 ⟨v4, ev4, rfl, hv4, ht4, hb4⟩
  clear had hx hb3
  obtain rfl : ev4 = .nilIface := ht4
  have hB4 : Below w.heap.size w w4 := hB3.trans (hb4.mono hB3.size)
  have htx := K.text w4 v4 [oneF 49, oneF 50] (K.below _ _ h hB4) hv4 (by decide) (fun g hg => by
    simp only [List.mem_cons, List.not_mem_nil, or_false] at hg
    rcases hg with rfl | rfl <;> decide)
  rw [on_two, if_pos rfl, on_text] at htx
  clear hv4 hb4
  go_wp2_with fail
  refine htx.mono ?_
  rintro e w5 ⟨ev5, rfl, ht5, hb5⟩
  clear htx
  obtain rfl : ev5 = .nilIface := ht5.ok on_two
  have hB5 : Below w.heap.size w w5 := hB4.trans (hb5.mono hB4.size)
  have eb : bytesOf [100, 97, 116, 97, 47, 49, 32, 97, 32, 49, 32, 48, 32, 48, 32, 49, 10, 100, 97, 116, 97, 47, 50, 32, 97, 32, 49, 32, 48, 32, 48, 32, 49, 10] = ⟨#[100, 97, 116, 97, 47, 49, 32, 97, 32, 49, 32, 48, 32, 48, 32, 49, 10, 100, 97, 116, 97, 47, 50, 32, 97, 32, 49, 32, 48, 32, 48, 32, 49, 10]⟩ := rfl
  rw [eb]
  clear eb ht5 hb5
  go_wp2
  go_ret
  exact ⟨rfl, hB5⟩
end Go.Proofs.YtpkoefpdpoikkaaDoor
namespace Go.Proofs.YtpkoefpdpoikkaaDoor
open Go.RowKit Go.Extern.Stop Go.Stop Go.Extern Go.Sort Go.Shelf Go.Lib

structure EnvL (w : World) (a : Nat → Addr) : Prop where
  file : EnvK w a
  miss : w.cell? ⟨2, 0, none⟩ = some (.iface 117 (.pointer (some (a 5))))
  exist : w.cell? ⟨1, 0, none⟩ = some (.iface 117 (.pointer (some (a 6))))
  full : w.cell? ⟨0, 0, none⟩ = some (.iface 117 (.pointer (some (a 7))))
  order : w.cell? ⟨5, 0, none⟩ = some (.iface 117 (.pointer (some (a 8))))

theorem EnvL.below {w w' : World} {a : Nat → Addr} (h : EnvL w a) (hb : Below w.heap.size w w') : EnvL w' a :=
  ⟨h.file.below hb, below_keep hb h.miss, below_keep hb h.exist, below_keep hb h.full, below_keep hb h.order⟩

def orI (x y : Int) : Int := if x = 0 then y else x

set_option maxRecDepth 100000 in
set_option maxHeartbeats 1000000 in
theorem cmpOr_any (x y : Int) (b : Nat) (w : World) (h0 : w.cell? ⟨b, 0, none⟩ = some (.int .i64 x)) (h1 : w.cell? ⟨b, 1, none⟩ = some (.int .i64 y)) :
    Calls Tryd.prog 38 #[.slice (some ⟨b, 0, none⟩) 2 2] w fun e w' => e = .returned (.int .i64 (orI x y)) ∧ w' = w := by
  go_enter Tryd.func38, Tryd.ntmps38
  go_wp2
  go_loopw [8] (fun k wr => ∃ n : Nat, n ≤ 2 ∧ k = .int .i64 n ∧ (1 ≤ n → x = 0) ∧ (2 ≤ n → y = 0) ∧ wr = w) (fun k _ => 2 - (intOf k).toNat)
  case atStart => exact ⟨0, by omega, rfl, fun h => absurd h (by omega), fun h => absurd h (by omega), rfl⟩
  case round =>
    obtain ⟨n, hn, rfl, hx, hy, rfl⟩ := hrel
    obtain rfl | rfl | rfl : n = 0 ∨ n = 1 ∨ n = 2 := by omega
    · clear hx hy
      by_cases hx : x = 0
      · subst hx
        go_wp2
        go_roundw
        case rel => exact ⟨1, by omega, by go_num, by simp, by simp, by first | rfl | trivial⟩
        case measure => simp [intOf]
      · have hb : (x == 0) = false := beq_eq_false_iff_ne.2 hx
        go_wp2
        go_ret
        exact ⟨by rw [orI, if_neg hx]; rfl, rfl⟩
    · obtain rfl := hx (by omega)
      clear hx hy
      by_cases hy : y = 0
      · subst hy
        go_wp2
        go_roundw
        case rel => exact ⟨2, by omega, by go_num, by simp, by simp, by first | rfl | trivial⟩
        case measure => simp [intOf]
      · have hb : (y == 0) = false := beq_eq_false_iff_ne.2 hy
        go_wp2
        go_ret
        exact ⟨rfl, rfl⟩
    · obtain rfl := hx (by omega)
      obtain rfl := hy (by omega)
      clear hx hy
      go_wp2
      go_ret
      exact ⟨rfl, rfl⟩

theorem ord_pk {p q : List UInt8} {g k : Bool} {n m : Int} (hp : pathO p = some (g, n)) (hq : pathO q = some (k, m)) : orI (Lib.compareBytes (kindL g) (kindL k)) (Lib.compareInt n m) = Lib.compareInt (pk p) (pk q) := by
  obtain ⟨e1, a1, a2⟩ := pk_some hp
  obtain ⟨e2, b1, b2⟩ := pk_some hq
  rw [e1, e2]
  cases g <;> cases k
  · rfl
  · have : Lib.compareBytes (kindL false) (kindL true) = -1 := by decide
    rw [this]
    unfold Lib.compareInt orI
    rw [if_neg (by decide), if_pos (by simp; omega)]
  · have : Lib.compareBytes (kindL true) (kindL false) = 1 := by decide
    rw [this]
    unfold Lib.compareInt orI
    rw [if_neg (by decide), if_neg (by simp; omega), if_pos (by simp; omega)]
  · have : Lib.compareBytes (kindL true) (kindL true) = 0 := by decide
    rw [this]
    unfold Lib.compareInt orI
    simp only [if_true]
    congr 1
    · exact propext ⟨fun h => by omega, fun h => by omega⟩
    · congr 1
      exact propext ⟨fun h => by omega, fun h => by omega⟩

theorem cmpI_neg (x y : Int) : (0 ≤ Lib.compareInt x y) ↔ y ≤ x := by
  unfold Lib.compareInt
  split
  · constructor <;> intro h <;> omega
  · split <;> constructor <;> intro h <;> omega

theorem cmpI_lt (x y : Int) : (Lib.compareInt x y < 0) ↔ x < y := by
  have := cmpI_neg x y
  omega

theorem cmpI_zero (x y : Int) : (Lib.compareInt x y = 0) ↔ x = y := by
  unfold Lib.compareInt
  split
  · constructor <;> intro h <;> omega
  · split <;> constructor <;> intro h <;> omega

set_option maxRecDepth 100000 in
set_option maxHeartbeats 1000000 in
theorem lorder_any (p q : ByteArray) (w : World) (a : Nat → Addr) (h : EnvN w a) (hp : p.size ≤ 100000) (hq : q.size ≤ 100000) (hpo : pathO p.data.toList ≠ none) (hqo : pathO q.data.toList ≠ none) :
    Calls Tryd.prog 28 #[.string p, .string q] w fun e w' => e = .returned (.int .i64 (Lib.compareInt (pk p.data.toList) (pk q.data.toList))) ∧ Below w.heap.size w w' := by
  obtain ⟨⟨g, n⟩, hp1⟩ := Option.ne_none_iff_exists'.1 hpo
  obtain ⟨⟨k, m⟩, hq1⟩ := Option.ne_none_iff_exists'.1 hqo
  have ha := fnumber_n p w a h hp
  have hb := fun W (hW : EnvN W a) => fnumber_n q W a hW hq
  rw [pathR_some hp1] at ha
  rw [pathR_some hq1] at hb
  rw [← ord_pk hp1 hq1]
  have hs := fun W => Tryd.strings_Compare (bytesOf (kindL g)) (bytesOf (kindL k)) W
  rw [bytes_data, bytes_data] at hs
  have hc := fun W => Tryd.cmp_Compare_int n m W
  generalize Lib.compareBytes (kindL g) (kindL k) = X at hs ⊢
  generalize Lib.compareInt n m = Y at hc ⊢
  simp only [errV] at ha hb
  generalize bytesOf (kindL g) = KA at ha hs
  generalize bytesOf (kindL k) = KB at hb hs
  clear hp1 hq1 hpo hqo hp hq
  go_enter Tryd.func28, Tryd.ntmps28
  go_wp2_with fail
  refine ha.mono ?_
  rintro e w1 ⟨rfl, hb1⟩
  have hq1 := hb w1 (h.below hb1)
  clear ha hb
  go_wp2_with fail
  refine hq1.mono ?_
  rintro e w2 ⟨rfl, hb2⟩
  clear hq1
  have hB2 : Below w.heap.size w w2 := hb1.trans (hb2.mono hb1.size)
  clear hb1 hb2
  go_wp2_with fail
  refine (hs _).mono ?_
  rintro e w3 ⟨rfl, rfl⟩
  clear hs
  go_wp2_with fail
  refine (hc _).mono ?_
  rintro e w4 ⟨rfl, rfl⟩
  clear hc
  have hal : Below w4.heap.size w4 (w4.alloc (.cells #[.int .i64 X, .int .i64 Y] 3)) := (Below.refl _ _).alloc (Nat.le_refl _) _
  have hor := cmpOr_any X Y w4.heap.size (w4.alloc (.cells #[.int .i64 X, .int .i64 Y] 3)) (by simp) (by simp)
  go_wp2_with fail
  refine hor.mono ?_
  rintro e w5 ⟨rfl, rfl⟩
  clear hor
  go_wp2
  go_ret
  exact ⟨rfl, hB2.trans (hal.mono hB2.size)⟩

theorem last_of {β : Type} (acc : List β) (k : Nat) (d : β) (hk : acc.length = k + 1) (hkk : k < acc.length) : acc.getLastD d = acc[k] := by
  have hne : acc ≠ [] := fun e => by rw [e] at hk; simp at hk
  rw [List.getLastD_eq_getLast?, List.getLast?_eq_some_getLast hne, Option.getD_some, List.getLast_eq_getElem]
  congr 1
  omega

def behE (fs : List Fl) (f : Fl) : Nat := if fs ≠ [] ∧ fk f ≤ fk (fs.getLastD zeroF) then 9 else 0

set_option maxRecDepth 100000 in
set_option maxHeartbeats 2000000 in
theorem behind_any (v : Value) (fs : List Fl) (f : Fl) (w : World) (a : Nat → Addr) (h : EnvL w a) (hx : FlsAt w v fs) (hl : fs.length ≤ 100000) (hsz : ∀ g ∈ fs, g.1.size ≤ 100000 ∧ pathO g.1.data.toList ≠ none) (hf : f.1.size ≤ 100000) (hfo : pathO f.1.data.toList ≠ none) :
    Calls Tryd.prog 16 #[v, flV f] w fun e w' => e = .returned (errV a (behE fs f)) ∧ Below w.heap.size w w' := by
  obtain ⟨q, cap, rfl⟩ := hx.form
  have hal : Below w.heap.size w (w.alloc (.cells #[.string f.1, .string f.2.1, .int .i64 f.2.2.1, .int .i64 f.2.2.2.1, .int .i64 f.2.2.2.2.1, .int .i64 f.2.2.2.2.2] 32)) := (Below.refl _ _).alloc (Nat.le_refl _) _
  have hfl := FlAt.new w f
  unfold flV
  by_cases hne : fs = []
  · have hE : behE fs f = 0 := by unfold behE; rw [if_neg]; rintro ⟨h', _⟩; exact h' hne
    rw [hE]
    subst hne
    simp only [errV]
    have hd : decide ((((0 : Nat) : Int)) > 0) = false := by decide
    go_enter Tryd.func16, Tryd.ntmps16
    go_wp2
    all_goals
      go_quiet (fail)
      go_wp2
      go_ret
      exact ⟨rfl, below_drewN hal nq⟩
  · obtain ⟨b, o, rfl, hc⟩ := hx.cells hne
    obtain ⟨k, hk⟩ : ∃ k, fs.length = k + 1 := ⟨fs.length - 1, by have := List.length_pos_iff.2 hne; omega⟩
    have hkk : k < fs.length := by omega
    have hlast := last_of fs k zeroF hk hkk
    obtain ⟨gs, go⟩ := hsz fs[k] (List.getElem_mem _)
    have c0 := below_keep hal (hc k hkk).1
    have z0 := hfl.cells.1
    have HOD : Hid (∀ W, Below w.heap.size w W → Calls Tryd.prog 28 #[.string fs[k].1, .string f.1] W fun e w' => e = .returned (.int .i64 (Lib.compareInt (fk fs[k]) (fk f))) ∧ Below W.heap.size W w') := fun W hW => lorder_any fs[k].1 f.1 W a (h.below hW).file.env gs hf go hfo
    have HE : Hid (behE fs f = if fk f ≤ fk fs[k] then 9 else 0) := by
      show _ = _
      unfold behE
      rw [hlast]
      simp [hne]
    have hcm := cmpI_neg (fk fs[k]) (fk f)
    rw [HE.out, hk]
    have hk5 : k ≤ 100000 := by omega
    clear HE hlast gs go hsz hc hx hne hfo hl
    obtain ⟨fp, fq, fn, flo, fhi, fseq⟩ := f
    dsimp only at hal hfl hf z0 c0 HOD ⊢
    generalize fk (fp, fq, fn, flo, fhi, fseq) = KF at HOD hcm ⊢
    generalize fk fs[k] = KG at HOD hcm ⊢
    generalize fs[k].1 = gp at c0 HOD
    clear hkk hk
    generalize Lib.compareInt KG KF = C at HOD hcm
    have hi1 : (0 : Int) < (k : Int) + 1 := by omega
    have hi3 : (k : Int) < (k : Int) + 1 := by omega
    have hi4 : (0 : Int) ≤ (k : Int) := by omega
    have hi5 : IntKind.i64.wrap (k : Int) = (k : Int) := IntWalk.i64_in _ (by omega)
    have hd0 : decide ((k : Int) + 1 > 0) = true := decide_eq_true hi1
    by_cases hle : KF ≤ KG
    · have h0 : (0 : Int) ≤ C := hcm.2 hle
      rw [if_pos hle]
      simp only [errV]
      go_enter Tryd.func16, Tryd.ntmps16
      go_upto_region 1 with fail
      generalize w.alloc (.cells #[.string fp, .string fq, .int .i64 fn, .int .i64 flo, .int .i64 fhi, .int .i64 fseq] 32) = WA at hal hfl z0 c0 ⊢
      go_region_held3 (fun w' => w'.cell? ⟨b, o + k * 6, none⟩ = some (.string gp) ∧ w'.cell? ⟨w.heap.size, 0, none⟩ = some (.string fp) ∧ Below w.heap.size w w')
        (first
          | (go_split_ands; with_reducible exact ⟨below_keep hbX (by assumption), below_keep hbX (by assumption), Below.trans (by assumption) (hbX.mono (Below.size (by assumption)))⟩)
          | (go_split_ands; exact ⟨by go_keep, by go_keep, by assumption⟩)
          | (go_split_ands; exact ⟨by go_keep, by go_keep, Below.drew (by assumption)⟩))
        (first
          | (go_at_call 28; with_reducible refine (HOD.out _ (by go_split_ands; assumption)).mono ?_; rintro e wX ⟨rfl, hbX⟩))
      go_split_ands
      have hBX : Below w.heap.size w wX := by assumption
      have ho := (h.below hBX).order
      go_wp2
      go_ret
      exact ⟨rfl, hBX⟩
    · have h0 : ¬ (0 : Int) ≤ C := fun h' => hle (hcm.1 h')
      rw [if_neg hle]
      simp only [errV]
      go_enter Tryd.func16, Tryd.ntmps16
      go_upto_region 1 with fail
      generalize w.alloc (.cells #[.string fp, .string fq, .int .i64 fn, .int .i64 flo, .int .i64 fhi, .int .i64 fseq] 32) = WA at hal hfl z0 c0 ⊢
      go_region_held3 (fun w' => w'.cell? ⟨b, o + k * 6, none⟩ = some (.string gp) ∧ w'.cell? ⟨w.heap.size, 0, none⟩ = some (.string fp) ∧ Below w.heap.size w w')
        (first
          | (go_split_ands; with_reducible exact ⟨below_keep hbX (by assumption), below_keep hbX (by assumption), Below.trans (by assumption) (hbX.mono (Below.size (by assumption)))⟩)
          | (go_split_ands; exact ⟨by go_keep, by go_keep, by assumption⟩)
          | (go_split_ands; exact ⟨by go_keep, by go_keep, Below.drew (by assumption)⟩))
        (first
          | (go_at_call 28; with_reducible refine (HOD.out _ (by go_split_ands; assumption)).mono ?_; rintro e wX ⟨rfl, hbX⟩))
      go_split_ands
      have hBX : Below w.heap.size w wX := by assumption
      go_wp2
      go_ret
      exact ⟨rfl, hBX⟩
end Go.Proofs.YtpkoefpdpoikkaaDoor
