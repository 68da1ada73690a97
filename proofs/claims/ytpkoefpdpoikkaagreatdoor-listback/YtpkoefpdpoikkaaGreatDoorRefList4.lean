/-
  The contracts of the document's own Placed, and of the statements' own OwnFiles.
-/
import Derived.Test.YtpkoefpdpoikkaaGreatDoorListPure
import Derived.Laws.Bits128
import Derived.LaidEql
import Derived.Stop.Asserts
import Derived.RowKitTokens
namespace Go.Proofs.YtpkoefpdpoikkaaGreatDoor
open Go.RowKit Go.Extern.Stop Go.Stop Go.Extern Go.Sort Go.Shelf Go.Lib

def encF (f : Fl) : List Value := [.string f.1, .string f.2.1, .int .i64 f.2.2.1, .int .i64 f.2.2.2.1, .int .i64 f.2.2.2.2.1, .int .i64 f.2.2.2.2.2]

def FlCells (w : World) (b o : Nat) (fs : List Fl) : Prop :=
  ∀ j (h : j < fs.length), w.cell? ⟨b, o + j * 6, none⟩ = some (.string fs[j].1) ∧ w.cell? ⟨b, o + j * 6 + 1, none⟩ = some (.string fs[j].2.1) ∧ w.cell? ⟨b, o + j * 6 + 2, none⟩ = some (.int .i64 fs[j].2.2.1) ∧ w.cell? ⟨b, o + j * 6 + 3, none⟩ = some (.int .i64 fs[j].2.2.2.1) ∧ w.cell? ⟨b, o + j * 6 + 4, none⟩ = some (.int .i64 fs[j].2.2.2.2.1) ∧ w.cell? ⟨b, o + j * 6 + 5, none⟩ = some (.int .i64 fs[j].2.2.2.2.2)

def FlsAt (w : World) (v : Value) (fs : List Fl) : Prop :=
  (∃ p c, v = .slice p 0 c ∧ (p = none → c = 0) ∧ fs = []) ∨ ∃ b o cap, v = .slice (some ⟨b, o, none⟩) fs.length cap ∧ fs.length ≤ cap ∧ FlCells w b o fs

theorem FlCells.below {w w' : World} {b o : Nat} {fs : List Fl} (h : FlCells w b o fs) (hb : Below w.heap.size w w') : FlCells w' b o fs :=
  fun j hj => ⟨below_keep hb (h j hj).1, below_keep hb (h j hj).2.1, below_keep hb (h j hj).2.2.1, below_keep hb (h j hj).2.2.2.1, below_keep hb (h j hj).2.2.2.2.1, below_keep hb (h j hj).2.2.2.2.2⟩

theorem FlsAt.below {w w' : World} {v : Value} {fs : List Fl} (h : FlsAt w v fs) (hb : Below w.heap.size w w') : FlsAt w' v fs := by
  rcases h with h | ⟨b, o, cap, hv, hl, hc⟩
  · exact Or.inl h
  · exact Or.inr ⟨b, o, cap, hv, hl, hc.below hb⟩

theorem FlsAt.form {w : World} {v : Value} {fs : List Fl} (h : FlsAt w v fs) : ∃ p c, v = .slice p fs.length c := by
  rcases h with ⟨p, c, rfl, _, rfl⟩ | ⟨b, o, cap, rfl, _⟩
  · exact ⟨_, _, rfl⟩
  · exact ⟨_, _, rfl⟩

theorem FlsAt.cells {w : World} {q : Option Addr} {n c : Nat} {fs : List Fl} (h : FlsAt w (.slice q n c) fs) (hne : fs ≠ []) : ∃ b o, q = some ⟨b, o, none⟩ ∧ FlCells w b o fs := by
  rcases h with ⟨_, _, _, _, e⟩ | ⟨b, o, cap, e, _, hc⟩
  · exact absurd e hne
  · simp only [Value.slice.injEq] at e
    exact ⟨b, o, e.1, hc⟩

theorem FlsAt.room {w : World} {q : Option Addr} {n c : Nat} {fs : List Fl} (h : FlsAt w (.slice q n c) fs) : n = fs.length ∧ (fs ≠ [] → n ≤ c) := by
  rcases h with ⟨p, c', e, _, rfl⟩ | ⟨b, o, cap, e, hl, hc⟩
  · simp only [Value.slice.injEq] at e
    exact ⟨e.2.1, fun h => absurd rfl h⟩
  · simp only [Value.slice.injEq] at e
    obtain ⟨_, rfl, rfl⟩ := e
    exact ⟨rfl, fun _ => hl⟩

def flatF (fs : List Fl) : List Value := fs.flatMap encF

theorem encF_len (f : Fl) : (encF f).length = 6 := rfl
theorem encF_one (f : Fl) : ∀ u ∈ encF f, u.oneCell' = true := by
  intro u hu
  simp only [encF, List.mem_cons, List.not_mem_nil, or_false] at hu
  rcases hu with rfl | rfl | rfl | rfl | rfl | rfl <;> rfl

theorem flatF_len : ∀ fs : List Fl, (flatF fs).length = fs.length * 6
  | [] => rfl
  | f :: fs => by
    have := flatF_len fs
    simp only [flatF, List.flatMap_cons, List.length_append, List.length_cons] at *
    rw [this, encF_len]; omega

theorem flatF_one (fs : List Fl) : ∀ u ∈ flatF fs, u.oneCell' = true := by
  intro u hu
  simp only [flatF, List.mem_flatMap] at hu
  obtain ⟨f, _, hf⟩ := hu
  exact encF_one f u hf

theorem flatF_append (xs ys : List Fl) : flatF (xs ++ ys) = flatF xs ++ flatF ys := by simp [flatF]

theorem flatF_get : ∀ (fs : List Fl) (j c : Nat) (h : j < fs.length), c < 6 → (flatF fs)[j * 6 + c]? = (encF fs[j])[c]?
  | [], j, _, h, _ => by simp at h
  | f :: fs, 0, c, _, hc => by
    simp only [flatF, List.flatMap_cons, Nat.zero_mul, Nat.zero_add, List.getElem_cons_zero]
    rw [List.getElem?_append_left (by rw [encF_len]; exact hc)]
  | f :: fs, j + 1, c, h, hc => by
    have hj : j < fs.length := by simp at h; omega
    have := flatF_get fs j c hj hc
    simp only [flatF, List.flatMap_cons, List.getElem_cons_succ] at *
    rw [List.getElem?_append_right (by rw [encF_len]; omega), encF_len, show (j + 1) * 6 + c - 6 = j * 6 + c by omega]
    exact this

theorem cellsF_flat {w : World} {b o : Nat} {fs : List Fl} (h : FlCells w b o fs) : ∀ t u, (flatF fs)[t]? = some u → w.cell? ⟨b, o + t, none⟩ = some u := by
  intro t u hu
  have ht : t < (flatF fs).length := by
    rcases Nat.lt_or_ge t (flatF fs).length with h' | h'
    · exact h'
    · rw [List.getElem?_eq_none h'] at hu; cases hu
  rw [flatF_len] at ht
  have hj : t / 6 < fs.length := by omega
  have e : t = t / 6 * 6 + t % 6 := by omega
  rw [e, flatF_get fs (t / 6) (t % 6) hj (by omega)] at hu
  obtain ⟨h0, h1, h2, h3, h4, h5⟩ := h (t / 6) hj
  have hm : t % 6 = 0 ∨ t % 6 = 1 ∨ t % 6 = 2 ∨ t % 6 = 3 ∨ t % 6 = 4 ∨ t % 6 = 5 := by omega
  rcases hm with hm | hm | hm | hm | hm | hm <;> rw [hm] at hu <;> simp only [encF, List.getElem?_cons_succ, List.getElem?_cons_zero, Option.some.injEq] at hu
  · rw [← hu, ← h0]; congr 2; omega
  · rw [← hu, ← h1]; congr 2; omega
  · rw [← hu, ← h2]; congr 2; omega
  · rw [← hu, ← h3]; congr 2; omega
  · rw [← hu, ← h4]; congr 2; omega
  · rw [← hu, ← h5]; congr 2; omega

theorem flCells_of {w : World} {b o : Nat} {fs : List Fl} (h : ∀ t u, (flatF fs)[t]? = some u → w.cell? ⟨b, o + t, none⟩ = some u) : FlCells w b o fs := fun j hj => by
  have g : ∀ c (hc : c < 6), w.cell? ⟨b, o + (j * 6 + c), none⟩ = (encF fs[j])[c]? := fun c hc => by
    have e := flatF_get fs j c hj hc
    have hl : c < (encF fs[j]).length := by rw [encF_len]; exact hc
    rw [List.getElem?_eq_getElem hl] at e ⊢
    exact h _ _ e
  refine ⟨?_, ?_, ?_, ?_, ?_, ?_⟩
  · simpa [encF] using g 0 (by omega)
  · simpa [encF, Nat.add_assoc] using g 1 (by omega)
  · simpa [encF, Nat.add_assoc] using g 2 (by omega)
  · simpa [encF, Nat.add_assoc] using g 3 (by omega)
  · simpa [encF, Nat.add_assoc] using g 4 (by omega)
  · simpa [encF, Nat.add_assoc] using g 5 (by omega)

theorem flsAt_of_own {w : World} {base : Nat} {v : Value} {n : Nat} {fs : List Fl} (h : w.ownsRow base 23 6 v n (flatF fs)) : FlsAt w v fs ∧ n = fs.length := by
  obtain ⟨hl, h⟩ := h
  have hn : n = fs.length := by rw [flatF_len] at hl; omega
  refine ⟨?_, hn⟩
  subst hn
  rcases h with ⟨hv, hn⟩ | ⟨g, cap, cur, rfl, _, hg, hcp, _, _, ht⟩
  · exact Or.inl ⟨none, 0, by rw [hv], fun _ => rfl, List.length_eq_zero_iff.1 hn⟩
  · refine Or.inr ⟨g, 0, cap, rfl, hcp, flCells_of fun t u hu => ?_⟩
    have ht' : t < fs.length * 6 := by
      rw [← flatF_len]
      rcases Nat.lt_or_ge t (flatF fs).length with h' | h'
      · exact h'
      · rw [List.getElem?_eq_none h'] at hu; cases hu
    rw [← ht, List.getElem?_take, if_pos ht'] at hu
    simp only [World.cell?, hg, Nat.zero_add]
    simpa using hu

theorem Tryz.fileInfo3 : (Tryz.prog.info? 23).map (fun i => (i.zero, i.size, i.bytes)) = some (some (.agg #[.string ⟨#[]⟩, .string ⟨#[]⟩, .int .i64 0, .int .i64 0, .int .i64 0, .int .i64 0]), 6, 64) := by kernel_rfl
theorem Tryz.fileInfo : ∃ i0 : TypeInfo, Tryz.prog.info? 23 = some i0 ∧ i0.zero = some (.agg #[.string ⟨#[]⟩, .string ⟨#[]⟩, .int .i64 0, .int .i64 0, .int .i64 0, .int .i64 0]) ∧ i0.size = 6 ∧ i0.bytes = 64 := by
  obtain ⟨i, hi, h⟩ := Option.map_eq_some_iff.1 Tryz.fileInfo3
  simp only [Prod.mk.injEq] at h
  exact ⟨i, hi, h.1, h.2.1, h.2.2⟩
end Go.Proofs.YtpkoefpdpoikkaaGreatDoor
namespace Go.Proofs.YtpkoefpdpoikkaaGreatDoor
open Go.RowKit Go.Extern.Stop Go.Stop Go.Extern Go.Sort Go.Shelf Go.Lib

theorem cells6 (w : World) (f : Fl) : ∀ j u, (encF f)[j]? = some u → (w.alloc (.cells #[.string f.1, .string f.2.1, .int .i64 f.2.2.1, .int .i64 f.2.2.2.1, .int .i64 f.2.2.2.2.1, .int .i64 f.2.2.2.2.2] 23)).cell? ((⟨w.heap.size, 0, none⟩ : Addr).add j) = some u := by
  intro j u hu
  rw [Addr.add_lit, Nat.zero_add, cell_of_row _ _ _ _ _ _ (heap_alloc_new _ _)]
  rw [← hu]
  simp [encF]

def findF (fs : List Fl) (p : ByteArray) : Int := match fs.findIdx? (fun f => decide (f.1 = p)) with
  | some i => i
  | none => -1

theorem findF_at {fs : List Fl} {p : ByteArray} {n : Nat} (hn : n < fs.length) (h : ∀ j (h : j < fs.length), j < n → fs[j].1 ≠ p) (e : fs[n].1 = p) : findF fs p = n := by
  unfold findF
  have : fs.findIdx? (fun f => decide (f.1 = p)) = some n := by
    rw [List.findIdx?_eq_some_iff_getElem]
    exact ⟨hn, by simpa using e, fun j hj => by simpa using h j (by omega) hj⟩
  rw [this]
theorem findF_no {fs : List Fl} {p : ByteArray} (h : ∀ j (h : j < fs.length), fs[j].1 ≠ p) : findF fs p = -1 := by
  unfold findF
  have : fs.findIdx? (fun f => decide (f.1 = p)) = none := by
    rw [List.findIdx?_eq_none_iff]
    intro f hf
    obtain ⟨j, hj, rfl⟩ := List.mem_iff_getElem.1 hf
    simpa using h j hj
  rw [this]

theorem nopath_succ {fs : List Fl} {n : Nat} {p : ByteArray} (h : ∀ j (h : j < fs.length), j < n → fs[j].1 ≠ p) (hn : n < fs.length) (e : fs[n].1 ≠ p) : ∀ j (h : j < fs.length), j < n + 1 → fs[j].1 ≠ p := fun j hj hjn => by
  rcases Nat.lt_or_ge j n with h' | h'
  · exact h j hj h'
  · obtain rfl : j = n := by omega
    exact e

def kept (P : Fl → Bool) (fs : List Fl) (n : Nat) : List Fl := (fs.take n).filter P
theorem kept_zero (P : Fl → Bool) (fs : List Fl) : kept P fs 0 = [] := by simp [kept]
theorem kept_len (P : Fl → Bool) (fs : List Fl) (n : Nat) : (kept P fs n).length ≤ n := by
  have := List.length_filter_le P (fs.take n)
  rw [List.length_take] at this
  unfold kept
  omega
theorem kept_succ (P : Fl → Bool) (fs : List Fl) (n : Nat) (h : n < fs.length) : kept P fs (n + 1) = if P fs[n] = true then kept P fs n ++ [fs[n]] else kept P fs n := by
  unfold kept
  rw [← List.take_append_getElem h, List.filter_append]
  split
  · rename_i hp; rw [List.filter_cons_of_pos hp]; rfl
  · rename_i hp; rw [List.filter_cons_of_neg hp]; simp
theorem kept_all (P : Fl → Bool) (fs : List Fl) : kept P fs fs.length = fs.filter P := by unfold kept; rw [List.take_length]

def offP (p : ByteArray) (f : Fl) : Bool := decide (f.1 ≠ p)
def inP (lo hi : Int) (f : Fl) : Bool := decide ((if f.2.2.2.1 < lo then lo else f.2.2.2.1) ≤ (if hi < f.2.2.2.2.1 then hi else f.2.2.2.2.1))

end Go.Proofs.YtpkoefpdpoikkaaGreatDoor
namespace Go.Proofs.YtpkoefpdpoikkaaGreatDoor
open Go.RowKit Go.Extern.Stop Go.Stop Go.Extern Go.Sort Go.Shelf Go.Lib

set_option maxRecDepth 100000 in
set_option maxHeartbeats 4000000 in
theorem sameFiles_yes (v v' : Value) (fs : List Fl) (w : World) (hx : FlsAt w v fs) (hy : FlsAt w v' fs) (hl : fs.length ≤ 20000) :
    Calls Tryz.prog 30 #[v, v'] w fun e w' => e = .returned (.bool true) ∧ Below w.heap.size w w' := by
  obtain ⟨q, cap, rfl⟩ := hx.form
  obtain ⟨q', cap', rfl⟩ := hy.form
  have HFX : Hid (FlsAt w (.slice q fs.length cap) fs) := hx
  have HFY : Hid (FlsAt w (.slice q' fs.length cap') fs) := hy
  obtain ⟨L, hL⟩ : ∃ L, fs.length = L := ⟨_, rfl⟩
  have HX : Hid (fs.length = L) := hL
  rw [hL] at hl ⊢
  clear hL hx hy
  go_enter Tryz.func30, Tryz.ntmps30
  go_wp2
  go_loopw [5] (fun k wr => ∃ n : Nat, n ≤ L ∧ k = .int .i64 n ∧ Below w.heap.size w wr) (fun k _ => L - (intOf k).toNat)
  case atStart => exact ⟨0, by omega, rfl, Below.refl _ _⟩
  case round =>
    obtain ⟨n, hn, rfl, hb⟩ := hrel
    by_cases hlt : n < L
    · have hltx : n < fs.length := by rw [HX.out]; exact hlt
      obtain ⟨b, o, hq, hc⟩ := (HFX.out.below hb).cells (fun e => by rw [e] at hltx; simp at hltx)
      obtain ⟨b', o', hq', hc'⟩ := (HFY.out.below hb).cells (fun e => by rw [e] at hltx; simp at hltx)
      subst hq hq'
      obtain ⟨c0, c1, c2, c3, c4, c5⟩ := hc n hltx
      obtain ⟨d0, d1, d2, d3, d4, d5⟩ := hc' n hltx
      generalize fs[n] = f at c0 c1 c2 c3 c4 c5 d0 d1 d2 d3 d4 d5
      have hnq := fun W => neqF f W
      have hgd : ∀ (bo : BinOp) (a b : Operand) (w : World), Sem.run Tryz.prog (eqGuard bo 23 a b (flV f) (flV f)) w = .ok () w := fun bo a b w => guardF bo a b f f w
      unfold flV at hnq hgd
      obtain ⟨fp, fq, fn, flo, fhi, fseq⟩ := f
      dsimp only at c0 c1 c2 c3 c4 c5 d0 d1 d2 d3 d4 d5 hnq hgd
      have hi : (n : Int) < (L : Int) := by omega
      have hi0' : (0 : Int) ≤ (n : Int) := by omega
      clear hc hc' hltx
      go_wp2
      go_quiet (fail)
      have hb2 : Below w.heap.size w (wr.drewN nq) := below_drewN hb nq
      generalize wr.drewN nq = wr2 at hb2 ⊢
      go_wp2
      go_roundw
      case rel => exact ⟨n + 1, by omega, by go_num, hb2⟩
      case measure => simp [intOf]; omega
    · obtain rfl : n = L := by omega
      go_wp2
      go_ret
      exact ⟨rfl, hb⟩

theorem listL_take (fs : List Fl) (n : Nat) (h : n < fs.length) : listL (fs.take (n + 1)) = listL (fs.take n) ++ (fileL fs[n] ++ [10]) := by
  have e := (List.take_append_getElem h).symm
  unfold listL
  rw [e, List.flatMap_append]
  simp only [List.flatMap_cons, List.flatMap_nil, List.append_nil]

theorem listL_len : ∀ fs : List Fl, (∀ f ∈ fs, fileE f = 0 ∧ f.1.size ≤ 100 ∧ f.2.1.size ≤ 100) → (listL fs).length ≤ 300 * fs.length
  | [], _ => by simp [listL]
  | f :: r, h => by
    have ih := listL_len r (fun g hg => h g (List.mem_cons_of_mem _ hg))
    obtain ⟨h0, h1, h2⟩ := h f List.mem_cons_self
    have := fl_len h0
    have e : listL (f :: r) = fileL f ++ 10 :: listL r := by simp [listL]
    rw [e, List.length_append, List.length_cons, List.length_cons]
    omega

end Go.Proofs.YtpkoefpdpoikkaaGreatDoor
namespace Go.Proofs.YtpkoefpdpoikkaaGreatDoor
open Go.RowKit Go.Extern.Stop Go.Stop Go.Extern Go.Sort Go.Shelf Go.Lib

def ahead (fs : List Fl) : Nat → Int
  | 0 => 0
  | n + 1 => match fs[n]? with
    | some f => fk f
    | none => 0

theorem ahead_succ {fs : List Fl} {n : Nat} (h : n < fs.length) : ahead fs (n + 1) = fk fs[n] := by
  show (match fs[n]? with
    | some f => fk f
    | none => 0) = _
  rw [List.getElem?_eq_getElem h]

def LeftG (fs : List Fl) (n : Nat) : Prop := lstG 0 fs 0 = lstG (ahead fs n) (fs.drop n) n

theorem left_zero (fs : List Fl) : LeftG fs 0 := rfl
theorem left_bad {fs : List Fl} {n : Nat} (h : LeftG fs n) (hn : n < fs.length) (he : fileE fs[n] ≠ 0) : lstG 0 fs 0 = (fileE fs[n], some n) := by
  unfold LeftG at h
  rw [h, List.drop_eq_getElem_cons hn]
  unfold lstG
  rw [if_pos he]
theorem left_order {fs : List Fl} {n : Nat} (h : LeftG fs n) (hn : n < fs.length) (he : fileE fs[n] = 0) (ho : fk fs[n] ≤ ahead fs n) : lstG 0 fs 0 = (9, some n) := by
  unfold LeftG at h
  rw [h, List.drop_eq_getElem_cons hn]
  unfold lstG
  rw [if_neg (by simp [he]), if_pos ho]
theorem left_succ {fs : List Fl} {n : Nat} (h : LeftG fs n) (hn : n < fs.length) (he : fileE fs[n] = 0) (ho : ahead fs n < fk fs[n]) : LeftG fs (n + 1) := by
  unfold LeftG at h ⊢
  rw [h, ahead_succ hn]
  conv => lhs; rw [List.drop_eq_getElem_cons hn]
  conv => lhs; unfold lstG
  rw [if_neg (by simp [he]), if_neg (by omega)]
theorem left_all {fs : List Fl} (h : LeftG fs fs.length) : lstG 0 fs 0 = (0, none) := by
  unfold LeftG at h
  rw [h, List.drop_length]
  rfl

end Go.Proofs.YtpkoefpdpoikkaaGreatDoor
namespace Go.Proofs.YtpkoefpdpoikkaaGreatDoor
open Go.RowKit Go.Extern.Stop Go.Stop Go.Extern Go.Sort Go.Shelf Go.Lib

def Src (w : World) (q : Option Addr) (m c : Nat) (ys : List Value) : Prop :=
  (m = 0 ∧ (q = none → c = 0)) ∨ ∃ b o, q = some ⟨b, o, none⟩ ∧ ∀ j u, ys[j]? = some u → w.cell? ⟨b, o + j, none⟩ = some u

set_option maxHeartbeats 1000000 in
theorem run_append_src {P : Program} (w : World) (base : Nat) (t ty e : TypeId) (i : TypeInfo) (z : Value) (size bytes : Nat) (ht : P.underlying t = some (.slice e)) (hi : P.info? e = some i) (hz : i.zero = some z)
    (hsize : i.size = size) (hby : i.bytes = bytes) (hzs : z.cells.size = size) (hsz : 0 < size)
    (v : Value) (n : Nat) (xs : List Value) (hown : w.ownsRow base e size v n xs)
    (q : Option Addr) (m c : Nat) (news : List Value) (hl : news.length = m * size) (hsrc : Src w q m c news) (h1 : ∀ u ∈ news, u.oneCell' = true)
    (h63 : n + m ≤ maxLen) (hbytes : (n + m) * bytes ≤ 140737488355328) (hbase : base ≤ w.heap.size) :
    ∃ v' w', (Builtin.append_ #[t, t] ty #[v, .slice q m c]).run P w = .ok v' w' ∧ w'.ownsRow base e size v' (n + m) (xs ++ news) ∧ w.grownBy w' v.ownBlock ∧ (v'.ownBlock = v.ownBlock ∨ v'.ownBlock = some w.heap.size) := by
  rcases hsrc with ⟨h0, hc⟩ | ⟨b, o, rfl, hcells⟩
  · subst h0
    have hnews : news = [] := List.length_eq_zero_iff.1 (by simpa using hl)
    subst hnews
    cases q with
    | none =>
      have hc0 := hc rfl
      subst hc0
      refine ⟨v, w, ?_, by simpa using hown, ⟨rfl, rfl, rfl, Nat.le_refl _, fun _ _ _ => rfl⟩, Or.inl rfl⟩
      rcases hown.2 with ⟨rfl, _⟩ | ⟨g, cap, cur, rfl, _, _, hn, _⟩
      · simp [Builtin.append_, run_underlying ht, sizeOf, typeInfo, zeroValue, hi, hz, Builtin.lenOf, run_firstCells_none]
      · simp [Builtin.append_, run_underlying ht, sizeOf, typeInfo, zeroValue, hi, hz, Builtin.lenOf, run_firstCells_none, hn, storeCells]
    | some ad =>
      obtain ⟨v', w', hr, h2, h3, _, h5⟩ := run_append_own_at (P := P) w base t ty e i z size bytes ht hi hz hsize hby hzs hsz v n xs hown ad 0 c [] hl (fun j u hj => by simp at hj) h1 h63 hbytes hbase
      exact ⟨v', w', hr, h2, h3, h5⟩
  · obtain ⟨v', w', hr, h2, h3, _, h5⟩ := run_append_own_at (P := P) w base t ty e i z size bytes ht hi hz hsize hby hzs hsz v n xs hown ⟨b, o, none⟩ m c news hl (fun j u hj => by rw [Addr.add_lit]; exact hcells j u hj) h1 h63 hbytes hbase
    exact ⟨v', w', hr, h2, h3, h5⟩

theorem wpList_append_src {P : Program} {w : World} {ops : Array Oper} {rest : List Oper} {o : Oper} {a : Act} {Q : Exit → Act → World → Prop} (hgd : o.guard = none) (s x : Operand) (t : TypeId)
    (ho : o.op = .call { callee := .builtin .append, args := #[s, x], argTypes := #[t, t] })
    (base : Nat) (e : TypeId) (i : TypeInfo) (z : Value) (size bytes : Nat) (ht : P.underlying t = some (.slice e)) (hi : P.info? e = some i) (hz : i.zero = some z)
    (hsize : i.size = size) (hby : i.bytes = bytes) (hzs : z.cells.size = size) (hsz : 0 < size)
    (v : Value) (n : Nat) (xs : List Value) (hs : a.eval s = v) (hown : w.ownsRow base e size v n xs)
    (q : Option Addr) (m c : Nat) (news : List Value) (hx : a.eval x = .slice q m c) (hl : news.length = m * size) (hsrc : Src w q m c news) (h1 : ∀ u ∈ news, u.oneCell' = true)
    (h63 : n + m ≤ maxLen) (hbytes : (n + m) * bytes ≤ 140737488355328) (hbase : base ≤ w.heap.size)
    (h : ∀ v' w', w'.ownsRow base e size v' (n + m) (xs ++ news) → w.grownBy w' v.ownBlock → (v'.ownBlock = v.ownBlock ∨ v'.ownBlock = some w.heap.size) → wpList P ops Q rest (a.put o.dst v') w') :
    wpList P ops Q (o :: rest) a w := by
  refine wpList_plain hgd fun K hK => ?_
  obtain ⟨v', w', hr, h2, h3, h4⟩ := run_append_src (P := P) w base t o.type e i z size bytes ht hi hz hsize hby hzs hsz v n xs hown q m c news hl hsrc h1 h63 hbytes hbase
  unfold Oper.wp execOp
  simp only [ho, resolve, invoke, builtin, Sem.run_bind, Sem.run_pure, Result.andThen_ok, List.map_toArray, List.map_cons, List.map_nil, hs, hx, hr]
  exact hK _ _ (h v' w' h2 h3 h4)
end Go.Proofs.YtpkoefpdpoikkaaGreatDoor
namespace Go.Proofs.YtpkoefpdpoikkaaGreatDoor
open Go.RowKit Go.Extern.Stop Go.Stop Go.Extern Go.Sort Go.Shelf Go.Lib

theorem src_fls {w : World} {q : Option Addr} {n c : Nat} {fs : List Fl} (h : FlsAt w (.slice q n c) fs) : Src w q n c (flatF fs) := by
  rcases h with ⟨p, c', e, hp, rfl⟩ | ⟨b, o, cap, e, hl, hc⟩
  · simp only [Value.slice.injEq] at e
    obtain ⟨rfl, rfl, rfl⟩ := e
    exact Or.inl ⟨rfl, hp⟩
  · simp only [Value.slice.injEq] at e
    obtain ⟨rfl, rfl, rfl⟩ := e
    exact Or.inr ⟨b, o, rfl, cellsF_flat hc⟩

theorem flCells_take {w : World} {b o : Nat} {fs : List Fl} (h : FlCells w b o fs) (n : Nat) : FlCells w b o (fs.take n) := fun j hj => by
  rw [List.length_take] at hj
  have := h j (by omega)
  rw [List.getElem_take]
  exact this
theorem flCells_drop {w : World} {b o : Nat} {fs : List Fl} (h : FlCells w b o fs) (n : Nat) : FlCells w b (o + n * 6) (fs.drop n) := fun j hj => by
  rw [List.length_drop] at hj
  have := h (n + j) (by omega)
  rw [List.getElem_drop]
  have e : o + n * 6 + j * 6 = o + (n + j) * 6 := by omega
  rw [e]
  exact this

theorem place_at {fs : List Fl} {f : Fl} {n : Nat} (hn : n ≤ fs.length) (h1 : ∀ j (h : j < fs.length), j < n → fk fs[j] < fk f) (h2 : ∀ h : n < fs.length, ¬ fk fs[n] < fk f) : placeL fs f = fs.take n ++ f :: fs.drop n := by
  have hx : ∀ g ∈ fs.take n, fk g < fk f := fun g hg => by
    obtain ⟨a, ha, rfl⟩ := List.mem_iff_getElem.1 hg
    rw [List.length_take] at ha
    rw [List.getElem_take]
    exact h1 a (by omega) (by omega)
  have hs : fs = fs.take n ++ fs.drop n := (List.take_append_drop n fs).symm
  have ht : fs.takeWhile (fun g => decide (fk g < fk f)) = fs.take n := by
    conv => lhs; rw [hs]
    rw [List.takeWhile_append_of_pos (fun g hg => by simpa using hx g hg)]
    rcases Nat.lt_or_ge n fs.length with h | h
    · rw [List.drop_eq_getElem_cons h, List.takeWhile_cons_of_neg (by simpa using h2 h), List.append_nil]
    · rw [List.drop_of_length_le h]; simp
  have hd : fs.dropWhile (fun g => decide (fk g < fk f)) = fs.drop n := by
    conv => lhs; rw [hs]
    rw [List.dropWhile_append_of_pos (fun g hg => by simpa using hx g hg)]
    rcases Nat.lt_or_ge n fs.length with h | h
    · rw [List.drop_eq_getElem_cons h, List.dropWhile_cons_of_neg (by simpa using h2 h)]
    · rw [List.drop_of_length_le h]; simp
  unfold placeL
  rw [ht, hd]

set_option maxRecDepth 100000 in
set_option maxHeartbeats 2000000 in
theorem ownFiles_any (v : Value) (fs : List Fl) (w : World) (hx : FlsAt w v fs) (hl : fs.length ≤ 1000) :
    Calls Tryz.prog 27 #[v] w fun e w' => ∃ v', e = .returned v' ∧ w'.ownsRow w.heap.size 23 6 v' fs.length (flatF fs) ∧ Below w.heap.size w w' := by
  obtain ⟨i0, hi0, hz0, hs0, hby0⟩ := Tryz.fileInfo
  obtain ⟨q, cap, rfl⟩ := hx.form
  have HSR : Hid (Src w q fs.length cap (flatF fs)) := src_fls hx
  obtain ⟨L, hL⟩ : ∃ L, fs.length = L := ⟨_, rfl⟩
  have HX : Hid (fs.length = L) := hL
  rw [hL] at hl ⊢
  clear hL hx
  go_enter Tryz.func27, Tryz.ntmps27
  go_wp2_with (at_builtin; (refine wpList_append_src rfl _ _ 50 rfl w.heap.size 23 i0 (.agg #[.string ⟨#[]⟩, .string ⟨#[]⟩, .int .i64 0, .int .i64 0, .int .i64 0, .int .i64 0]) 6 64 Tryz.underlying50 hi0 hz0 hs0 hby0 rfl (by decide) (.slice none 0 0) 0 [] rfl (World.ownsRow_nil _ _ _ _) q L cap (flatF fs) rfl ?qf1 ?qf2 ?qf3 ?qf4 ?qf5 ?qf6 ?_))
  any_goals first
    | exact flatF_one fs
    | (rw [flatF_len, HX.out])
    | (have h' := HSR.out; rw [HX.out] at h'; exact h')
    | (unfold maxLen; omega)
    | omega
    | exact Nat.le_refl _
  intro v3 w3 ho3 hg3 _
  have hb3 : Below w.heap.size w w3 := (Below.refl _ _).grown hg3 (Nat.le_refl _) (fun k hk => by simp [Value.ownBlock] at hk)
  have OW : Hid (w3.ownsRow w.heap.size 23 6 v3 L (flatF fs)) := by
    show w3.ownsRow _ _ _ _ _ _
    simpa using ho3
  clear ho3 hg3
  go_wp2
  go_ret
  exact ⟨v3, rfl, OW.out, hb3⟩
end Go.Proofs.YtpkoefpdpoikkaaGreatDoor
