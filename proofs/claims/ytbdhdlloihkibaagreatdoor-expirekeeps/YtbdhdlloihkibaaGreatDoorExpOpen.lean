/-
  Snaps, as they came in.
-/
import Derived.ProofKit
import Derived.Deep.Strs
import Derived.HandedShaped
import Derived.Test.YtbdhdlloihkibaaGreatDoorStoUp
namespace Go.Proofs.YtbdhdlloihkibaaGreatDoor
open Go.ChangeShapes Go.WideShapes Go.ChangeAt Go.RowKit Go.Deep

theorem Tryz.cellsInt : Tryz.prog.cellsOf 3 = 1 := by kernel_rfl
theorem Tryz.cellsString : Tryz.prog.cellsOf 9 = 1 := by kernel_rfl

theorem addr_none {W : World} {a : Addr} {v : Value} (h : W.cell? a = some v) : a.spot = none := by
  unfold World.cell? at h
  split at h
  · split at h
    · cases h
    · rename_i hs; simpa using hs
  · cases h

section
variable {H : Type} {enc : TypeId × Value → H} {W : World} {base : Nat} {spare : Nat → Bool} {held : Bool}

end

theorem returns_and_shaped {H : Type} {enc : TypeId × Value → H} {a : Assume} {C : Checked} {os : Os} {f : FuncId} {fn : Func} {s : ChangeSpec} {conds : List PathCond} {apart fresh handsOn again : Bool} {X : World → Array Value → Prop}
    (hX : ∀ (w w' : World) (args : Array Value), w.heap = w'.heap → X w args → X w' args)
    (own : ownKnob C.prog.godebug = none) (started : os.Started) (noInit : C.prog.inits.idxOf? f = none) (hfn : C.prog.funcs[f]? = some fn)
    (witness : ∃ (w : World) (tape : Tape) (i : Input), w.os = os ∧ (w.forCall tape i).Shaped C.prog ∧ i.vars = [] ∧ Input.okWide C.prog (w.forCall tape i) .any w.heap.size f i ∧
      ((s.pre enc C.prog fn conds apart (w.forCall tape i).memory i.args ∧ X (w.forCall tape i).memory i.args) ∧ sizedMet enc C.prog fn (OpenSpec.ofChange s) apart (w.forCall tape i).memory i.args) ∧ a.holds C.prog (lone (Frame.enter C.prog f i.args .normal) [] (w.forCall tape i)))
    (contract : ∀ (W : World) (base : Nat) (args : Array Value) (ds gs : List (DataW H)) (before : List MemPlace),
      (∀ (j : Nat) t v, fn.params[j]? = some t → args[j]? = some v → Value.okWide C.prog W .any base t v) →
      DataW.Whole enc C.prog fn.params.toList s.vars apart W args.toList ds gs before → W.ShapedOpen C.prog → X W args →
      Calls C.prog f args W fun e W' => ∃ v, e = .returned v ∧ s.post enc C.prog fn apart fresh handsOn again W args v W') :
    ReturnsInHanded a C os f .any (fun w args => (s.pre enc C.prog fn conds apart w args ∧ X w args) ∧ sizedMet enc C.prog fn (OpenSpec.ofChange s) apart w args) (s.post enc C.prog fn apart fresh handsOn again) := by
  refine returnsInHanded_of_calls own started noInit witness fun w tape i _ hsh _ hok hpre _ => ?_
  obtain ⟨_, _, _, fn', hfn', _, _, _, _, hval⟩ := hok
  cases Option.some.inj (hfn'.symm.trans hfn)
  obtain ⟨⟨⟨ds, gs, before, hw, _⟩, hx⟩, _⟩ := hpre
  have hw' := DataW.Whole.of_heap (w' := w.forCall tape i) (by rfl) hw
  have hx' := hX _ (w.forCall tape i) _ (by rfl) hx
  refine (contract (w.forCall tape i) w.heap.size i.args ds gs before hval hw' hsh hx').mono fun e W' ⟨v, he, hp⟩ => ?_
  subst he
  exact ChangeSpec.post_blind hp
end Go.Proofs.YtbdhdlloihkibaaGreatDoor
namespace Go.Proofs.YtbdhdlloihkibaaGreatDoor
open Go.ChangeShapes Go.WideShapes Go.ChangeAt Go.RowKit Go.Lib Go.Shelf

theorem Tryz.cellsFile : Tryz.prog.cellsOf 50 = 6 := by kernel_rfl

theorem list6 {α : Type} {l : List α} (h : l.length = 6) : ∃ a b c d e f, l = [a, b, c, d, e, f] := by
  match l, h with
  | [a, b, c, d, e, f], _ => exact ⟨a, b, c, d, e, f, rfl⟩

section
variable {H : Type} {enc : TypeId × Value → H} {W : World} {base : Nat} {spare : Nat → Bool} {held : Bool}

end
end Go.Proofs.YtbdhdlloihkibaaGreatDoor
namespace Go.Proofs.YtbdhdlloihkibaaGreatDoor
open Go.ChangeShapes Go.WideShapes Go.ChangeAt Go.RowKit Go.Deep Go.Lib Go.Shelf

section
variable {H : Type} {enc : TypeId × Value → H} {W : World} {base : Nat} {spare : Nat → Bool} {held : Bool}

set_option maxRecDepth 100000 in
theorem open_six {fuel : Nat} {cs : List Value} {x : DataW H × List MemPlace} (h : DataW.trod enc Tryz.prog W base spare held fuel 50 cs = some x) :
    ∃ f : Fl, cs = encF f ∧ f.1.size ≤ maxLen ∧ f.2.1.size ≤ maxLen := by
  obtain ⟨xs, n, _, _, hl, hlen, hfs⟩ := DataW.trod_struct Tryz.underlying50 h
  obtain ⟨c0, c1, c2, c3, c4, c5, rfl⟩ := list6 (hl.trans Tryz.cellsFile)
  obtain ⟨y0, y1, y2, y3, y4, y5, rfl⟩ := list6 (show xs.length = 6 from hlen)
  have f0 : DataW.trod enc Tryz.prog W base spare held n 9 [c0] = some y0 := by simpa [Tryz.cellsString] using hfs 0 _ rfl
  have f1 : DataW.trod enc Tryz.prog W base spare held n 9 [c1] = some y1 := by simpa [Tryz.cellsString] using hfs 1 _ rfl
  have f2 : DataW.trod enc Tryz.prog W base spare held n 3 [c2] = some y2 := by simpa [Tryz.cellsInt] using hfs 2 _ rfl
  have f3 : DataW.trod enc Tryz.prog W base spare held n 3 [c3] = some y3 := by simpa [Tryz.cellsInt] using hfs 3 _ rfl
  have f4 : DataW.trod enc Tryz.prog W base spare held n 3 [c4] = some y4 := by simpa [Tryz.cellsInt] using hfs 4 _ rfl
  have f5 : DataW.trod enc Tryz.prog W base spare held n 3 [c5] = some y5 := by simpa [Tryz.cellsInt] using hfs 5 _ rfl
  obtain ⟨s0, e0, _, h0⟩ := DataW.trod_string Tryz.underlying9 f0
  obtain ⟨s1, e1, _, h1⟩ := DataW.trod_string Tryz.underlying9 f1
  obtain ⟨k2, e2, _, _⟩ := DataW.trod_int Tryz.underlying3 f2
  obtain ⟨k3, e3, _, _⟩ := DataW.trod_int Tryz.underlying3 f3
  obtain ⟨k4, e4, _, _⟩ := DataW.trod_int Tryz.underlying3 f4
  obtain ⟨k5, e5, _, _⟩ := DataW.trod_int Tryz.underlying3 f5
  simp only [List.cons.injEq, and_true] at e0 e1 e2 e3 e4 e5
  exact ⟨(s0, s1, k2, k3, k4, k5), by rw [e0, e1, e2, e3, e4, e5]; rfl, h0, h1⟩

theorem open_files {fuel : Nat} {v : Value} {x : DataW H × List MemPlace} (h : DataW.trod enc Tryz.prog W base spare held fuel 28 [v] = some x) :
    ∃ fs : List Fl, FlsAt W v fs ∧ fs.length ≤ maxLen ∧ ∀ g ∈ fs, g.1.size ≤ maxLen ∧ g.2.1.size ≤ maxLen := by
  rcases open_slice Tryz.underlying28 h with ⟨e, _⟩ | ⟨a, len, cap, m, n, D, Pl, e, _, hl, hm, hmm, _, hx⟩
  · simp only [List.cons.injEq, and_true] at e
    exact ⟨[], Or.inl ⟨none, 0, e, fun _ => rfl, rfl⟩, by decide, fun _ h => by cases h⟩
  · simp only [List.cons.injEq, and_true] at e
    rw [Tryz.cellsFile] at hx
    have hlm : len ≤ m := by rw [hmm]; split <;> omega
    have each : ∀ i, i < len → ∃ f : Fl, (∀ c u, (encF f)[c]? = some u → W.cell? (a.add (i * 6 + c)) = some u) ∧ f.1.size ≤ maxLen ∧ f.2.1.size ≤ maxLen := fun i hi => by
      obtain ⟨cs', h1, h2⟩ := hx i (by omega)
      obtain ⟨_, _, hcell⟩ := World.cells?_some h1
      obtain ⟨f, hr, hk⟩ := open_six h2
      subst hr
      refine ⟨f, fun c u hu => ?_, hk⟩
      have hc : c < 6 := by
        rcases Nat.lt_or_ge c 6 with h' | h'
        · exact h'
        · rw [List.getElem?_eq_none (by rw [encF_len]; exact h')] at hu; cases hu
      have e0 := hcell c hc
      rw [add_add] at e0
      rw [e0]
      exact hu
    obtain ⟨f, hf⟩ := choose_lt each
    rcases Nat.eq_zero_or_pos len with h0 | hpos
    · subst h0
      exact ⟨[], Or.inl ⟨_, _, e, fun h => (nomatch h), rfl⟩, by decide, fun _ h => by cases h⟩
    · have hsp := addr_none ((hf 0 hpos).1 0 _ rfl)
      have hsp' : a.spot = none := by
        cases a with | mk b o spt => cases spt <;> simp [Addr.add] at hsp ⊢
      obtain ⟨b, o, spt⟩ := a
      simp only at hsp'
      subst hsp'
      refine ⟨(List.range len).map f, Or.inr ⟨b, o, cap, by simpa using e, by simpa using hl, flCells_of fun t u hu => ?_⟩, by simp; omega, fun r hr => ?_⟩
      · have ht : t < (flatF ((List.range len).map f)).length := by
          rcases Nat.lt_or_ge t (flatF ((List.range len).map f)).length with h' | h'
          · exact h'
          · rw [List.getElem?_eq_none h'] at hu; cases hu
        rw [flatF_len, List.length_map, List.length_range] at ht
        have hj : t / 6 < len := by omega
        have et : t = t / 6 * 6 + t % 6 := by omega
        rw [et, flatF_get _ (t / 6) (t % 6) (by simpa using hj) (by omega), List.getElem_map, List.getElem_range] at hu
        have h' := (hf (t / 6) hj).1 (t % 6) u hu
        rw [Addr.add_lit, ← et] at h'
        exact h'
      · simp only [List.mem_map, List.mem_range] at hr
        obtain ⟨i, hi, rfl⟩ := hr
        exact (hf i hi).2
end
end Go.Proofs.YtbdhdlloihkibaaGreatDoor
namespace Go.Proofs.YtbdhdlloihkibaaGreatDoor
open Go.ChangeShapes Go.WideShapes Go.ChangeAt Go.RowKit Go.Deep Go.Lib Go.Shelf

theorem Tryz.cellsSnap : Tryz.prog.cellsOf 30 = 7 := by kernel_rfl
theorem Tryz.cellsFiles : Tryz.prog.cellsOf 28 = 1 := by kernel_rfl

theorem list7 {α : Type} {l : List α} (h : l.length = 7) : ∃ a b c d e f g, l = [a, b, c, d, e, f, g] := by
  match l, h with
  | [a, b, c, d, e, f, g], _ => exact ⟨a, b, c, d, e, f, g, rfl⟩

section
variable {H : Type} {enc : TypeId × Value → H} {W : World} {base : Nat} {spare : Nat → Bool} {held : Bool}

end
end Go.Proofs.YtbdhdlloihkibaaGreatDoor
namespace Go.Proofs.YtbdhdlloihkibaaGreatDoor
open Go.ChangeShapes Go.WideShapes Go.ChangeAt Go.RowKit Go.Deep Go.Lib Go.Shelf

theorem Tryz.cellsAct : Tryz.prog.cellsOf 43 = 4 := by kernel_rfl
theorem list4 {α : Type} {l : List α} (h : l.length = 4) : ∃ a b c d, l = [a, b, c, d] := by
  match l, h with
  | [a, b, c, d], _ => exact ⟨a, b, c, d, rfl⟩
theorem wfz {n : Int} (h : (Lit.int .i64 n).wf = true) : -9223372036854775808 ≤ n ∧ n ≤ 9223372036854775807 := by
  simp [Lit.wf, IntKind.min, IntKind.max, IntKind.signed, IntKind.bits] at h
  omega
def encA (x : Ac) : List Value := [.string x.1, .string x.2.1, .string x.2.2.1, .int .i64 x.2.2.2]
def AcOk (x : Ac) : Prop := (x.2.1.size ≤ maxLen ∧ x.2.2.1.size ≤ maxLen) ∧ -9223372036854775808 ≤ x.2.2.2 ∧ x.2.2.2 ≤ 9223372036854775807

section
variable {H : Type} {enc : TypeId × Value → H} {W : World} {base : Nat} {spare : Nat → Bool} {held : Bool}

set_option maxRecDepth 100000 in
theorem open_four {fuel : Nat} {cs : List Value} {x : DataW H × List MemPlace} (h : DataW.trod enc Tryz.prog W base spare held fuel 43 cs = some x) : ∃ f : Ac, cs = encA f ∧ AcOk f := by
  obtain ⟨xs, n, _, _, hl, hlen, hfs⟩ := DataW.trod_struct Tryz.underlying43 h
  obtain ⟨c0, c1, c2, c3, rfl⟩ := list4 (hl.trans Tryz.cellsAct)
  obtain ⟨y0, y1, y2, y3, rfl⟩ := list4 (show xs.length = 4 from hlen)
  have f0 : DataW.trod enc Tryz.prog W base spare held n 9 [c0] = some y0 := by simpa [Tryz.cellsString] using hfs 0 _ rfl
  have f1 : DataW.trod enc Tryz.prog W base spare held n 9 [c1] = some y1 := by simpa [Tryz.cellsString] using hfs 1 _ rfl
  have f2 : DataW.trod enc Tryz.prog W base spare held n 9 [c2] = some y2 := by simpa [Tryz.cellsString] using hfs 2 _ rfl
  have f3 : DataW.trod enc Tryz.prog W base spare held n 3 [c3] = some y3 := by simpa [Tryz.cellsInt] using hfs 3 _ rfl
  obtain ⟨s0, e0, _, h0⟩ := DataW.trod_string Tryz.underlying9 f0
  obtain ⟨s1, e1, _, h1⟩ := DataW.trod_string Tryz.underlying9 f1
  obtain ⟨s2, e2, _, h2⟩ := DataW.trod_string Tryz.underlying9 f2
  obtain ⟨k3, e3, _, h3⟩ := DataW.trod_int Tryz.underlying3 f3
  simp only [List.cons.injEq, and_true] at e0 e1 e2 e3
  have hk := wfz h3
  exact ⟨(s0, s1, s2, k3), by rw [e0, e1, e2, e3]; rfl, ⟨h1, h2⟩, hk⟩

theorem open_acts {fuel : Nat} {v : Value} {x : DataW H × List MemPlace} (h : DataW.trod enc Tryz.prog W base spare held fuel 23 [v] = some x) :
    ∃ fs : List Ac, AcsAt W v fs ∧ fs.length ≤ maxLen ∧ ∀ g ∈ fs, AcOk g := by
  rcases open_slice Tryz.underlying23 h with ⟨e, _⟩ | ⟨a, len, cap, m, n, D, Pl, e, _, hl, hm, hmm, _, hx⟩
  · simp only [List.cons.injEq, and_true] at e
    exact ⟨[], Or.inl ⟨none, 0, e, rfl⟩, by decide, fun _ h => by cases h⟩
  · simp only [List.cons.injEq, and_true] at e
    rw [Tryz.cellsAct] at hx
    have hlm : len ≤ m := by rw [hmm]; split <;> omega
    have each : ∀ i, i < len → ∃ f : Ac, (∀ c u, (encA f)[c]? = some u → W.cell? (a.add (i * 4 + c)) = some u) ∧ AcOk f := fun i hi => by
      obtain ⟨cs', h1, h2⟩ := hx i (by omega)
      obtain ⟨_, _, hcell⟩ := World.cells?_some h1
      obtain ⟨f, hr, hk⟩ := open_four h2
      subst hr
      refine ⟨f, fun c u hu => ?_, hk⟩
      have hc : c < 4 := by
        rcases Nat.lt_or_ge c 4 with h' | h'
        · exact h'
        · rw [List.getElem?_eq_none (by simp [encA]; exact h')] at hu; cases hu
      have e0 := hcell c hc
      rw [add_add] at e0
      rw [e0]
      exact hu
    obtain ⟨f, hf⟩ := choose_lt each
    rcases Nat.eq_zero_or_pos len with h0 | hpos
    · subst h0
      exact ⟨[], Or.inl ⟨_, _, e, rfl⟩, by decide, fun _ h => by cases h⟩
    · have hsp := addr_none ((hf 0 hpos).1 0 _ rfl)
      have hsp' : a.spot = none := by
        cases a with | mk b o spt => cases spt <;> simp [Addr.add] at hsp ⊢
      obtain ⟨b, o, spt⟩ := a
      simp only at hsp'
      subst hsp'
      have hblk : b < W.heap.size := by
        have h' := (hf 0 hpos).1 0 _ rfl
        rw [Addr.add_lit] at h'
        exact cell_lt h'
      refine ⟨(List.range len).map f, Or.inr ⟨b, o, cap, by simpa using e, hblk, fun j hj => ?_⟩, by simp; omega, fun r hr => ?_⟩
      · have hj' : j < len := by simpa using hj
        have hc := (hf j hj').1
        have k0 := hc 0 _ rfl
        have k1 := hc 1 _ rfl
        have k2 := hc 2 _ rfl
        have k3 := hc 3 _ rfl
        rw [Addr.add_lit] at k0 k1 k2 k3
        simp only [List.getElem_map, List.getElem_range]
        exact ⟨k0, by rw [Nat.add_assoc]; exact k1, by rw [Nat.add_assoc]; exact k2, by rw [Nat.add_assoc]; exact k3⟩
      · simp only [List.mem_map, List.mem_range] at hr
        obtain ⟨i, hi, rfl⟩ := hr
        exact (hf i hi).2
end
end Go.Proofs.YtbdhdlloihkibaaGreatDoor
namespace Go.Proofs.YtbdhdlloihkibaaGreatDoor
open Go.ChangeShapes Go.WideShapes Go.ChangeAt Go.RowKit Go.Deep Go.Lib Go.Shelf

def SnGood (W : World) (s : Sn) (vf : Value) : Prop := FlsAt W vf s.2.2.2.2.2.2 ∧ SnOk s ∧ s.2.2.2.2.2.1.size ≤ maxLen ∧ s.2.2.2.2.2.2.length ≤ maxLen ∧ ∀ f ∈ s.2.2.2.2.2.2, f.1.size ≤ maxLen ∧ f.2.1.size ≤ maxLen

section
variable {H : Type} {enc : TypeId × Value → H} {W : World} {base : Nat} {spare : Nat → Bool} {held : Bool}

set_option maxRecDepth 100000 in
theorem open_seven {fuel : Nat} {cs : List Value} {x : DataW H × List MemPlace} (h : DataW.trod enc Tryz.prog W base spare held fuel 30 cs = some x) : ∃ p : Sn × Value, cs = encS p ∧ SnGood W p.1 p.2 := by
  obtain ⟨xs, n, _, _, hl, hlen, hfs⟩ := DataW.trod_struct Tryz.underlying30 h
  obtain ⟨c0, c1, c2, c3, c4, c5, c6, rfl⟩ := list7 (hl.trans Tryz.cellsSnap)
  obtain ⟨y0, y1, y2, y3, y4, y5, y6, rfl⟩ := list7 (show xs.length = 7 from hlen)
  have f0 : DataW.trod enc Tryz.prog W base spare held n 3 [c0] = some y0 := by simpa [Tryz.cellsInt] using hfs 0 _ rfl
  have f1 : DataW.trod enc Tryz.prog W base spare held n 3 [c1] = some y1 := by simpa [Tryz.cellsInt] using hfs 1 _ rfl
  have f2 : DataW.trod enc Tryz.prog W base spare held n 3 [c2] = some y2 := by simpa [Tryz.cellsInt] using hfs 2 _ rfl
  have f3 : DataW.trod enc Tryz.prog W base spare held n 3 [c3] = some y3 := by simpa [Tryz.cellsInt] using hfs 3 _ rfl
  have f4 : DataW.trod enc Tryz.prog W base spare held n 3 [c4] = some y4 := by simpa [Tryz.cellsInt] using hfs 4 _ rfl
  have f5 : DataW.trod enc Tryz.prog W base spare held n 9 [c5] = some y5 := by simpa [Tryz.cellsString] using hfs 5 _ rfl
  have f6 : DataW.trod enc Tryz.prog W base spare held n 28 [c6] = some y6 := by simpa [Tryz.cellsFiles] using hfs 6 _ rfl
  obtain ⟨k0, e0, _, w0⟩ := DataW.trod_int Tryz.underlying3 f0
  obtain ⟨k1, e1, _, _⟩ := DataW.trod_int Tryz.underlying3 f1
  obtain ⟨k2, e2, _, _⟩ := DataW.trod_int Tryz.underlying3 f2
  obtain ⟨k3, e3, _, w3⟩ := DataW.trod_int Tryz.underlying3 f3
  obtain ⟨k4, e4, _, _⟩ := DataW.trod_int Tryz.underlying3 f4
  obtain ⟨s5, e5, _, h5⟩ := DataW.trod_string Tryz.underlying9 f5
  obtain ⟨fs, hx, hl2, hg⟩ := open_files f6
  simp only [List.cons.injEq, and_true] at e0 e1 e2 e3 e4 e5
  exact ⟨((k0, k1, k2, k3, k4, s5, fs), c6), by rw [e0, e1, e2, e3, e4, e5]; rfl, hx, ⟨wfz w0, wfz w3⟩, h5, hl2, hg⟩

theorem open_snaps {fuel : Nat} {v : Value} {x : DataW H × List MemPlace} (h : DataW.trod enc Tryz.prog W base spare held fuel 22 [v] = some x) :
    ∃ ss : List Sn, SnsAt W v ss ∧ ss.length ≤ maxLen ∧ SnsOk ss := by
  rcases open_slice Tryz.underlying22 h with ⟨e, _⟩ | ⟨a, len, cap, m, n, D, Pl, e, _, hl, hm, hmm, _, hx⟩
  · simp only [List.cons.injEq, and_true] at e
    exact ⟨[], Or.inl ⟨none, 0, e, fun _ => rfl, rfl⟩, by decide, fun _ h => by cases h⟩
  · simp only [List.cons.injEq, and_true] at e
    rw [Tryz.cellsSnap] at hx
    have hlm : len ≤ m := by rw [hmm]; split <;> omega
    have each : ∀ i, i < len → ∃ p : Sn × Value, (∀ c u, (encS p)[c]? = some u → W.cell? (a.add (i * 7 + c)) = some u) ∧ SnGood W p.1 p.2 := fun i hi => by
      obtain ⟨cs', h1, h2⟩ := hx i (by omega)
      obtain ⟨_, _, hcell⟩ := World.cells?_some h1
      obtain ⟨f, hr, hk⟩ := open_seven h2
      subst hr
      refine ⟨f, fun c u hu => ?_, hk⟩
      have hc : c < 7 := by
        rcases Nat.lt_or_ge c 7 with h' | h'
        · exact h'
        · rw [List.getElem?_eq_none (by simp [encS]; exact h')] at hu; cases hu
      have e0 := hcell c hc
      rw [add_add] at e0
      rw [e0]
      exact hu
    obtain ⟨f, hf⟩ := choose_lt each
    rcases Nat.eq_zero_or_pos len with h0 | hpos
    · subst h0
      exact ⟨[], Or.inl ⟨_, _, e, (fun e' => by cases e'), rfl⟩, by decide, fun _ h => by cases h⟩
    · have hsp := addr_none ((hf 0 hpos).1 0 _ rfl)
      have hsp' : a.spot = none := by
        cases a with | mk b o spt => cases spt <;> simp [Addr.add] at hsp ⊢
      obtain ⟨b, o, spt⟩ := a
      simp only at hsp'
      subst hsp'
      refine ⟨(List.range len).map fun i => (f i).1, Or.inr ⟨b, o, cap, by simpa using e, by simp; omega, fun j hj => ?_⟩, by simp; omega, fun r hr => ?_⟩
      · have hj' : j < len := by simpa using hj
        have hc := (hf j hj').1
        have k0 := hc 0 _ rfl
        have k1 := hc 1 _ rfl
        have k2 := hc 2 _ rfl
        have k3 := hc 3 _ rfl
        have k4 := hc 4 _ rfl
        have k5 := hc 5 _ rfl
        have k6 := hc 6 _ rfl
        rw [Addr.add_lit] at k0 k1 k2 k3 k4 k5 k6
        simp only [List.getElem_map, List.getElem_range]
        exact ⟨k0, by rw [Nat.add_assoc]; exact k3, (f j).2, by rw [Nat.add_assoc]; exact k6, (hf j hj').2.1, by rw [Nat.add_assoc]; exact k1, by rw [Nat.add_assoc]; exact k2, by rw [Nat.add_assoc]; exact k4, by rw [Nat.add_assoc]; exact k5⟩
      · simp only [List.mem_map, List.mem_range] at hr
        obtain ⟨i, hi, rfl⟩ := hr
        exact (hf i hi).2.2
end
end Go.Proofs.YtbdhdlloihkibaaGreatDoor
