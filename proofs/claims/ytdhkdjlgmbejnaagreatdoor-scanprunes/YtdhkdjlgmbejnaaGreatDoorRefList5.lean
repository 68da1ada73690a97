/-
  The contract of the document's own Placed.
-/
import Derived.Test.YtdhkdjlgmbejnaaGreatDoorRefList3
import Derived.Deep.CutBlock
namespace Go.Proofs.YtdhkdjlgmbejnaaGreatDoor
open Go.RowKit Go.Extern.Stop Go.Stop Go.Extern Go.Sort Go.Shelf Go.Lib

def Src (w : World) (q : Option Addr) (m c : Nat) (ys : List Value) : Prop :=
  (m = 0 ∧ (q = none → c = 0)) ∨ ∃ b o, q = some ⟨b, o, none⟩ ∧ ∀ j u, ys[j]? = some u → w.cell? ⟨b, o + j, none⟩ = some u

set_option maxHeartbeats 1000000 in
theorem run_append_src {P : Program} (w : World) (base : Nat) (t ty e : TypeId) (i : TypeInfo) (z : Value) (size bytes : Nat) (ht : P.underlying t = some (.slice e)) (hi : P.info? e = some i) (hz : i.zero = some z)
    (hsize : i.size = size) (hby : i.bytes = bytes) (hzs : z.cells.size = size) (hsz : 0 < size)
    (v : Value) (n : Nat) (xs : List Value) (hown : w.ownsRow base e size v n xs)
    (q : Option Addr) (m c : Nat) (news : List Value) (hl : news.length = m * size) (hsrc : Src w q m c news) (h1 : ∀ u ∈ news, u.oneCell' = true)
    (h63 : n + m ≤ maxLen) (hbytes : (n + m) * bytes ≤ 140737488355328) (hbase : base ≤ w.heap.size) :
    ∃ v' w', (Builtin.append_ #[t, t] ty #[v, .slice q m c]).run P w = .ok v' w' ∧ w'.ownsRow base e size v' (n + m) (xs ++ news) ∧ w.grownBy w' v.ownBlock ∧ (v'.ownBlock = v.ownBlock ∨ v'.ownBlock = some w.heap.size) := by
  rcases hsrc with ⟨h0, hc⟩ | ⟨b, o, rfl, hcells⟩
  · subst h0
    have hnews : news = [] := List.length_eq_zero_iff.1 (by simpa using hl)
    subst hnews
    cases q with
    | none =>
      have hc0 := hc rfl
      subst hc0
      refine ⟨v, w, ?_, by simpa using hown, ⟨rfl, rfl, rfl, Nat.le_refl _, fun _ _ _ => rfl⟩, Or.inl rfl⟩
      rcases hown.2 with ⟨rfl, _⟩ | ⟨g, cap, cur, rfl, _, _, hn, _⟩
      · simp [Builtin.append_, run_underlying ht, sizeOf, typeInfo, zeroValue, hi, hz, Builtin.lenOf, run_firstCells_none]
      · simp [Builtin.append_, run_underlying ht, sizeOf, typeInfo, zeroValue, hi, hz, Builtin.lenOf, run_firstCells_none, hn, storeCells]
    | some ad =>
      obtain ⟨v', w', hr, h2, h3, _, h5⟩ := run_append_own_at (P := P) w base t ty e i z size bytes ht hi hz hsize hby hzs hsz v n xs hown ad 0 c [] hl (fun j u hj => by simp at hj) h1 h63 hbytes hbase
      exact ⟨v', w', hr, h2, h3, h5⟩
  · obtain ⟨v', w', hr, h2, h3, _, h5⟩ := run_append_own_at (P := P) w base t ty e i z size bytes ht hi hz hsize hby hzs hsz v n xs hown ⟨b, o, none⟩ m c news hl (fun j u hj => by rw [Addr.add_lit]; exact hcells j u hj) h1 h63 hbytes hbase
    exact ⟨v', w', hr, h2, h3, h5⟩

theorem wpList_append_src {P : Program} {w : World} {ops : Array Oper} {rest : List Oper} {o : Oper} {a : Act} {Q : Exit → Act → World → Prop} (hgd : o.guard = none) (s x : Operand) (t : TypeId)
    (ho : o.op = .call { callee := .builtin .append, args := #[s, x], argTypes := #[t, t] })
    (base : Nat) (e : TypeId) (i : TypeInfo) (z : Value) (size bytes : Nat) (ht : P.underlying t = some (.slice e)) (hi : P.info? e = some i) (hz : i.zero = some z)
    (hsize : i.size = size) (hby : i.bytes = bytes) (hzs : z.cells.size = size) (hsz : 0 < size)
    (v : Value) (n : Nat) (xs : List Value) (hs : a.eval s = v) (hown : w.ownsRow base e size v n xs)
    (q : Option Addr) (m c : Nat) (news : List Value) (hx : a.eval x = .slice q m c) (hl : news.length = m * size) (hsrc : Src w q m c news) (h1 : ∀ u ∈ news, u.oneCell' = true)
    (h63 : n + m ≤ maxLen) (hbytes : (n + m) * bytes ≤ 140737488355328) (hbase : base ≤ w.heap.size)
    (h : ∀ v' w', w'.ownsRow base e size v' (n + m) (xs ++ news) → w.grownBy w' v.ownBlock → (v'.ownBlock = v.ownBlock ∨ v'.ownBlock = some w.heap.size) → wpList P ops Q rest (a.put o.dst v') w') :
    wpList P ops Q (o :: rest) a w := by
  refine wpList_plain hgd fun K hK => ?_
  obtain ⟨v', w', hr, h2, h3, h4⟩ := run_append_src (P := P) w base t o.type e i z size bytes ht hi hz hsize hby hzs hsz v n xs hown q m c news hl hsrc h1 h63 hbytes hbase
  unfold Oper.wp execOp
  simp only [ho, resolve, invoke, builtin, Sem.run_bind, Sem.run_pure, Result.andThen_ok, List.map_toArray, List.map_cons, List.map_nil, hs, hx, hr]
  exact hK _ _ (h v' w' h2 h3 h4)
end Go.Proofs.YtdhkdjlgmbejnaaGreatDoor
namespace Go.Proofs.YtdhkdjlgmbejnaaGreatDoor
open Go.RowKit Go.Extern.Stop Go.Stop Go.Extern Go.Sort Go.Shelf Go.Lib

theorem flCells_take {w : World} {b o : Nat} {fs : List Fl} (h : FlCells w b o fs) (n : Nat) : FlCells w b o (fs.take n) := fun j hj => by
  rw [List.length_take] at hj
  have := h j (by omega)
  rw [List.getElem_take]
  exact this
theorem flCells_drop {w : World} {b o : Nat} {fs : List Fl} (h : FlCells w b o fs) (n : Nat) : FlCells w b (o + n * 6) (fs.drop n) := fun j hj => by
  rw [List.length_drop] at hj
  have := h (n + j) (by omega)
  rw [List.getElem_drop]
  have e : o + n * 6 + j * 6 = o + (n + j) * 6 := by omega
  rw [e]
  exact this

theorem place_at {fs : List Fl} {f : Fl} {n : Nat} (hn : n ≤ fs.length) (h1 : ∀ j (h : j < fs.length), j < n → fk fs[j] < fk f) (h2 : ∀ h : n < fs.length, ¬ fk fs[n] < fk f) : placeL fs f = fs.take n ++ f :: fs.drop n := by
  have hx : ∀ g ∈ fs.take n, fk g < fk f := fun g hg => by
    obtain ⟨a, ha, rfl⟩ := List.mem_iff_getElem.1 hg
    rw [List.length_take] at ha
    rw [List.getElem_take]
    exact h1 a (by omega) (by omega)
  have hs : fs = fs.take n ++ fs.drop n := (List.take_append_drop n fs).symm
  have ht : fs.takeWhile (fun g => decide (fk g < fk f)) = fs.take n := by
    conv => lhs; rw [hs]
    rw [List.takeWhile_append_of_pos (fun g hg => by simpa using hx g hg)]
    rcases Nat.lt_or_ge n fs.length with h | h
    · rw [List.drop_eq_getElem_cons h, List.takeWhile_cons_of_neg (by simpa using h2 h), List.append_nil]
    · rw [List.drop_of_length_le h]; simp
  have hd : fs.dropWhile (fun g => decide (fk g < fk f)) = fs.drop n := by
    conv => lhs; rw [hs]
    rw [List.dropWhile_append_of_pos (fun g hg => by simpa using hx g hg)]
    rcases Nat.lt_or_ge n fs.length with h | h
    · rw [List.drop_eq_getElem_cons h, List.dropWhile_cons_of_neg (by simpa using h2 h)]
    · rw [List.drop_of_length_le h]; simp
  unfold placeL
  rw [ht, hd]

end Go.Proofs.YtdhkdjlgmbejnaaGreatDoor
namespace Go.Proofs.YtdhkdjlgmbejnaaGreatDoor
open Go.RowKit Go.Extern.Stop Go.Stop Go.Extern Go.Sort Go.Shelf Go.Lib

theorem low_succ {fs : List Fl} {z : Int} {n : Nat} (h : ∀ j (h : j < fs.length), j < n → fk fs[j] < z) (hn : n < fs.length) (e : fk fs[n] < z) : ∀ j (h : j < fs.length), j < n + 1 → fk fs[j] < z := fun j hj hjn => by
  rcases Nat.lt_or_ge j n with h' | h'
  · exact h j hj h'
  · obtain rfl : j = n := by omega
    exact e

def NewF (w : World) (v : Value) : Prop := ∀ k, v.ownBlock = some k → w.heap.size ≤ k
set_option maxRecDepth 100000 in
set_option maxHeartbeats 8000000 in
theorem placed_new (v : Value) (fs : List Fl) (f : Fl) (w : World) (hx : FlsAt w v fs) (hl : fs.length ≤ 1000) (hsz : ∀ g ∈ fs, g.1.size ≤ 100000) (hf : f.1.size ≤ 100000) :
    Calls Tryz.prog 26 #[v, flV f] w fun e w' => ∃ v', e = .returned v' ∧ FlsAt w' v' (placeL fs f) ∧ NewF w v' ∧ Below w.heap.size w w' := by
  obtain ⟨i0, hi0, hz0, hs0, hby0⟩ := Tryz.fileInfo
  obtain ⟨q, cap, rfl⟩ := hx.form
  have HFX : Hid (FlsAt w (.slice q fs.length cap) fs) := hx
  have HSZ : Hid (∀ g ∈ fs, g.1.size ≤ 100000) := hsz
  obtain ⟨L, hL⟩ : ∃ L, fs.length = L := ⟨_, rfl⟩
  have HX : Hid (fs.length = L) := hL
  rw [hL] at hl ⊢
  obtain ⟨FK, hFK⟩ : ∃ z, fk f = z := ⟨_, rfl⟩
  have HFK : Hid (fk f = FK) := hFK
  have HPF : Hid (pk f.1.data.toList = FK) := hFK
  have HPL : Hid (∀ n, n ≤ fs.length → (∀ j (h : j < fs.length), j < n → fk fs[j] < FK) → (∀ h : n < fs.length, ¬ fk fs[n] < FK) → placeL fs f = fs.take n ++ f :: fs.drop n) := fun n h1 h2 h3 => place_at h1 (by rw [hFK]; exact h2) (by rw [hFK]; exact h3)
  have HLA : Hid (FlAt (w.alloc (.cells #[.string f.1, .string f.2.1, .int .i64 f.2.2.1, .int .i64 f.2.2.2.1, .int .i64 f.2.2.2.2.1, .int .i64 f.2.2.2.2.2] 63)) w.heap.size f) := FlAt.new w f
  have hal : Below w.heap.size w (w.alloc (.cells #[.string f.1, .string f.2.1, .int .i64 f.2.2.1, .int .i64 f.2.2.2.1, .int .i64 f.2.2.2.2.1, .int .i64 f.2.2.2.2.2] 63)) := (Below.refl _ _).alloc (Nat.le_refl _) _
  clear hL hx hsz hFK
  unfold flV
  obtain ⟨P, hP⟩ : ∃ P, placeL fs f = P := ⟨_, rfl⟩
  rw [hP]
  rw [hP] at HPL
  clear hP
  obtain ⟨fp, fq, fn, flo, fhi, fseq⟩ := f
  dsimp only at HLA hal hf HPF HPL ⊢
  go_enter Tryz.func26, Tryz.ntmps26
  go_upto_block 0 with fail
  generalize w.alloc (.cells #[.string fp, .string fq, .int .i64 fn, .int .i64 flo, .int .i64 fhi, .int .i64 fseq] 63) = WA at HLA hal ⊢
  go_cut [5, 6] from 8 to 23 (fun k _ wx => ∃ n : Nat, n ≤ L ∧ k = .int .i64 n ∧ (∀ j (h : j < fs.length), j < n → fk fs[j] < FK) ∧ (∀ h : n < fs.length, ¬ fk fs[n] < FK) ∧ Below w.heap.size w wx ∧ FlAt wx w.heap.size (fp, fq, fn, flo, fhi, fseq))
  case first =>
    go_wp2_with fail
    go_loopw [5, 6] (fun k _ wr => ∃ n : Nat, n ≤ L ∧ k = .int .i64 n ∧ (∀ j (h : j < fs.length), j < n → fk fs[j] < FK) ∧ Below w.heap.size w wr ∧ FlAt wr w.heap.size (fp, fq, fn, flo, fhi, fseq)) (fun k _ _ => L - (intOf k).toNat)
    case atStart => exact ⟨0, by omega, rfl, fun j h h' => absurd h' (Nat.not_lt_zero _), hal, HLA.out⟩
    case round =>
      clear HLA hal
      obtain ⟨n, hn, rfl, hlow, hb, hfl⟩ := hrel
      have HLO : Hid (∀ j (h : j < fs.length), j < n → fk fs[j] < FK) := hlow
      have HFL : Hid (FlAt wr w.heap.size (fp, fq, fn, flo, fhi, fseq)) := hfl
      clear hlow
      by_cases hlt : n < L
      · have hltx : n < fs.length := by rw [HX.out]; exact hlt
        obtain ⟨b, o, hq, hc⟩ := (HFX.out.below hb).cells (fun e => by rw [e] at hltx; simp at hltx)
        subst hq
        have c0 := (hc n hltx).1
        have z0 := hfl.cells.1
        dsimp only at z0
        have hib := fun W => isBehind_any fp fs[n].1 W hf (HSZ.out fs[n] (List.getElem_mem _))
        rw [HPF.out] at hib
        have hib' : ∀ W, Calls Tryz.prog 68 #[.string fp, .string fs[n].1] W fun e w' => e = .returned (.bool (decide (fk fs[n] < FK))) ∧ w' = W := hib
        have hnx := fun e => low_succ HLO.out hltx e
        obtain ⟨Z, hZ⟩ : ∃ z, fk fs[n] = z := ⟨_, rfl⟩
        have HZ : Hid (fk fs[n] = Z) := hZ
        rw [hZ] at hib' hnx
        clear hc hib hZ
        generalize fs[n].1 = gp at c0 hib'
        have hiL : (n : Int) < (L : Int) := by omega
        have hi0' : (0 : Int) ≤ (n : Int) := by omega
        have hbs : Below wr.heap.size wr wr := Below.refl _ _
        have hbd : Below wr.heap.size wr wr.drew := hbs.drew
        have hBd : Below w.heap.size w wr.drew := hb.drew
        have HFD : Hid (FlAt wr.drew w.heap.size (fp, fq, fn, flo, fhi, fseq)) := hfl.below hbd
        clear hfl
        go_wp2_with fail
        go_region_held3 (fun w' => w'.cell? ⟨b, o + n * 6, none⟩ = some (.string gp) ∧ w'.cell? ⟨w.heap.size, 0, none⟩ = some (.string fp) ∧ Below wr.heap.size wr w')
          (first
            | (go_split_ands; with_reducible exact ⟨below_keep hbd c0, below_keep hbd z0, hbd⟩)
            | (go_split_ands; exact ⟨by assumption, by assumption, by assumption⟩))
          (first
            | (go_at_call 68; with_reducible refine (hib' _).mono ?_; rintro e wX ⟨rfl, rfl⟩))
        go_split_ands
        by_cases ho : Z < FK
        · have hd : decide (Z < FK) = true := decide_eq_true ho
          rw [hd]
          have HNX : Hid (∀ j (h : j < fs.length), j < n + 1 → fk fs[j] < FK) := hnx ho
          clear hib' hnx
          go_wp2
          go_roundw
          case rel => exact ⟨n + 1, by omega, by go_num, HNX.out, hBd, HFD.out⟩
          case measure => simp [intOf]; omega
        · have hd : decide (Z < FK) = false := decide_eq_false ho
          rw [hd]
          have HN2 : Hid (∀ h : n < fs.length, ¬ fk fs[n] < FK) := fun _ => by rw [HZ.out]; exact ho
          clear hib' hnx
          go_wp2
          go_meet
          case rel => exact ⟨n, by omega, rfl, HLO.out, HN2.out, hBd, HFD.out⟩
      · obtain rfl : n = L := by omega
        have HN2 : Hid (∀ h : n < fs.length, ¬ fk fs[n] < FK) := fun h => absurd h (by rw [HX.out]; exact Nat.lt_irrefl _)
        go_wp2
        go_meet
        case rel => exact ⟨n, by omega, rfl, HLO.out, HN2.out, hb, HFL.out⟩
  case rest =>
    obtain ⟨n, hn, rfl, hlow, hhi, hb, hfl⟩ := hcut
    have HPP : Hid (P = fs.take n ++ (fp, fq, fn, flo, fhi, fseq) :: fs.drop n) := HPL.out n (by rw [HX.out]; exact hn) hlow hhi
    have HFL : Hid (FlAt wc w.heap.size (fp, fq, fn, flo, fhi, fseq)) := hfl
    clear hlow hhi hfl HPL HLA hal
    have hvq : (q = none ∧ L = 0 ∧ cap = 0) ∨ (∃ ad, q = some ad ∧ L = 0) ∨ ∃ b o, q = some ⟨b, o, none⟩ ∧ L ≤ cap ∧ FlCells w b o fs := by
      have h := HFX.out
      rcases h with ⟨p, c', e, hp, he⟩ | ⟨b, o, c', e, hl', hc⟩
      · simp only [Value.slice.injEq] at e
        obtain ⟨rfl, h0, rfl⟩ := e
        rw [HX.out] at h0
        cases q with
        | none => exact Or.inl ⟨rfl, h0, hp rfl⟩
        | some ad => exact Or.inr (Or.inl ⟨ad, rfl, h0⟩)
      · simp only [Value.slice.injEq] at e
        obtain ⟨rfl, _, rfl⟩ := e
        exact Or.inr (Or.inr ⟨b, o, rfl, by rw [← HX.out]; exact hl', hc⟩)
    rcases hvq with ⟨rfl, rfl, rfl⟩ | ⟨ad, rfl, rfl⟩ | ⟨b, o, rfl, hcap, hcs⟩
    · obtain rfl : n = 0 := by omega
      go_wp2_with (at_builtin; (refine wpList_append_src rfl _ _ 23 rfl w.heap.size 63 i0 (.agg #[.string ⟨#[]⟩, .string ⟨#[]⟩, .int .i64 0, .int .i64 0, .int .i64 0, .int .i64 0]) 6 64 Tryz.underlying23 hi0 hz0 hs0 hby0 rfl (by decide) (.slice none 0 0) 0 [] rfl ?a0 _ _ _ (flatF (fs.take 0)) rfl ?a1 ?a2 ?a3 ?a4 ?a5 ?a6 ?_))
      case a0 => exact World.ownsRow_nil _ _ _ _
      case a1 => have h := HX.out; rw [flatF_len]; simp
      case a2 => exact Or.inl ⟨rfl, fun _ => rfl⟩
      case a3 => exact flatF_one _
      case a4 => unfold maxLen; omega
      case a5 => omega
      case a6 => exact hb.size
      intro v1 y1 ho1 hg1 _
      have hb1 : Below w.heap.size w y1 := hb.grown hg1 hb.size (fun k hk => by simp [Value.ownBlock] at hk)
      have hk1 : Below wc.heap.size wc y1 := (Below.refl _ _).grown hg1 (Nat.le_refl _) (fun k hk => by simp [Value.ownBlock] at hk)
      have OW1 : Hid (y1.ownsRow w.heap.size 63 6 v1 0 (flatF (fs.take 0))) := by
        show y1.ownsRow _ _ _ _ _ _
        simpa using ho1
      obtain ⟨z0, z1, z2, z3, z4, z5, -⟩ := (HFL.out.below hk1).cells
      dsimp only at z0 z1 z2 z3 z4 z5
      clear ho1 hg1
      have hal1 : Below y1.heap.size y1 (y1.alloc (.cells #[.string fp, .string fq, .int .i64 fn, .int .i64 flo, .int .i64 fhi, .int .i64 fseq] 63)) := (Below.refl _ _).alloc (Nat.le_refl _) _
      have hba1 : Below w.heap.size w (y1.alloc (.cells #[.string fp, .string fq, .int .i64 fn, .int .i64 flo, .int .i64 fhi, .int .i64 fseq] 63)) := hb1.alloc hb1.size _
      go_wp2_with (at_builtin; refine wpList_append_own _ rfl _ _ 23 rfl w.heap.size 63 i0 (.agg #[.string ⟨#[]⟩, .string ⟨#[]⟩, .int .i64 0, .int .i64 0, .int .i64 0, .int .i64 0]) 6 64 Tryz.underlying23 hi0 hz0 hs0 hby0 rfl (by decide) v1 0 (flatF (fs.take 0)) rfl ?qc0 ⟨y1.heap.size, 0, none⟩ 1 1 (encF (fp, fq, fn, flo, fhi, fseq)) rfl ?qc1 ?qc2 ?qc3 ?qc4 ?qc5 ?qc6 ?_)
      case qc0 => exact own_below OW1.out hal1
      case qc1 => rfl
      case qc2 => first | exact cells6 _ _ | exact fun j u hu => hu
      case qc3 => exact encF_one _
      case qc4 => unfold maxLen; omega
      case qc5 => omega
      case qc6 => first | exact hba1.size | (have := hb1.size; omega)
      intro v2 y2 ho2 hg2 _
      have hb2 : Below w.heap.size w y2 := hba1.grown hg2 hba1.size (fun k hk => by
        rcases OW1.out.2 with ⟨e, _⟩ | ⟨g', cap', cur, e, hg', _⟩
        · rw [e] at hk; simp [Value.ownBlock] at hk
        · rw [e] at hk; simp [Value.ownBlock] at hk; omega)
      have OW2 : Hid (y2.ownsRow w.heap.size 63 6 v2 (0 + 1) (flatF (fs.take 0 ++ [(fp, fq, fn, flo, fhi, fseq)]))) := by
        show y2.ownsRow _ _ _ _ _ _
        rw [flatF_append]
        simpa [flatF] using ho2
      clear ho2 hg2 z0 z1 z2 z3 z4 z5
      go_wp2_with (at_builtin; (refine wpList_append_src rfl _ _ 23 rfl w.heap.size 63 i0 (.agg #[.string ⟨#[]⟩, .string ⟨#[]⟩, .int .i64 0, .int .i64 0, .int .i64 0, .int .i64 0]) 6 64 Tryz.underlying23 hi0 hz0 hs0 hby0 rfl (by decide) v2 (0 + 1) (flatF (fs.take 0 ++ [(fp, fq, fn, flo, fhi, fseq)])) rfl ?a0 _ _ _ (flatF (fs.drop 0)) rfl ?a1 ?a2 ?a3 ?a4 ?a5 ?a6 ?_))
      case a0 => exact OW2.out
      case a1 => have h := HX.out; rw [flatF_len]; simp [h]
      case a2 => exact Or.inl ⟨rfl, fun _ => rfl⟩
      case a3 => exact flatF_one _
      case a4 => unfold maxLen; omega
      case a5 => omega
      case a6 => exact hb2.size
      intro v3 y3 ho3 hg3 _
      have hb3 : Below w.heap.size w y3 := hb2.grown hg3 hb2.size (fun k hk => by
        rcases OW2.out.2 with ⟨e, _⟩ | ⟨g', cap', cur, e, hg', _⟩
        · rw [e] at hk; simp [Value.ownBlock] at hk
        · rw [e] at hk; simp [Value.ownBlock] at hk; omega)
      have HFN : Hid (FlsAt y3 v3 P) := by
        show FlsAt _ _ _
        rw [HPP.out]
        have e : fs.take 0 ++ (fp, fq, fn, flo, fhi, fseq) :: fs.drop 0 = (fs.take 0 ++ [(fp, fq, fn, flo, fhi, fseq)]) ++ fs.drop 0 := by simp
        rw [e]
        refine (flsAt_of_own (base := w.heap.size) (n := 0 + 1 + 0) ?_).1
        rw [flatF_append]
        exact ho3
      have HNW : Hid (NewF w v3) := fun k hk => (ho3.lt k hk).1
      clear ho3 hg3
      go_wp2
      go_ret
      exact ⟨v3, rfl, HFN.out, HNW.out, hb3⟩
    · obtain rfl : n = 0 := by omega
      go_wp2_with (at_builtin; (refine wpList_append_src rfl _ _ 23 rfl w.heap.size 63 i0 (.agg #[.string ⟨#[]⟩, .string ⟨#[]⟩, .int .i64 0, .int .i64 0, .int .i64 0, .int .i64 0]) 6 64 Tryz.underlying23 hi0 hz0 hs0 hby0 rfl (by decide) (.slice none 0 0) 0 [] rfl ?a0 _ _ _ (flatF (fs.take 0)) rfl ?a1 ?a2 ?a3 ?a4 ?a5 ?a6 ?_))
      case a0 => exact World.ownsRow_nil _ _ _ _
      case a1 => have h := HX.out; rw [flatF_len]; simp
      case a2 => exact Or.inl ⟨rfl, fun h => nomatch h⟩
      case a3 => exact flatF_one _
      case a4 => unfold maxLen; omega
      case a5 => omega
      case a6 => exact hb.size
      intro v1 y1 ho1 hg1 _
      have hb1 : Below w.heap.size w y1 := hb.grown hg1 hb.size (fun k hk => by simp [Value.ownBlock] at hk)
      have hk1 : Below wc.heap.size wc y1 := (Below.refl _ _).grown hg1 (Nat.le_refl _) (fun k hk => by simp [Value.ownBlock] at hk)
      have OW1 : Hid (y1.ownsRow w.heap.size 63 6 v1 0 (flatF (fs.take 0))) := by
        show y1.ownsRow _ _ _ _ _ _
        simpa using ho1
      obtain ⟨z0, z1, z2, z3, z4, z5, -⟩ := (HFL.out.below hk1).cells
      dsimp only at z0 z1 z2 z3 z4 z5
      clear ho1 hg1
      have hal1 : Below y1.heap.size y1 (y1.alloc (.cells #[.string fp, .string fq, .int .i64 fn, .int .i64 flo, .int .i64 fhi, .int .i64 fseq] 63)) := (Below.refl _ _).alloc (Nat.le_refl _) _
      have hba1 : Below w.heap.size w (y1.alloc (.cells #[.string fp, .string fq, .int .i64 fn, .int .i64 flo, .int .i64 fhi, .int .i64 fseq] 63)) := hb1.alloc hb1.size _
      go_wp2_with (at_builtin; refine wpList_append_own _ rfl _ _ 23 rfl w.heap.size 63 i0 (.agg #[.string ⟨#[]⟩, .string ⟨#[]⟩, .int .i64 0, .int .i64 0, .int .i64 0, .int .i64 0]) 6 64 Tryz.underlying23 hi0 hz0 hs0 hby0 rfl (by decide) v1 0 (flatF (fs.take 0)) rfl ?qc0 ⟨y1.heap.size, 0, none⟩ 1 1 (encF (fp, fq, fn, flo, fhi, fseq)) rfl ?qc1 ?qc2 ?qc3 ?qc4 ?qc5 ?qc6 ?_)
      case qc0 => exact own_below OW1.out hal1
      case qc1 => rfl
      case qc2 => first | exact cells6 _ _ | exact fun j u hu => hu
      case qc3 => exact encF_one _
      case qc4 => unfold maxLen; omega
      case qc5 => omega
      case qc6 => first | exact hba1.size | (have := hb1.size; omega)
      intro v2 y2 ho2 hg2 _
      have hb2 : Below w.heap.size w y2 := hba1.grown hg2 hba1.size (fun k hk => by
        rcases OW1.out.2 with ⟨e, _⟩ | ⟨g', cap', cur, e, hg', _⟩
        · rw [e] at hk; simp [Value.ownBlock] at hk
        · rw [e] at hk; simp [Value.ownBlock] at hk; omega)
      have OW2 : Hid (y2.ownsRow w.heap.size 63 6 v2 (0 + 1) (flatF (fs.take 0 ++ [(fp, fq, fn, flo, fhi, fseq)]))) := by
        show y2.ownsRow _ _ _ _ _ _
        rw [flatF_append]
        simpa [flatF] using ho2
      clear ho2 hg2 z0 z1 z2 z3 z4 z5
      go_wp2_with (at_builtin; (refine wpList_append_src rfl _ _ 23 rfl w.heap.size 63 i0 (.agg #[.string ⟨#[]⟩, .string ⟨#[]⟩, .int .i64 0, .int .i64 0, .int .i64 0, .int .i64 0]) 6 64 Tryz.underlying23 hi0 hz0 hs0 hby0 rfl (by decide) v2 (0 + 1) (flatF (fs.take 0 ++ [(fp, fq, fn, flo, fhi, fseq)])) rfl ?a0 _ _ _ (flatF (fs.drop 0)) rfl ?a1 ?a2 ?a3 ?a4 ?a5 ?a6 ?_))
      case a0 => exact OW2.out
      case a1 => have h := HX.out; rw [flatF_len]; simp [h]
      case a2 => exact Or.inl ⟨rfl, fun h => nomatch h⟩
      case a3 => exact flatF_one _
      case a4 => unfold maxLen; omega
      case a5 => omega
      case a6 => exact hb2.size
      intro v3 y3 ho3 hg3 _
      have hb3 : Below w.heap.size w y3 := hb2.grown hg3 hb2.size (fun k hk => by
        rcases OW2.out.2 with ⟨e, _⟩ | ⟨g', cap', cur, e, hg', _⟩
        · rw [e] at hk; simp [Value.ownBlock] at hk
        · rw [e] at hk; simp [Value.ownBlock] at hk; omega)
      have HFN : Hid (FlsAt y3 v3 P) := by
        show FlsAt _ _ _
        rw [HPP.out]
        have e : fs.take 0 ++ (fp, fq, fn, flo, fhi, fseq) :: fs.drop 0 = (fs.take 0 ++ [(fp, fq, fn, flo, fhi, fseq)]) ++ fs.drop 0 := by simp
        rw [e]
        refine (flsAt_of_own (base := w.heap.size) (n := 0 + 1 + 0) ?_).1
        rw [flatF_append]
        exact ho3
      have HNW : Hid (NewF w v3) := fun k hk => (ho3.lt k hk).1
      clear ho3 hg3
      go_wp2
      go_ret
      exact ⟨v3, rfl, HFN.out, HNW.out, hb3⟩
    · have hnL : n ≤ fs.length := by rw [HX.out]; exact hn
      have HCS : Hid (FlCells w b o fs) := hcs
      have i1 : (0 : Int) ≤ (n : Int) := by omega
      have i2 : (n : Int) ≤ (L : Int) := by omega
      have i3 : (n : Int) ≤ (cap : Int) := by omega
      have i4 : (L : Int) ≤ (cap : Int) := by omega
      clear hcs
      by_cases hcn : cap = n
      · obtain rfl : n = cap := hcn.symm
        obtain rfl : L = n := by omega
        go_wp2_with (at_builtin; (refine wpList_append_src rfl _ _ 23 rfl w.heap.size 63 i0 (.agg #[.string ⟨#[]⟩, .string ⟨#[]⟩, .int .i64 0, .int .i64 0, .int .i64 0, .int .i64 0]) 6 64 Tryz.underlying23 hi0 hz0 hs0 hby0 rfl (by decide) (.slice none 0 0) 0 [] rfl ?a0 _ _ _ (flatF (fs.take L)) rfl ?a1 ?a2 ?a3 ?a4 ?a5 ?a6 ?_))
        case a0 => exact World.ownsRow_nil _ _ _ _
        case a1 => rw [flatF_len, List.length_take]; have := HX.out; omega
        case a2 => exact Or.inr ⟨b, o, rfl, cellsF_flat (flCells_take (HCS.out.below hb) L)⟩
        case a3 => exact flatF_one _
        case a4 => unfold maxLen; omega
        case a5 => omega
        case a6 => exact hb.size
        intro v1 y1 ho1 hg1 _
        have hb1 : Below w.heap.size w y1 := hb.grown hg1 hb.size (fun k hk => by simp [Value.ownBlock] at hk)
        have hk1 : Below wc.heap.size wc y1 := (Below.refl _ _).grown hg1 (Nat.le_refl _) (fun k hk => by simp [Value.ownBlock] at hk)
        have OW1 : Hid (y1.ownsRow w.heap.size 63 6 v1 L (flatF (fs.take L))) := by
          show y1.ownsRow _ _ _ _ _ _
          simpa using ho1
        obtain ⟨z0, z1, z2, z3, z4, z5, -⟩ := (HFL.out.below hk1).cells
        dsimp only at z0 z1 z2 z3 z4 z5
        clear ho1 hg1
        have hal1 : Below y1.heap.size y1 (y1.alloc (.cells #[.string fp, .string fq, .int .i64 fn, .int .i64 flo, .int .i64 fhi, .int .i64 fseq] 63)) := (Below.refl _ _).alloc (Nat.le_refl _) _
        have hba1 : Below w.heap.size w (y1.alloc (.cells #[.string fp, .string fq, .int .i64 fn, .int .i64 flo, .int .i64 fhi, .int .i64 fseq] 63)) := hb1.alloc hb1.size _
        go_wp2_with (at_builtin; refine wpList_append_own _ rfl _ _ 23 rfl w.heap.size 63 i0 (.agg #[.string ⟨#[]⟩, .string ⟨#[]⟩, .int .i64 0, .int .i64 0, .int .i64 0, .int .i64 0]) 6 64 Tryz.underlying23 hi0 hz0 hs0 hby0 rfl (by decide) v1 L (flatF (fs.take L)) rfl ?qc0 ⟨y1.heap.size, 0, none⟩ 1 1 (encF (fp, fq, fn, flo, fhi, fseq)) rfl ?qc1 ?qc2 ?qc3 ?qc4 ?qc5 ?qc6 ?_)
        case qc0 => exact own_below OW1.out hal1
        case qc1 => rfl
        case qc2 => first | exact cells6 _ _ | exact fun j u hu => hu
        case qc3 => exact encF_one _
        case qc4 => unfold maxLen; omega
        case qc5 => omega
        case qc6 => first | exact hba1.size | (have := hb1.size; omega)
        intro v2 y2 ho2 hg2 _
        have hb2 : Below w.heap.size w y2 := hba1.grown hg2 hba1.size (fun k hk => by
          rcases OW1.out.2 with ⟨e, _⟩ | ⟨g', cap', cur, e, hg', _⟩
          · rw [e] at hk; simp [Value.ownBlock] at hk
          · rw [e] at hk; simp [Value.ownBlock] at hk; omega)
        have OW2 : Hid (y2.ownsRow w.heap.size 63 6 v2 (L + 1) (flatF (fs.take L ++ [(fp, fq, fn, flo, fhi, fseq)]))) := by
          show y2.ownsRow _ _ _ _ _ _
          rw [flatF_append]
          simpa [flatF] using ho2
        clear ho2 hg2 z0 z1 z2 z3 z4 z5
        go_wp2_with (at_builtin; (refine wpList_append_src rfl _ _ 23 rfl w.heap.size 63 i0 (.agg #[.string ⟨#[]⟩, .string ⟨#[]⟩, .int .i64 0, .int .i64 0, .int .i64 0, .int .i64 0]) 6 64 Tryz.underlying23 hi0 hz0 hs0 hby0 rfl (by decide) v2 (L + 1) (flatF (fs.take L ++ [(fp, fq, fn, flo, fhi, fseq)])) rfl ?a0 _ _ _ (flatF (fs.drop L)) rfl ?a1 ?a2 ?a3 ?a4 ?a5 ?a6 ?_))
        case a0 => exact OW2.out
        case a1 => rw [flatF_len, List.length_drop]; have := HX.out; omega
        case a2 => exact Or.inl ⟨by omega, fun h => nomatch h⟩
        case a3 => exact flatF_one _
        case a4 => unfold maxLen; omega
        case a5 => omega
        case a6 => exact hb2.size
        intro v3 y3 ho3 hg3 _
        have hb3 : Below w.heap.size w y3 := hb2.grown hg3 hb2.size (fun k hk => by
          rcases OW2.out.2 with ⟨e, _⟩ | ⟨g', cap', cur, e, hg', _⟩
          · rw [e] at hk; simp [Value.ownBlock] at hk
          · rw [e] at hk; simp [Value.ownBlock] at hk; omega)
        have HFN : Hid (FlsAt y3 v3 P) := by
          show FlsAt _ _ _
          rw [HPP.out]
          have e : fs.take L ++ (fp, fq, fn, flo, fhi, fseq) :: fs.drop L = (fs.take L ++ [(fp, fq, fn, flo, fhi, fseq)]) ++ fs.drop L := by simp
          rw [e]
          refine (flsAt_of_own (base := w.heap.size) (n := L + 1 + 0) ?_).1
          rw [flatF_append]
          exact ho3
        have HNW : Hid (NewF w v3) := fun k hk => (ho3.lt k hk).1
        clear ho3 hg3
        go_wp2
        go_ret
        exact ⟨v3, rfl, HFN.out, HNW.out, hb3⟩
      · skip
        go_wp2_with (at_builtin; (refine wpList_append_src rfl _ _ 23 rfl w.heap.size 63 i0 (.agg #[.string ⟨#[]⟩, .string ⟨#[]⟩, .int .i64 0, .int .i64 0, .int .i64 0, .int .i64 0]) 6 64 Tryz.underlying23 hi0 hz0 hs0 hby0 rfl (by decide) (.slice none 0 0) 0 [] rfl ?a0 _ _ _ (flatF (fs.take n)) rfl ?a1 ?a2 ?a3 ?a4 ?a5 ?a6 ?_))
        case a0 => exact World.ownsRow_nil _ _ _ _
        case a1 => rw [flatF_len, List.length_take]; have := HX.out; omega
        case a2 => exact Or.inr ⟨b, o, rfl, cellsF_flat (flCells_take (HCS.out.below hb) n)⟩
        case a3 => exact flatF_one _
        case a4 => unfold maxLen; omega
        case a5 => omega
        case a6 => exact hb.size
        intro v1 y1 ho1 hg1 _
        have hb1 : Below w.heap.size w y1 := hb.grown hg1 hb.size (fun k hk => by simp [Value.ownBlock] at hk)
        have hk1 : Below wc.heap.size wc y1 := (Below.refl _ _).grown hg1 (Nat.le_refl _) (fun k hk => by simp [Value.ownBlock] at hk)
        have OW1 : Hid (y1.ownsRow w.heap.size 63 6 v1 n (flatF (fs.take n))) := by
          show y1.ownsRow _ _ _ _ _ _
          simpa using ho1
        obtain ⟨z0, z1, z2, z3, z4, z5, -⟩ := (HFL.out.below hk1).cells
        dsimp only at z0 z1 z2 z3 z4 z5
        clear ho1 hg1
        have hal1 : Below y1.heap.size y1 (y1.alloc (.cells #[.string fp, .string fq, .int .i64 fn, .int .i64 flo, .int .i64 fhi, .int .i64 fseq] 63)) := (Below.refl _ _).alloc (Nat.le_refl _) _
        have hba1 : Below w.heap.size w (y1.alloc (.cells #[.string fp, .string fq, .int .i64 fn, .int .i64 flo, .int .i64 fhi, .int .i64 fseq] 63)) := hb1.alloc hb1.size _
        go_wp2_with (at_builtin; refine wpList_append_own _ rfl _ _ 23 rfl w.heap.size 63 i0 (.agg #[.string ⟨#[]⟩, .string ⟨#[]⟩, .int .i64 0, .int .i64 0, .int .i64 0, .int .i64 0]) 6 64 Tryz.underlying23 hi0 hz0 hs0 hby0 rfl (by decide) v1 n (flatF (fs.take n)) rfl ?qc0 ⟨y1.heap.size, 0, none⟩ 1 1 (encF (fp, fq, fn, flo, fhi, fseq)) rfl ?qc1 ?qc2 ?qc3 ?qc4 ?qc5 ?qc6 ?_)
        case qc0 => exact own_below OW1.out hal1
        case qc1 => rfl
        case qc2 => first | exact cells6 _ _ | exact fun j u hu => hu
        case qc3 => exact encF_one _
        case qc4 => unfold maxLen; omega
        case qc5 => omega
        case qc6 => first | exact hba1.size | (have := hb1.size; omega)
        intro v2 y2 ho2 hg2 _
        have hb2 : Below w.heap.size w y2 := hba1.grown hg2 hba1.size (fun k hk => by
          rcases OW1.out.2 with ⟨e, _⟩ | ⟨g', cap', cur, e, hg', _⟩
          · rw [e] at hk; simp [Value.ownBlock] at hk
          · rw [e] at hk; simp [Value.ownBlock] at hk; omega)
        have OW2 : Hid (y2.ownsRow w.heap.size 63 6 v2 (n + 1) (flatF (fs.take n ++ [(fp, fq, fn, flo, fhi, fseq)]))) := by
          show y2.ownsRow _ _ _ _ _ _
          rw [flatF_append]
          simpa [flatF] using ho2
        clear ho2 hg2 z0 z1 z2 z3 z4 z5
        go_wp2_with (at_builtin; (refine wpList_append_src rfl _ _ 23 rfl w.heap.size 63 i0 (.agg #[.string ⟨#[]⟩, .string ⟨#[]⟩, .int .i64 0, .int .i64 0, .int .i64 0, .int .i64 0]) 6 64 Tryz.underlying23 hi0 hz0 hs0 hby0 rfl (by decide) v2 (n + 1) (flatF (fs.take n ++ [(fp, fq, fn, flo, fhi, fseq)])) rfl ?a0 _ _ _ (flatF (fs.drop n)) rfl ?a1 ?a2 ?a3 ?a4 ?a5 ?a6 ?_))
        case a0 => exact OW2.out
        case a1 => rw [flatF_len, List.length_drop]; have := HX.out; omega
        case a2 => exact Or.inr ⟨b, o + n * 6, rfl, cellsF_flat (flCells_drop (HCS.out.below hb2) n)⟩
        case a3 => exact flatF_one _
        case a4 => unfold maxLen; omega
        case a5 => omega
        case a6 => exact hb2.size
        intro v3 y3 ho3 hg3 _
        have hb3 : Below w.heap.size w y3 := hb2.grown hg3 hb2.size (fun k hk => by
          rcases OW2.out.2 with ⟨e, _⟩ | ⟨g', cap', cur, e, hg', _⟩
          · rw [e] at hk; simp [Value.ownBlock] at hk
          · rw [e] at hk; simp [Value.ownBlock] at hk; omega)
        have HFN : Hid (FlsAt y3 v3 P) := by
          show FlsAt _ _ _
          rw [HPP.out]
          have e : fs.take n ++ (fp, fq, fn, flo, fhi, fseq) :: fs.drop n = (fs.take n ++ [(fp, fq, fn, flo, fhi, fseq)]) ++ fs.drop n := by simp
          rw [e]
          refine (flsAt_of_own (base := w.heap.size) (n := n + 1 + (L - n)) ?_).1
          rw [flatF_append]
          exact ho3
        have HNW : Hid (NewF w v3) := fun k hk => (ho3.lt k hk).1
        clear ho3 hg3
        go_wp2
        go_ret
        exact ⟨v3, rfl, HFN.out, HNW.out, hb3⟩
end Go.Proofs.YtdhkdjlgmbejnaaGreatDoor
