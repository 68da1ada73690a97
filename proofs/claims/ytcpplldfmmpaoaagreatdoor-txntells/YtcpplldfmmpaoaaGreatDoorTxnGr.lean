/-
  What turns nothing and lays new blocks alone: row.Number, file.Number and list.Order of right paths; the order of two files.
-/
import Derived.Test.YtcpplldfmmpaoaaGreatDoorFileKnow
import Derived.Laws.EntriesVeiled
namespace Go.Proofs.YtcpplldfmmpaoaaGreatDoor
open Go.RowKit Go.Extern.Stop Go.Stop Go.Extern Go.Sort Go.Shelf Go.Lib

structure EnvX (w : World) (a : Nat → Addr) : Prop where
  list : EnvL w a
  shape : w.cell? ⟨0, 0, none⟩ = some (.iface 195 (.pointer (some (a 2))))
  stale : w.cell? ⟨6, 0, none⟩ = some (.iface 195 (.pointer (some (a 10))))
  hand : Hand w
theorem EnvX.below {w w' : World} {a : Nat → Addr} (h : EnvX w a) (hb : Below w.heap.size w w') : EnvX w' a := ⟨h.list.below hb, below_keep hb h.shape, below_keep hb h.stale, h.hand.below hb⟩

theorem own_form {W : World} {base : Nat} {e : TypeId} {size : Nat} {v : Value} {n : Nat} {xs : List Value} (h : W.ownsRow base e size v n xs) : ∃ q c, v = .slice q n c := by
  rcases h.2 with ⟨rfl, rfl⟩ | ⟨g, cap, cur, rfl, _⟩
  · exact ⟨_, _, rfl⟩
  · exact ⟨_, _, rfl⟩

def goneP (p : ByteArray) : Bool := match pathO p.data.toList with
  | some (g, _) => g
  | none => false

set_option maxRecDepth 100000 in
set_option maxHeartbeats 1000000 in
theorem isGone_any (f : Fl) (w : World) (a : Nat → Addr) (h : EnvN w a) (hs : f.1.size ≤ 100000) :
    Calls Tryz.prog 59 #[flV f] w fun e w' => e = .returned (.bool (goneP f.1)) ∧ Below w.heap.size w w' := by
  have hal : Below w.heap.size w (w.alloc (.cells #[.string f.1, .string f.2.1, .int .i64 f.2.2.1, .int .i64 f.2.2.2.1, .int .i64 f.2.2.2.2.1, .int .i64 f.2.2.2.2.2] 37)) := (Below.refl _ _).alloc (Nat.le_refl _) _
  have z0 := (FlAt.new w f).cells.1
  have hn := fnumber_n f.1 (w.alloc (.cells #[.string f.1, .string f.2.1, .int .i64 f.2.2.1, .int .i64 f.2.2.2.1, .int .i64 f.2.2.2.2.1, .int .i64 f.2.2.2.2.2] 37)) a (h.below hal) hs
  have hk : ((bytesOf (pathR f.1.data.toList).1).toList == [103, 111, 110, 101]) = goneP f.1 := by
    unfold goneP
    cases hp : pathO f.1.data.toList with
    | none => rw [pathR_none hp]; exact neB_of (by rw [bytes_data]; decide)
    | some x =>
      obtain ⟨g, n⟩ := x
      rw [pathR_some hp]
      cases g
      · exact neB_of (by rw [bytes_data]; show kindL false ≠ _; decide)
      · exact eqB_of (by rw [bytes_data]; rfl)
  generalize goneP f.1 = R at hk ⊢
  generalize bytesOf (pathR f.1.data.toList).1 = K at hn hk
  generalize errV a (pathR f.1.data.toList).2.2 = ev at hn
  generalize (pathR f.1.data.toList).2.1 = n at hn
  unfold flV
  obtain ⟨fp, fq, fn, flo, fhi, fseq⟩ := f
  dsimp only at hal z0 hn ⊢
  go_enter Tryz.func59, Tryz.ntmps59
  go_upto_region 1 with fail
  generalize w.alloc (.cells #[.string fp, .string fq, .int .i64 fn, .int .i64 flo, .int .i64 fhi, .int .i64 fseq] 37) = WA at hal z0 hn ⊢
  go_wp2_with fail
  refine hn.mono ?_
  rintro e w1 ⟨rfl, hb1⟩
  clear hn
  go_wp2
  go_ret
  exact ⟨by rw [← hk]; rfl, hal.trans (hb1.mono hal.size)⟩

theorem SnAt.set6 {W : World} {b : Nat} {s : Sn} {vf : Value} (h : SnAt W b s vf) (x : Value) : SnAt (W.setCell ⟨b, 6, none⟩ x) b s x := by
  unfold SnAt at *
  rw [heap_setCell_same _ _ _ _ _ _ h]
  rfl

def BeginP (T : TypeId) (w : World) (a : Nat → Addr) (s : Sn) (e : Ending) (w' : World) : Prop :=
  ∃ v ev, e = .returned (.tuple #[v, ev]) ∧ ToldE w' a ev (snapE s) ∧ Below w.heap.size w w' ∧ (((snapE s).1 ≠ 0 ∧ v = .pointer none) ∨ ((snapE s).1 = 0 ∧ ∀ B, B ≤ w.heap.size → TxHas T B w' v (fun k => w.heap.size ≤ k ∧ k < w'.heap.size) (s, [], [])))

set_option maxRecDepth 100000 in
set_option maxHeartbeats 4000000 in
theorem begin_any (s : Sn) (vf : Value) (w : World) (a : Nat → Addr) (h : EnvX w a) (hx : FlsAt w vf s.2.2.2.2.2.2) (hl : s.2.2.2.2.2.2.length ≤ 100) (hsz : Short s.2.2.2.2.2.2) :
    Calls Tryz.prog 8 #[snV s vf] w fun e w' => BeginP 66 w a s e w' := by
  have hal : Below w.heap.size w (w.alloc (.cells #[.int .i64 s.1, .int .i64 s.2.1, .int .i64 s.2.2.1, .int .i64 s.2.2.2.1, .int .i64 s.2.2.2.2.1, .string s.2.2.2.2.2.1, vf] 24)) := (Below.refl _ _).alloc (Nat.le_refl _) _
  have hsn := SnAt.new w s vf
  have hck := scheck_any s vf (w.alloc (.cells #[.int .i64 s.1, .int .i64 s.2.1, .int .i64 s.2.2.1, .int .i64 s.2.2.2.1, .int .i64 s.2.2.2.2.1, .string s.2.2.2.2.2.1, vf] 24)) a (h.list.below hal) (hx.below hal) hl hsz
  have hcn := fun W (hb : Below w.heap.size w W) => cloneF_any vf s.2.2.2.2.2.2 W (hx.below hb) (by omega)
  obtain ⟨qf, cf, hvf⟩ := hx.form
  subst hvf
  unfold BeginP
  generalize hR : snapE s = R at hck ⊢
  clear hx hsz h hR
  unfold snV at hck ⊢
  obtain ⟨id, par, seq, day, idx, op, fs⟩ := s
  dsimp only at hal hsn hck hcn hl ⊢
  obtain ⟨L, hL⟩ : ∃ L, fs.length = L := ⟨_, rfl⟩
  have HL : Hid (fs.length = L) := hL
  rw [hL] at hal hsn hck hcn hl ⊢
  clear hL
  go_enter Tryz.func8, Tryz.ntmps8
  go_upto_region 1 with fail
  obtain ⟨x0, x1, x2, x3, x4, x5, x6⟩ := hsn.cells
  dsimp only at x0 x1 x2 x3 x4 x5
  have hsz0 : w.heap.size < (w.alloc (.cells #[.int .i64 id, .int .i64 par, .int .i64 seq, .int .i64 day, .int .i64 idx, .string op, .slice qf L cf] 24)).heap.size := hsn.lt
  generalize w.alloc (.cells #[.int .i64 id, .int .i64 par, .int .i64 seq, .int .i64 day, .int .i64 idx, .string op, .slice qf L cf] 24) = WA at *
  go_wp2_with fail
  refine hck.mono ?_
  rintro e w1 ⟨ev, rfl, ht, hb1⟩
  clear hck x0 x1 x2 x3 x4 x5 x6
  have hB1 : Below w.heap.size w w1 := hal.trans (hb1.mono hal.size)
  have hsn1 := hsn.below hb1
  have hsz1 : w.heap.size < w1.heap.size := Nat.lt_of_lt_of_le hsz0 hb1.size
  clear hsn hb1 hal hsz0
  by_cases hE : R.1 = 0
  case neg =>
    obtain ⟨t, u, rfl⟩ := ht.bad hE
    have HT : Hid (ToldE w1 a (.iface t u) R) := ht
    clear ht hsn1 hcn
    go_wp2
    go_ret2
    exact ⟨_, _, rfl, HT.out, hB1, Or.inl ⟨hE, rfl⟩⟩
  case pos =>
  have HT : Hid (ToldE w1 a ev R) := ht
  obtain rfl := ht.ok hE
  have HE : Hid (R.1 = 0) := hE
  clear ht hE
  have hc1 := hcn w1 hB1
  clear hcn
  have x6 := hsn1.cells.2.2.2.2.2.2
  go_upto_region 4 with fail
  go_wp2_with fail
  refine hc1.mono ?_
  rintro e w2 ⟨vb, rfl, ho, hb2⟩
  clear hc1 x6
  have hsn2 := hsn1.below hb2
  have hB2 : Below w.heap.size w w2 := hB1.trans (hb2.mono hB1.size)
  have HO : Hid (w2.ownsRow w1.heap.size 37 6 vb L (flatF fs)) := ho
  obtain ⟨qb, cb, rfl⟩ := own_form ho
  have x6 := hsn2.cells.2.2.2.2.2.2
  have fz := hsn2.fz
  have hsn3 := hsn2.set6 (.slice qb L cb)
  have HB3 : Hid (Below w.heap.size w (w2.setCell ⟨w.heap.size, 6, none⟩ (.slice qb L cb))) := hB2.setCell (Nat.le_refl _) _
  have HO3 : Hid ((w2.setCell ⟨w.heap.size, 6, none⟩ (.slice qb L cb)).ownsRow w1.heap.size 37 6 (.slice qb L cb) L (flatF fs)) := own_but ho ((But.refl (fun k => k = w.heap.size) w2).setCell (Or.inl (Eq.refl w.heap.size)) _) (fun k hk e => by
    have := (own_blk ho hk).1
    omega)
  have HSZ : Hid (w1.heap.size ≤ (w2.setCell ⟨w.heap.size, 6, none⟩ (.slice qb L cb)).heap.size) := by
    show _ ≤ _
    have : (w2.setCell ⟨w.heap.size, 6, none⟩ (.slice qb L cb)).heap.size = w2.heap.size := by simp [World.setCell]
    rw [this]; exact hb2.size
  have HT3 : Hid (ToldE w2 a .nilIface R) := by
    show ToldE _ _ _ _
    have h := HT.out
    obtain ⟨n, o⟩ := R
    have h0 : n = 0 := HE.out
    subst h0
    cases o with
    | none => exact h
    | some j => exact absurd rfl h.1
  clear ho HO hsn1 hsn2 hB1 hb2
  go_upto_region 5 with fail
  clear x6 fz
  generalize w2.setCell ⟨w.heap.size, 6, none⟩ (.slice qb L cb) = w3 at *
  obtain ⟨p0, p1, p2, p3, p4, p5, p6⟩ := hsn3.cells
  dsimp only at p0 p1 p2 p3 p4 p5
  have HN : Hid (TxC 66 (w3.alloc (.cells #[.int .i64 id, .int .i64 par, .int .i64 seq, .int .i64 day, .int .i64 idx, .string op, .slice qb L cb, .slice none 0 0, .slice none 0 0] 66)) w3.heap.size (id, par, seq, day, idx, op, fs) (.slice qb L cb) (.slice none 0 0) (.slice none 0 0)) := heap_alloc_new _ _
  have HA : Hid (Below w3.heap.size w3 (w3.alloc (.cells #[.int .i64 id, .int .i64 par, .int .i64 seq, .int .i64 day, .int .i64 idx, .string op, .slice qb L cb, .slice none 0 0, .slice none 0 0] 66))) := (Below.refl _ _).alloc (Nat.le_refl _) _
  clear hsn3
  go_wp2
  go_ret2
  refine ⟨_, _, rfl, ?_, HB3.out.trans (HA.out.mono HB3.out.size), Or.inr ⟨HE.out, fun B hB => ?_⟩⟩
  · have h := HT3.out
    obtain ⟨n, o⟩ := R
    have h0 : n = 0 := HE.out
    subst h0
    cases o with
    | none => exact h
    | some j => exact absurd rfl h.1
  · have hs3 := HB3.out.size
    have hown := own_but (P := fun _ => False) HO3.out (But.of_below HA.out) (fun _ _ h => h)
    have hown' : (w3.alloc (.cells #[.int .i64 id, .int .i64 par, .int .i64 seq, .int .i64 day, .int .i64 idx, .string op, .slice qb L cb, .slice none 0 0, .slice none 0 0] 66)).ownsRow w1.heap.size 37 6 (.slice qb L cb) fs.length (flatF fs) := by rw [HL.out]; exact hown
    refine ⟨w3.heap.size, .slice qb L cb, .slice none 0 0, .slice none 0 0, rfl, ⟨HN.out, by omega, (flsAt_of_own hown').1, World.ownsRow_nil _ _ _ _, World.ownsRow_nil _ _ _ _, fun k hk => ⟨?_, by simp [Value.ownBlock], by simp [Value.ownBlock]⟩⟩, fun k hk => ?_, fun k hk => ?_, fun k hk => ⟨by omega, hk.2⟩⟩
    · have := (own_blk HO3.out hk).2.1
      omega
    · rcases hk with rfl | hk | hk
      · exact ⟨hs3, HN.out.lt⟩
      · simp [Value.ownBlock] at hk
      · simp [Value.ownBlock] at hk
    · have h1 := own_blk HO3.out hk
      have h2 := HA.out.size
      exact ⟨Or.inl ⟨by omega, by omega⟩, by omega⟩
end Go.Proofs.YtcpplldfmmpaoaaGreatDoor
namespace Go.Proofs.YtcpplldfmmpaoaaGreatDoor
open Go.RowKit Go.Extern.Stop Go.Stop Go.Extern Go.Sort Go.Shelf Go.Lib

set_option maxRecDepth 100000 in
set_option maxHeartbeats 1000000 in
theorem fits1_any (pb : Nat) (v : Value) (fs : List Fl) (p : ByteArray) (w : World) (hp : w.cell? ⟨pb, 0, none⟩ = some v) (hx : FlsAt w v fs) (hl : fs.length ≤ 20000) :
    Calls Tryz.prog 53 #[.string p, .pointer (some ⟨pb, 0, none⟩)] w fun e w' => e = .returned (.bool (hasP fs p)) ∧ Below w.heap.size w w' := by
  have hfd := find_any v fs p w hx hl
  have HFH : Hid (decide (0 ≤ findF fs p) = hasP fs p) := findF_has _ _
  generalize hasP fs p = HP at HFH ⊢
  generalize findF fs p = FI at hfd HFH
  obtain ⟨q, c, rfl⟩ := hx.form
  generalize fs.length = L at hp hfd
  clear hx hl
  go_enter Tryz.func53, Tryz.ntmps53
  go_wp2_with fail
  refine hfd.mono ?_
  rintro e w1 ⟨rfl, hb1⟩
  clear hfd
  go_wp2
  go_ret
  exact ⟨by rw [← HFH.out]; rfl, hb1⟩

def HasAt (w : World) (hb pb : Nat) : Prop := w.cell? ⟨hb, 0, none⟩ = some (.func (.func 53) #[] #[.pointer (some ⟨pb, 0, none⟩)])

set_option maxRecDepth 100000 in
set_option maxHeartbeats 1000000 in
theorem fits2_any (hb pb : Nat) (v : Value) (fs : List Fl) (p : ByteArray) (w : World) (hh : HasAt w hb pb) (hp : w.cell? ⟨pb, 0, none⟩ = some v) (hx : FlsAt w v fs) (hl : fs.length ≤ 20000) :
    Calls Tryz.prog 55 #[.string p, .pointer (some ⟨hb, 0, none⟩)] w fun e w' => e = .returned (.bool (!hasP fs p)) ∧ Below w.heap.size w w' := by
  have eg : ∀ args w, (callFunc 53 args).run Tryz.prog w = .ok (.enter 53 args) w := enters_of Tryz.func53 (by kernel_rfl) rfl
  have hf := fits1_any pb v fs p w hp hx hl
  unfold HasAt at hh
  generalize hasP fs p = HP at hf ⊢
  clear hx hl hp
  go_enter Tryz.func55, Tryz.ntmps55
  go_wp2_with (go_at_fn 53; refine hf.mono ?_; rintro e w1 ⟨rfl, hb1⟩)
  go_ret
  exact ⟨rfl, hb1⟩

set_option maxRecDepth 100000 in
set_option maxHeartbeats 1000000 in
theorem fits3_any (hb pb : Nat) (v : Value) (fs : List Fl) (f : Fl) (w : World) (hh : HasAt w hb pb) (hp : w.cell? ⟨pb, 0, none⟩ = some v) (hx : FlsAt w v fs) (hl : fs.length ≤ 20000) :
    Calls Tryz.prog 57 #[flV f, .pointer (some ⟨hb, 0, none⟩)] w fun e w' => e = .returned (.bool (hasP fs f.1)) ∧ Below w.heap.size w w' := by
  have eg : ∀ args w, (callFunc 53 args).run Tryz.prog w = .ok (.enter 53 args) w := enters_of Tryz.func53 (by kernel_rfl) rfl
  have hal : Below w.heap.size w (w.alloc (.cells #[.string f.1, .string f.2.1, .int .i64 f.2.2.1, .int .i64 f.2.2.2.1, .int .i64 f.2.2.2.2.1, .int .i64 f.2.2.2.2.2] 37)) := (Below.refl _ _).alloc (Nat.le_refl _) _
  have z0 := (FlAt.new w f).cells.1
  have hf := fits1_any pb v fs f.1 (w.alloc (.cells #[.string f.1, .string f.2.1, .int .i64 f.2.2.1, .int .i64 f.2.2.2.1, .int .i64 f.2.2.2.2.1, .int .i64 f.2.2.2.2.2] 37)) (below_keep hal hp) (hx.below hal) hl
  unfold HasAt at hh
  have hh2 := below_keep hal hh
  generalize hasP fs f.1 = HP at hf ⊢
  clear hx hl hp hh
  unfold flV
  obtain ⟨fp, fq, fn, flo, fhi, fseq⟩ := f
  dsimp only at hal z0 hf hh2 ⊢
  go_enter Tryz.func57, Tryz.ntmps57
  go_upto_region 1 with fail
  generalize w.alloc (.cells #[.string fp, .string fq, .int .i64 fn, .int .i64 flo, .int .i64 fhi, .int .i64 fseq] 37) = WA at hal z0 hf hh2 ⊢
  go_wp2_with (go_at_fn 53; refine hf.mono ?_; rintro e w1 ⟨rfl, hb1⟩)
  go_ret
  exact ⟨rfl, hal.trans (hb1.mono hal.size)⟩

def tFit (t : Tx) (fs : List Fl) : Nat := if (t.2.2.any fun p => !hasP fs p) = true then 11 else if (t.2.1.any fun f => hasP fs f.1) = true then 7 else 0

set_option maxRecDepth 100000 in
set_option maxHeartbeats 4000000 in
theorem fits_any (B tb : Nat) (vb va vr v : Value) (t : Tx) (fs : List Fl) (w : World) (a : Nat → Addr) (h : EnvX w a) (hin : TxIn 66 B w tb vb va vr t) (hx : FlsAt w v fs) (hl : fs.length ≤ 20000) (hla : t.2.1.length ≤ 1000) (hlr : t.2.2.length ≤ 1000) :
    Calls Tryz.prog 31 #[.pointer (some ⟨tb, 0, none⟩), v] w fun e w' => e = .returned (errV a (tFit t fs)) ∧ Below w.heap.size w w' := by
  have e2 : ∀ args w, (callFunc 55 args).run Tryz.prog w = .ok (.enter 55 args) w := enters_of Tryz.func55 (by kernel_rfl) rfl
  have e3 : ∀ args w, (callFunc 57 args).run Tryz.prog w = .ok (.enter 57 args) w := enters_of Tryz.func57 (by kernel_rfl) rfl
  have hal : Below w.heap.size w (w.alloc (.cells #[v] 22)) := (Below.refl _ _).alloc (Nat.le_refl _) _
  have hbx : (w.alloc (.cells #[v] 22)).heap[w.heap.size]? = some (.cells #[v] 22 (0, 0)) := heap_alloc_new _ _
  have hb0 : (w.alloc (.cells #[v] 22)).cell? ⟨w.heap.size, 0, none⟩ = some v := by rw [cell_of_row _ _ _ _ _ _ hbx]; rfl
  have HX : Hid (∀ W, Below w.heap.size w W → FlsAt W v fs) := fun W hb => hx.below hb
  have HRM : Hid (∀ W, Below w.heap.size w W → TsAt W vr t.2.2) := fun W hb => (tsAt_own hin.rems).below hb
  have HAD : Hid (∀ W, Below w.heap.size w W → FlsAt W va t.2.1) := fun W hb => (flsAt_of_own hin.adds).1.below hb
  have HTC : Hid (∀ W, Below w.heap.size w W → TxC 66 W tb t.1 vb va vr) := fun W hb => (hin.below hb).cells
  have HENV : Hid (∀ W, Below w.heap.size w W → EnvX W a) := fun W hb => h.below hb
  obtain ⟨qa, ca, hva⟩ := own_form hin.adds
  obtain ⟨qr, cr, hvr⟩ := own_form hin.rems
  obtain ⟨q, c, hv⟩ := hx.form
  unfold tFit
  obtain ⟨R1, hR1⟩ : ∃ R, (t.2.2.any fun p => !hasP fs p) = R := ⟨_, rfl⟩
  obtain ⟨R2, hR2⟩ : ∃ R, (t.2.1.any fun f => hasP fs f.1) = R := ⟨_, rfl⟩
  rw [hR1, hR2]
  have HR1 : Hid ((t.2.2.any fun p => !hasP fs p) = R1) := hR1
  have HR2 : Hid ((t.2.1.any fun f => hasP fs f.1) = R2) := hR2
  clear hin hx h hbx hR1 hR2
  go_enter Tryz.func31, Tryz.ntmps31
  subst hva hvr hv
  go_upto_region 1 with fail
  generalize w.alloc (.cells #[.slice q fs.length c] 22) = W0 at *
  have hB02 : Below W0.heap.size W0 (W0.alloc (.cells #[.func (.func 53) #[] #[.pointer (some ⟨w.heap.size, 0, none⟩)]] 73)) := (Below.refl _ _).alloc (Nat.le_refl _) _
  have hbx : (W0.alloc (.cells #[.func (.func 53) #[] #[.pointer (some ⟨w.heap.size, 0, none⟩)]] 73)).heap[W0.heap.size]? = some (.cells #[.func (.func 53) #[] #[.pointer (some ⟨w.heap.size, 0, none⟩)]] 73 (0, 0)) := heap_alloc_new _ _
  have hhas : HasAt (W0.alloc (.cells #[.func (.func 53) #[] #[.pointer (some ⟨w.heap.size, 0, none⟩)]] 73)) W0.heap.size w.heap.size := by
    unfold HasAt
    rw [cell_of_row _ _ _ _ _ _ hbx]; rfl
  have hB2 := hal.trans (hB02.mono hal.size)
  have hpb := below_keep hB02 hb0
  clear hbx
  go_upto_region 2 with fail
  clear hB02 hb0
  generalize W0.alloc (.cells #[.func (.func 53) #[] #[.pointer (some ⟨w.heap.size, 0, none⟩)]] 73) = W2 at *
  generalize W0.heap.size = hbx at *
  have hc1 := containsS_any 55 #[.pointer (some ⟨hbx, 0, none⟩)] (fun p => !hasP fs p) (.slice qr t.2.2.length cr) t.2.2 W2 (HRM.out W2 hB2) (by omega) e2 (fun p _ W hW => fits2_any (hbx) w.heap.size _ fs p W (below_keep hW hhas) (below_keep hW hpb) (HX.out W (hB2.trans (hW.mono hB2.size))) hl)
  have HC2 : Hid (∀ W, Below W2.heap.size W2 W → Calls Tryz.prog 56 #[.slice qa t.2.1.length ca, .func (.func 57) #[] #[.pointer (some ⟨hbx, 0, none⟩)]] W fun e w' => e = .returned (.bool (t.2.1.any fun f => hasP fs f.1)) ∧ Below W.heap.size W w') := fun W0 hW0 => containsG_any 57 #[.pointer (some ⟨hbx, 0, none⟩)] (fun f => hasP fs f.1) _ t.2.1 W0 (HAD.out W0 (hB2.trans (hW0.mono hB2.size))) (by omega) e3 (fun f _ W hW => fits3_any (hbx) w.heap.size _ fs f W (below_keep hW (below_keep hW0 hhas)) (below_keep hW (below_keep hW0 hpb)) (HX.out W (hB2.trans ((hW0.trans (hW.mono hW0.size)).mono hB2.size))) hl)
  have htc := (HTC.out W2 hB2).cells.2.2.2
  generalize t.2.2.length = LR at *
  generalize t.2.1.length = LA at *
  rw [HR1.out] at hc1
  rw [HR2.out] at HC2
  clear HR1 HR2
  clear hhas hpb e2 e3
  go_wp2_with fail
  refine hc1.mono ?_
  rintro e w3 ⟨rfl, hb3⟩
  clear hc1 htc
  have hB3 : Below w.heap.size w w3 := hB2.trans (hb3.mono hB2.size)
  cases R1 with
  | true =>
    have et := (HENV.out w3 hB3).stale
    clear HC2
    go_wp2
    go_ret
    exact ⟨rfl, hB3⟩
  | false =>
  have hc2 := HC2.out w3 hb3
  have htc := (HTC.out w3 hB3).cells.2.2.1
  clear HC2 hb3
  go_wp2_with fail
  refine hc2.mono ?_
  rintro e w4 ⟨rfl, hb4⟩
  clear hc2 htc
  have hB4 : Below w.heap.size w w4 := hB3.trans (hb4.mono hB3.size)
  cases R2 with
  | true =>
    have et := (HENV.out w4 hB4).list.exist
    go_wp2
    go_ret
    exact ⟨rfl, hB4⟩
  | false =>
    go_wp2
    go_ret
    exact ⟨rfl, hB4⟩
end Go.Proofs.YtcpplldfmmpaoaaGreatDoor
namespace Go.Proofs.YtcpplldfmmpaoaaGreatDoor
open Go.RowKit Go.Extern.Stop Go.Stop Go.Extern Go.Sort Go.Shelf Go.Lib

def Gr (w w' : World) : Prop := Below w.heap.size w w' ∧ w.drawn ≤ w'.drawn
theorem Gr.trans {a b c : World} (h : Gr a b) (k : Gr b c) : Gr a c := ⟨h.1.trans (k.1.mono h.1.size), Nat.le_trans h.2 k.2⟩
theorem Gr.alloc (w : World) (o : Obj) : Gr w (w.alloc o) := ⟨(Below.refl _ _).alloc (Nat.le_refl _) _, Nat.le_refl _⟩
theorem Gr.grow (w : World) (k : Nat) (os : Array Obj) : Gr w (Sort.grow (w.drewN k) os) := ⟨grow_below k os, Nat.le_add_right _ _⟩
theorem Gr.drewN (w : World) (k : Nat) : Gr w (w.drewN k) := ⟨below_drewN (Below.refl _ _) k, Nat.le_add_right _ _⟩
theorem Gr.bytes (w : World) (e : TypeId) (s : ByteArray) : Gr w (bytesWorld w e s) := ⟨bytesWorld_below w e s, by
  unfold bytesWorld World.freeze
  rw [if_neg (by decide)]
  exact Nat.le_succ _⟩

theorem Gr.form {w w' : World} (h : Gr w w') : ∃ q os, w' = Sort.grow (w.drewN q) os := by
  refine ⟨w'.drawn - w.drawn, w'.heap.extract w.heap.size w'.heap.size, ?_⟩
  have hh : w'.heap = w.heap ++ w'.heap.extract w.heap.size w'.heap.size := by
    apply Array.ext_getElem?
    intro k
    have hs := h.1.size
    by_cases hk : k < w.heap.size
    · rw [Array.getElem?_append_left hk]
      exact h.1.block k hk
    · rw [Array.getElem?_append_right (by omega), Array.getElem?_extract]
      by_cases hk2 : k < w'.heap.size
      · rw [if_pos (by omega), show w.heap.size + (k - w.heap.size) = k by omega]
      · rw [if_neg (by omega), Array.getElem?_eq_none (by omega)]
  obtain ⟨⟨h1, h2, h3, _, _⟩, hd⟩ := h
  generalize w'.heap.extract w.heap.size w'.heap.size = X at hh
  obtain ⟨hp, tp, dr, os, out⟩ := w
  obtain ⟨hp', tp', dr', os', out'⟩ := w'
  dsimp only at h1 h2 h3 hh hd
  subst h1 h2 h3 hh
  unfold Sort.grow World.drewN
  dsimp only
  rw [Nat.add_sub_cancel' hd]

set_option maxHeartbeats 1000000 in
theorem number_g (s : ByteArray) (n : Int) (w : World) (h : EnvS w) (hn : numO s.data.toList = some n) :
    Calls Tryz.prog 75 #[.string s] w fun e w' => e = .returned (.tuple #[.int .i64 n, .bool true]) ∧ Gr w w' := by
  have hsz := size_list s
  obtain ⟨he, hl⟩ := numO_spelt hn
  have ha : atoi s.data.toList = some n := by rw [← he]; exact atoi_itoa n
  have hl' : ¬ 11 < s.size := by omega
  have hc := Tryz.strconv_Atoi s n (by omega) ha w
  have hbd := atoi_bound ha (by omega)
  have hse : bytesOf (itoa n) = s := by rw [he]; exact bytesOf_data s
  clear hsz ha he hl hn
  go_enter Tryz.func75, Tryz.ntmps75
  go_wp2_with (first
    | (go_at_call 91; refine hc.mono ?_; rintro e w1 ⟨rfl, t, rfl⟩)
    | (go_at_call 92; refine (itoa_any n _ (tab_below h.tab (bytesWorld_below w _ t)) (by omega) (by omega)).mono ?_; rintro e w2 ⟨rfl, k, os, rfl⟩; rw [hse]))
  go_ret2
  exact ⟨rfl, (Gr.bytes w _ t).trans (Gr.grow _ k os)⟩

set_option maxRecDepth 100000 in
set_option maxHeartbeats 2000000 in
theorem fnumber_g (p : ByteArray) (g : Bool) (n : Int) (w : World) (a : Nat → Addr) (h : EnvN w a) (hp : pathO p.data.toList = some (g, n)) :
    Calls Tryz.prog 46 #[.string p] w fun e w' => e = .returned (.tuple #[.string (bytesOf (kindL g)), .int .i64 n, .nilIface]) ∧ Gr w w' := by
  obtain ⟨e1, e2, e3⟩ := path_some hp
  obtain ⟨m, hm⟩ := h.base.maxl
  have hlen : p.size ≤ 100 := by
    rw [← size_list, e1]
    have := (numO_spelt e2).2
    cases g <;> simp [kindL, kData, kGone] <;> omega
  have hcut := Tryz.strings_Cut p ⟨#[47]⟩ m w (by omega) hm
  have eK : (⟨(Lib.cut p.data.toList [47]).1.toArray⟩ : ByteArray) = bytesOf (Lib.cut p.data.toList [47]).1 := rfl
  have eW : (⟨(Lib.cut p.data.toList [47]).2.1.toArray⟩ : ByteArray) = bytesOf (Lib.cut p.data.toList [47]).2.1 := rfl
  have eC : Lib.cut p.data.toList [47] = (kindL g, itoa n, true) := by rw [e1]; exact cut_at 47 _ _ (by cases g <;> decide)
  dsimp only at hcut
  rw [eK, eW, eC] at hcut
  dsimp only at hcut
  have hnum := fun W (hW : EnvS W) => number_g (bytesOf (itoa n)) n W hW (by rw [bytes_data]; exact e2)
  have hcn := fun W => counts_any n W
  rw [e3] at hcn
  have hKd : (bytesOf (kindL g)).data.toList = kindL g := bytes_data _
  generalize bytesOf (kindL g) = kB at hcut hKd ⊢
  generalize bytesOf (itoa n) = wB at hcut hnum
  clear eK eW eC e1 e2 e3 hm hp hlen
  go_enter Tryz.func46, Tryz.ntmps46
  go_wp2_with fail
  refine hcut.mono ?_
  rintro e w1 ⟨rfl, q, rfl⟩
  clear hcut
  have hn1 := hnum _ (h.below (Gr.drewN w q).1).base
  clear hnum
  go_wp2_with fail
  refine hn1.mono ?_
  rintro e w2 ⟨rfl, hg2⟩
  clear hn1
  have HG : Hid (Gr w w2) := (Gr.drewN w q).trans hg2
  clear hg2
  cases g
  · have d1 := eqB_of hKd
    simp only [kindL, Bool.false_eq_true, if_false, kData] at d1
    clear hKd
    go_wp2_with (go_at_call 49; refine (hcn _).mono ?_; rintro e w' ⟨rfl, rfl⟩)
    go_ret3
    exact ⟨rfl, HG.out⟩
  · have d1 := neB_of (s := kB) (l := [100, 97, 116, 97]) (by rw [hKd]; decide)
    have d2 := eqB_of hKd
    simp only [kindL, if_true, kGone] at d2
    clear hKd
    go_wp2_with (go_at_call 49; refine (hcn _).mono ?_; rintro e w' ⟨rfl, rfl⟩)
    go_ret3
    exact ⟨rfl, HG.out⟩

set_option maxRecDepth 100000 in
set_option maxHeartbeats 1000000 in
theorem lorder_g (p q : ByteArray) (w : World) (a : Nat → Addr) (h : EnvN w a) (hpo : pathO p.data.toList ≠ none) (hqo : pathO q.data.toList ≠ none) :
    Calls Tryz.prog 65 #[.string p, .string q] w fun e w' => e = .returned (.int .i64 (Lib.compareInt (pk p.data.toList) (pk q.data.toList))) ∧ Gr w w' := by
  obtain ⟨⟨g, n⟩, hp1⟩ := Option.ne_none_iff_exists'.1 hpo
  obtain ⟨⟨k, m⟩, hq1⟩ := Option.ne_none_iff_exists'.1 hqo
  have ha := fnumber_g p g n w a h hp1
  have hb := fun W (hW : EnvN W a) => fnumber_g q k m W a hW hq1
  rw [← ord_pk hp1 hq1]
  have hs := fun W => Tryz.strings_Compare (bytesOf (kindL g)) (bytesOf (kindL k)) W
  rw [bytes_data, bytes_data] at hs
  have hc := fun W => Tryz.cmp_Compare_int n m W
  generalize Lib.compareBytes (kindL g) (kindL k) = X at hs ⊢
  generalize Lib.compareInt n m = Y at hc ⊢
  generalize bytesOf (kindL g) = KA at ha hs
  generalize bytesOf (kindL k) = KB at hb hs
  clear hp1 hq1 hpo hqo
  go_enter Tryz.func65, Tryz.ntmps65
  go_wp2_with fail
  refine ha.mono ?_
  rintro e w1 ⟨rfl, hb1⟩
  have hq1 := hb w1 (h.below hb1.1)
  clear ha hb
  go_wp2_with fail
  refine hq1.mono ?_
  rintro e w2 ⟨rfl, hb2⟩
  clear hq1
  have HB2 : Hid (Gr w w2) := hb1.trans hb2
  clear hb1 hb2
  go_wp2_with fail
  refine (hs _).mono ?_
  rintro e w3 ⟨rfl, rfl⟩
  clear hs
  go_wp2_with fail
  refine (hc _).mono ?_
  rintro e w4 ⟨rfl, rfl⟩
  clear hc
  have hor := cmpOr_any X Y w4.heap.size (w4.alloc (.cells #[.int .i64 X, .int .i64 Y] 3)) (by simp) (by simp)
  go_wp2_with fail
  refine hor.mono ?_
  rintro e w5 ⟨rfl, rfl⟩
  clear hor
  go_wp2
  go_ret
  exact ⟨rfl, HB2.out.trans (Gr.alloc _ _)⟩

set_option maxRecDepth 100000 in
set_option maxHeartbeats 1000000 in
theorem forder_g (x y : Fl) (w : World) (a : Nat → Addr) (h : EnvN w a) (hx : pathO x.1.data.toList ≠ none) (hy : pathO y.1.data.toList ≠ none) :
    Calls Tryz.prog 64 #[flV x, flV y] w fun e w' => e = .returned (.int .i64 (Lib.compareInt (fk x) (fk y))) ∧ Gr w w' := by
  have e1 := FlAt.new w x
  have e2 := FlAt.new (w.alloc (.cells #[.string x.1, .string x.2.1, .int .i64 x.2.2.1, .int .i64 x.2.2.2.1, .int .i64 x.2.2.2.2.1, .int .i64 x.2.2.2.2.2] 37)) y
  have g1 := Gr.alloc w (.cells #[.string x.1, .string x.2.1, .int .i64 x.2.2.1, .int .i64 x.2.2.2.1, .int .i64 x.2.2.2.2.1, .int .i64 x.2.2.2.2.2] 37)
  have g2 := Gr.alloc (w.alloc (.cells #[.string x.1, .string x.2.1, .int .i64 x.2.2.1, .int .i64 x.2.2.2.1, .int .i64 x.2.2.2.2.1, .int .i64 x.2.2.2.2.2] 37)) (.cells #[.string y.1, .string y.2.1, .int .i64 y.2.2.1, .int .i64 y.2.2.2.1, .int .i64 y.2.2.2.2.1, .int .i64 y.2.2.2.2.2] 37)
  have z0 := (e1.below g2.1).cells.1
  have y0 := e2.cells.1
  have hsz : (w.alloc (.cells #[.string x.1, .string x.2.1, .int .i64 x.2.2.1, .int .i64 x.2.2.2.1, .int .i64 x.2.2.2.2.1, .int .i64 x.2.2.2.2.2] 37)).heap.size = w.heap.size + 1 := by simp
  rw [hsz] at y0
  have HG : Hid (Gr w ((w.alloc (.cells #[.string x.1, .string x.2.1, .int .i64 x.2.2.1, .int .i64 x.2.2.2.1, .int .i64 x.2.2.2.2.1, .int .i64 x.2.2.2.2.2] 37)).alloc (.cells #[.string y.1, .string y.2.1, .int .i64 y.2.2.1, .int .i64 y.2.2.2.1, .int .i64 y.2.2.2.2.1, .int .i64 y.2.2.2.2.2] 37))) := g1.trans g2
  have hod := lorder_g x.1 y.1 ((w.alloc (.cells #[.string x.1, .string x.2.1, .int .i64 x.2.2.1, .int .i64 x.2.2.2.1, .int .i64 x.2.2.2.2.1, .int .i64 x.2.2.2.2.2] 37)).alloc (.cells #[.string y.1, .string y.2.1, .int .i64 y.2.2.1, .int .i64 y.2.2.2.1, .int .i64 y.2.2.2.2.1, .int .i64 y.2.2.2.2.2] 37)) a (h.below HG.out.1) hx hy
  unfold flV
  unfold fk
  generalize Lib.compareInt (pk x.1.data.toList) (pk y.1.data.toList) = C at hod ⊢
  clear e1 e2 g1 g2 hsz hx hy
  obtain ⟨fp, fq, fn, flo, fhi, fseq⟩ := x
  obtain ⟨hp, hq, hn, hlo, hhi, hseq⟩ := y
  dsimp only at z0 y0 HG hod ⊢
  go_enter Tryz.func64, Tryz.ntmps64
  go_upto_region 1 with fail
  generalize (w.alloc (.cells #[.string fp, .string fq, .int .i64 fn, .int .i64 flo, .int .i64 fhi, .int .i64 fseq] 37)).alloc (.cells #[.string hp, .string hq, .int .i64 hn, .int .i64 hlo, .int .i64 hhi, .int .i64 hseq] 37) = WA at z0 y0 HG hod ⊢
  go_wp2_with fail
  refine hod.mono ?_
  rintro e w1 ⟨rfl, hg⟩
  clear hod
  go_wp2
  go_ret
  exact ⟨rfl, HG.out.trans hg⟩
end Go.Proofs.YtcpplldfmmpaoaaGreatDoor
