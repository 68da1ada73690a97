/-
  The contracts of snap.First, head and Text.
-/
import Derived.Test.YtpkoefpdpoikkaaGreatDoorSnapChk
namespace Go.Proofs.YtpkoefpdpoikkaaGreatDoor
open Go.RowKit Go.Extern.Stop Go.Stop Go.Extern Go.Sort Go.Shelf Go.Lib

set_option maxRecDepth 100000 in
set_option maxHeartbeats 8000000 in
theorem ltext_any (v : Value) (fs : List Fl) (w : World) (a : Nat → Addr) (h : EnvL w a) (hx : FlsAt w v fs) (hl : fs.length ≤ 100) (hsz : Short fs) :
    Calls Tryz.prog 28 #[v] w fun e w' => ∃ ev, e = .returned (.tuple #[.string (if (listE fs).1 = 0 then bytesOf (listL fs) else ⟨#[]⟩), ev]) ∧ ToldE w' a ev (listE fs) ∧ Below w.heap.size w w' := by
  obtain ⟨q, cap, rfl⟩ := hx.form
  have hck := lcheck_any (.slice q fs.length cap) fs w a h hx hl hsz
  have HFX : Hid (FlsAt w (.slice q fs.length cap) fs) := hx
  have HSZ : Hid (Short fs) := hsz
  have HEN : Hid (∀ W, Below w.heap.size w W → EnvL W a) := fun W hb => h.below hb
  obtain ⟨L, hL⟩ : ∃ L, fs.length = L := ⟨_, rfl⟩
  have HX : Hid (fs.length = L) := hL
  rw [hL] at hl hck ⊢
  clear hL hx hsz
  by_cases hok : (listE fs).1 = 0
  · rw [if_pos hok]
    have HOK : Hid (∀ f ∈ fs, fileE f = 0) := fun f hf => ((listE_ok.1 hok).2.1 f hf).1
    have HRE : Hid ((listE fs).1 = 0) := hok
    generalize hR : listE fs = R at hck ⊢
    have HR : Hid (R.1 = 0) := by show _ = _; rw [← hR]; exact hok
    clear hR hok
    obtain ⟨TT, hTT⟩ : ∃ TT, bytesOf (listL fs) = TT := ⟨_, rfl⟩
    have HTT : Hid (bytesOf (listL fs) = TT) := hTT
    rw [hTT]
    clear hTT
    go_enter Tryz.func28, Tryz.ntmps28
    go_wp2_with fail
    refine hck.mono ?_
    rintro e w1 ⟨ev, rfl, ht, hb1⟩
    clear hck
    obtain rfl := ht.ok HR.out
    have HT0 : Hid (∀ W, ToldE W a .nilIface R) := fun W => by
      obtain ⟨n, o⟩ := R
      have h0 : n = 0 := HR.out
      subst h0
      cases o with
      | none => rfl
      | some j => exact absurd rfl ht.1
    clear ht
    have hbn : w1.heap.size ≤ w1.heap.size := Nat.le_refl _
    have hal : Below w1.heap.size w1 (w1.alloc (.cells #[.pointer none, .slice none 0 0] 130)) := (Below.refl _ _).alloc (Nat.le_refl _) _
    have hBl : Below w.heap.size w (w1.alloc (.cells #[.pointer none, .slice none 0 0] 130)) := hb1.trans (hal.mono hb1.size)
    have hbld : Lib.IsBuilder 130 5 w1.heap.size w1.heap.size (Lib.byteCells (listL ([] : List Fl))) (w1.alloc (.cells #[.pointer none, .slice none 0 0] 130)) :=
      Or.inl ⟨Nat.le_refl _, .slice none 0 0, heap_alloc_new _ _, World.ownsRow_nil _ _ _ _, by simp [Value.ownBlock]⟩
    have hw1 := hb1.size
    go_wp2
    generalize w1.heap.size = B at hbld hw1 ⊢
    go_loopw [15] (fun k wr => ∃ n : Nat, n ≤ L ∧ k = .int .i64 n ∧ Below w.heap.size w wr ∧ B < wr.heap.size ∧ Lib.IsBuilder 130 5 B B (Lib.byteCells (listL (fs.take n))) wr) (fun k _ => L - (intOf k).toNat)
    case atStart => exact ⟨0, by omega, rfl, hBl, by rcases hbld with hB | hB <;> exact hB.lt, by simpa using hbld⟩
    case round =>
      clear hal hbld hBl
      obtain ⟨n, hn, rfl, hb, hBr, hB⟩ := hrel
      by_cases hlt : n < L
      · have hltx : n < fs.length := by rw [HX.out]; exact hlt
        obtain ⟨b, o, hq, hc⟩ := (HFX.out.below hb).cells (fun e => by rw [e] at hltx; simp at hltx)
        subst hq
        obtain ⟨c0, c1, c2, c3, c4, c5⟩ := hc n hltx
        obtain ⟨k1, k2⟩ := HSZ.out fs[n] (List.getElem_mem _)
        have k0 := HOK.out fs[n] (List.getElem_mem _)
        have htx := fun W (hW : EnvL W a) => ftext_any fs[n] W a hW.file (by omega) (by omega)
        have hfb' : fileB fs[n] = bytesOf (fileL fs[n]) := by unfold fileB; rw [if_pos k0]
        have hfl := fl_len k0
        have hln := listL_len (fs.take n) (fun f hf => by
          have hm := List.mem_of_mem_take hf
          have := HSZ.out f hm
          exact ⟨HOK.out f hm, by omega, by omega⟩)
        rw [List.length_take] at hln
        have hlen : (Lib.byteCells (listL (fs.take n))).length ≤ 30000 := by rw [Lib.byteCells_length]; omega
        have hsf : (bytesOf (fileL fs[n])).size ≤ 300 := by rw [bytes_len]; omega
        have HTB : Hid ((bytesOf (fileL fs[n])).data.toList = fileL fs[n]) := by show _ = _; simp [bytesOf]
        have HT : Hid (listL (fs.take (n + 1)) = listL (fs.take n) ++ (fileL fs[n] ++ [10])) := listL_take fs n hltx
        rw [hfb'] at htx
        generalize listL (fs.take n) = acc at hB HT hlen
        generalize bytesOf (fileL fs[n]) = tb at htx HTB hsf
        generalize fileL fs[n] = tl at HTB HT
        unfold flV at htx
        generalize fs[n] = f at c0 c1 c2 c3 c4 c5 htx
        have hfb := boxW_at wr f
        have hbb := boxW_below wr f
        unfold boxW at hfb hbb
        obtain ⟨fp, fq, fn, flo, fhi, fseq⟩ := f
        dsimp only at c0 c1 c2 c3 c4 c5 htx hfb hbb
        have hiL : (n : Int) < (L : Int) := by omega
        have hi0' : (0 : Int) ≤ (n : Int) := by omega
        clear hc hltx hln hfl hfb' k0 k1 k2
        go_upto_region 8 with fail
        clear c0 c1 c2 c3 c4 c5
        generalize wr.alloc (.cells #[.string fp, .string fq, .int .i64 fn, .int .i64 flo, .int .i64 fhi, .int .i64 fseq] 23) = W5 at hfb hbb ⊢
        have hB5 : Below w.heap.size w W5 := hb.trans (hbb.mono hb.size)
        obtain ⟨z0, z1, z2, z3, z4, z5, -⟩ := hfb.cells
        dsimp only at z0 z1 z2 z3 z4 z5
        have htx5 := htx W5 (HEN.out W5 hB5)
        clear htx
        go_wp2_with fail
        refine htx5.mono ?_
        rintro e w6 ⟨rfl, hb6⟩
        clear htx5 z0 z1 z2 z3 z4 z5 hfb
        have hB6 : Below w.heap.size w w6 := hB5.trans (hb6.mono hB5.size)
        have hw6 : Below wr.heap.size wr w6 := hbb.trans (hb6.mono hbb.size)
        have hBu := isBuilder_below hB hw6
        have hs6 : B < w6.heap.size := Nat.lt_of_lt_of_le hBr hw6.size
        clear hB hbb hb6 hB5
        have hws := writeString_any B B _ tb w6 hBu (by omega) (Nat.le_of_lt hs6)
        clear hBu
        go_wp2_with fail
        refine hws.mono ?_
        rintro e w7 ⟨rfl, hB7, hb7⟩
        clear hws
        have hBB7 : Below w.heap.size w w7 := hB6.trans (hb7.mono hw1)
        have hs7 : B < w7.heap.size := Nat.lt_of_lt_of_le hs6 hb7.size
        have hws := writeString_any B B _ ⟨#[10]⟩ w7 (Or.inr hB7) (by rw [List.length_append, Lib.strCells_length]; have : (⟨#[10]⟩ : ByteArray).size = 1 := rfl; omega) (Nat.le_of_lt hs7)
        clear hB7
        go_wp2_with fail
        refine hws.mono ?_
        rintro e w8 ⟨rfl, hB8, hb8⟩
        clear hws
        have hBB8 : Below w.heap.size w w8 := hBB7.trans (hb8.mono hw1)
        have hs8 : B < w8.heap.size := Nat.lt_of_lt_of_le hs7 hb8.size
        have HB8 : Hid (Lib.IsBuilder 130 5 B B (Lib.byteCells (listL (fs.take (n + 1)))) w8) := by
          show Lib.IsBuilder _ _ _ _ _ _
          rw [HT.out, Lib.byteCells_append, Lib.byteCells_append, ← HTB.out, ← List.append_assoc]
          exact Or.inr hB8
        clear hB8
        go_wp2
        go_roundw
        case rel => exact ⟨n + 1, by omega, by go_num, hBB8, hs8, HB8.out⟩
        case measure => simp [intOf]; omega
      · obtain rfl : n = L := by omega
        have hta : fs.take n = fs := List.take_of_length_le (by rw [HX.out]; exact Nat.le_refl _)
        rw [hta] at hB
        have hst := Tryz.Builder_String_any B B (listL fs) wr hB (Nat.le_of_lt hBr)
        have eS : (⟨(listL fs).toArray⟩ : ByteArray) = bytesOf (listL fs) := rfl
        rw [eS, HTT.out] at hst
        clear hta hB eS
        go_wp2_with fail
        refine hst.mono ?_
        rintro e w2 ⟨rfl, hb2⟩
        clear hst
        go_wp2
        go_ret2
        exact ⟨_, rfl, HT0.out _, hb.trans (hb2.mono hw1)⟩
  · rw [if_neg hok]
    generalize listE fs = R at hck hok ⊢
    go_enter Tryz.func28, Tryz.ntmps28
    go_wp2_with fail
    refine hck.mono ?_
    rintro e w1 ⟨ev, rfl, ht, hb1⟩
    clear hck
    obtain ⟨t, u, rfl⟩ := ht.bad hok
    have HTT : Hid (ToldE w1 a (.iface t u) R) := ht
    clear ht
    go_wp2
    go_ret2
    exact ⟨_, rfl, HTT.out, hb1⟩
end Go.Proofs.YtpkoefpdpoikkaaGreatDoor
namespace Go.Proofs.YtpkoefpdpoikkaaGreatDoor
open Go.RowKit Go.Extern.Stop Go.Stop Go.Extern Go.Sort Go.Shelf Go.Lib

structure EnvP (w : World) (a : Nat → Addr) : Prop where
  text : EnvT w a
  sum : w.cell? ⟨7, 0, none⟩ = some (.iface 289 (.pointer (some (a 9))))
theorem EnvP.below {w w' : World} {a : Nat → Addr} (h : EnvP w a) (hb : Below w.heap.size w w') : EnvP w' a := ⟨h.text.below hb, below_keep hb h.sum⟩
theorem EnvT.weak {w : World} {a : Nat → Addr} (h : EnvT w a) : Env0 w a := ⟨h.text, h.list.file.env.bound, h.list.file.env.base.maxl, h.list.file.env.base.syn, h.list.file.env.base.tab⟩

set_option maxRecDepth 100000 in
theorem first_any (w : World) : Calls Tryz.prog 56 #[] w fun e w' => e = .returned (snV firstS (.slice none 0 0)) ∧ Below w.heap.size w w' := by
  have hal : Below w.heap.size w (w.alloc (.cells #[.int .i64 1, .int .i64 0, .int .i64 0, .int .i64 0, .int .i64 0, .string ⟨#[115, 116, 97, 114, 116]⟩, .slice none 0 0] 74)) := (Below.refl _ _).alloc (Nat.le_refl _) _
  go_enter Tryz.func56, Tryz.ntmps56
  go_wp2
  refine bodyPost_ret (v := snV firstS (.slice none 0 0)) (by simp [results, Tryz.results56, go_sem, snV, firstS]) rfl ⟨rfl, ?_⟩
  exact hal

theorem snapH_len {s : Sn} (h : (snapE s).1 = 0) (sum : Nat) (hs : sum < 4294967296) : (snapH s sum).length ≤ 100 := by
  obtain ⟨hb, ho, hl, _⟩ := snap_good h
  obtain ⟨⟨⟨a, b⟩, c, d⟩, ⟨⟨e, f⟩, g, i⟩, j, k⟩ := sbnd_all.1 hb
  have q1 := itoa_short (n := s.1) (by omega) (by omega)
  have q2 := itoa_short (n := s.2.1) (by omega) (by omega)
  have q3 := itoa_short (n := s.2.2.1) (by omega) (by omega)
  have q4 := itoa_short (n := s.2.2.2.1) (by omega) (by omega)
  have q5 := itoa_short (n := s.2.2.2.2.1) (by omega) (by omega)
  have q6 := itoa_short (n := (sum : Int)) (by omega) (by omega)
  have q7 := op_len ho
  unfold snapH
  simp only [List.length_append, List.length_cons]
  have : kSnap.length = 4 := rfl
  omega

set_option maxRecDepth 100000 in
set_option maxHeartbeats 8000000 in
theorem shead_any (s : Sn) (vf : Value) (sum : Nat) (w : World) (a : Nat → Addr) (h : Env0 w a) (hok : (snapE s).1 = 0) (hs : sum < 4294967296) :
    Calls Tryz.prog 104 #[snV s vf, .int .u32 sum] w fun e w' => e = .returned (.string (bytesOf (snapH s sum))) ∧ Below w.heap.size w w' := by
  have hlen := snapH_len hok sum hs
  obtain ⟨⟨⟨b1, b2⟩, b3, b4⟩, ⟨⟨b5, b6⟩, b7, b8⟩, b9, b10⟩ := sbnd_all.1 (snap_good hok).1
  have hjl : Lib.join ([(⟨#[115, 110, 97, 112]⟩ : ByteArray), bytesOf (itoa s.1), bytesOf (itoa s.2.1), bytesOf (itoa s.2.2.1), bytesOf (itoa s.2.2.2.1), bytesOf (itoa s.2.2.2.2.1), s.2.2.2.2.2.1, bytesOf (itoa (sum : Int))].map (·.data.toList)) (⟨#[32]⟩ : ByteArray).data.toList = snapH s sum := by
    simp [Lib.join, snapH, kSnap, bytesOf]
  obtain ⟨id, par, seq, day, idx, op, fs⟩ := s
  unfold snV
  dsimp only at *
  have hw0 : IntKind.u64.wrap (sum : Int) = (sum : Int) := by rw [IntKind.wrap_u64]; omega
  have hal : Below w.heap.size w (w.alloc (.cells #[.int .i64 id, .int .i64 par, .int .i64 seq, .int .i64 day, .int .i64 idx, .string op, vf] 74)) := (Below.refl _ _).alloc (Nat.le_refl _) _
  have hsn : SnAt (w.alloc (.cells #[.int .i64 id, .int .i64 par, .int .i64 seq, .int .i64 day, .int .i64 idx, .string op, vf] 74)) w.heap.size (id, par, seq, day, idx, op, fs) vf := SnAt.new w (id, par, seq, day, idx, op, fs) vf
  have hEA := h.below hal
  have HLEN : Hid ((snapH (id, par, seq, day, idx, op, fs) (sum : Int)).length ≤ 100) := hlen
  have HJL : Hid (Lib.join ([(⟨#[115, 110, 97, 112]⟩ : ByteArray), bytesOf (itoa id), bytesOf (itoa par), bytesOf (itoa seq), bytesOf (itoa day), bytesOf (itoa idx), op, bytesOf (itoa (sum : Int))].map (·.data.toList)) (⟨#[32]⟩ : ByteArray).data.toList = snapH (id, par, seq, day, idx, op, fs) sum) := hjl
  generalize snapH (id, par, seq, day, idx, op, fs) (sum : Int) = SH at HLEN HJL ⊢
  clear hlen hjl hok
  go_enter Tryz.func104, Tryz.ntmps104
  go_wp2_with fail
  generalize w.alloc (.cells #[.int .i64 id, .int .i64 par, .int .i64 seq, .int .i64 day, .int .i64 idx, .string op, vf] 74) = W0 at hal hsn hEA ⊢
  obtain ⟨x0, x1, x2, x3, x4, x5, -⟩ := hsn.cells
  dsimp only at x0 x1 x2 x3 x4 x5
  clear hsn
  generalize w.heap.size = g at x0 x1 x2 x3 x4 x5
  have hb0 : Below W0.heap.size W0 W0 := Below.refl _ _
  go_region_held3 (fun w' => w'.cell? ⟨g, 0, none⟩ = some (.int .i64 id) ∧ w'.cell? ⟨g, 1, none⟩ = some (.int .i64 par) ∧ w'.cell? ⟨g, 2, none⟩ = some (.int .i64 seq) ∧ w'.cell? ⟨g, 3, none⟩ = some (.int .i64 day) ∧ w'.cell? ⟨g, 4, none⟩ = some (.int .i64 idx) ∧ w'.cell? ⟨g, 5, none⟩ = some (.string op) ∧ Below W0.heap.size W0 w')
    (first
      | (go_split_ands; with_reducible exact ⟨below_keep hbX (by assumption), below_keep hbX (by assumption), below_keep hbX (by assumption), below_keep hbX (by assumption), below_keep hbX (by assumption), below_keep hbX (by assumption), Below.trans (by assumption) (hbX.mono (Below.size (by assumption)))⟩)
      | (go_split_ands; exact ⟨by go_keep, by go_keep, by go_keep, by go_keep, by go_keep, by go_keep, by assumption⟩)
      | (go_split_ands; exact ⟨by go_keep, by go_keep, by go_keep, by go_keep, by go_keep, by go_keep, Below.drew (by assumption)⟩)
      | (go_split_ands; exact ⟨by go_keep, by go_keep, by go_keep, by go_keep, by go_keep, by go_keep, Below.alloc (by assumption) (Below.size (by assumption)) _⟩))
    (first
      | (go_at_call 61; refine (itoa_below _ _ a (hEA.below (by go_split_ands; assumption)) (by omega) (by omega)).mono ?_; rintro e w2 ⟨rfl, hbX⟩)
      | (go_at_call 143; refine (fmtU_any sum (by omega) _ a (hEA.below (by go_split_ands; assumption))).mono ?_; rintro e w2 ⟨rfl, hbX⟩))
  go_split_ands
  have hbE : Below W0.heap.size W0 (w2.alloc (.cells #[.string ⟨#[115, 110, 97, 112]⟩, .string (bytesOf (itoa id)), .string (bytesOf (itoa par)), .string (bytesOf (itoa seq)), .string (bytesOf (itoa day)), .string (bytesOf (itoa idx)), .string op, .string (bytesOf (itoa (sum : Int)))] 9)) := by assumption
  have hBE : Below w.heap.size w (w2.alloc (.cells #[.string ⟨#[115, 110, 97, 112]⟩, .string (bytesOf (itoa id)), .string (bytesOf (itoa par)), .string (bytesOf (itoa seq)), .string (bytesOf (itoa day)), .string (bytesOf (itoa idx)), .string op, .string (bytesOf (itoa (sum : Int)))] 9)) := hal.trans (hbE.mono hal.size)
  have hj := Tryz.strings_Join w2.heap.size 0 8 [(⟨#[115, 110, 97, 112]⟩ : ByteArray), bytesOf (itoa id), bytesOf (itoa par), bytesOf (itoa seq), bytesOf (itoa day), bytesOf (itoa idx), op, bytesOf (itoa (sum : Int))] ⟨#[32]⟩ (w2.alloc (.cells #[.string ⟨#[115, 110, 97, 112]⟩, .string (bytesOf (itoa id)), .string (bytesOf (itoa par)), .string (bytesOf (itoa seq)), .string (bytesOf (itoa day)), .string (bytesOf (itoa idx)), .string op, .string (bytesOf (itoa (sum : Int)))] 9)) (fun j x hx => by
      rw [Nat.zero_add, cell_of_row _ _ _ _ _ _ (heap_alloc_new _ _)]
      match j, hx with
      | 0, hx => simp at hx; subst hx; rfl
      | 1, hx => simp at hx; subst hx; rfl
      | 2, hx => simp at hx; subst hx; rfl
      | 3, hx => simp at hx; subst hx; rfl
      | 4, hx => simp at hx; subst hx; rfl
      | 5, hx => simp at hx; subst hx; rfl
      | 6, hx => simp at hx; subst hx; rfl
      | 7, hx => simp at hx; subst hx; rfl
      | j + 8, hx => simp at hx) (by simp) (by simp) (by simp) (by rw [HJL.out]; have := HLEN.out; omega)
  rw [HJL.out] at hj
  clear hbE
  generalize (w2.alloc (.cells #[.string ⟨#[115, 110, 97, 112]⟩, .string (bytesOf (itoa id)), .string (bytesOf (itoa par)), .string (bytesOf (itoa seq)), .string (bytesOf (itoa day)), .string (bytesOf (itoa idx)), .string op, .string (bytesOf (itoa (sum : Int)))] 9)) = W9 at hj hBE ⊢
  go_wp2_with fail
  refine hj.mono ?_
  rintro e w9 ⟨rfl, hb9⟩
  go_wp2
  go_ret
  exact ⟨rfl, hBE.trans (hb9.mono hBE.size)⟩

set_option maxRecDepth 100000 in
set_option maxHeartbeats 8000000 in
theorem stext_any (s : Sn) (vf : Value) (w : World) (a : Nat → Addr) (h : EnvT w a) (hx : FlsAt w vf s.2.2.2.2.2.2) (hl : s.2.2.2.2.2.2.length ≤ 100) (hsz : Short s.2.2.2.2.2.2) :
    Calls Tryz.prog 46 #[snV s vf] w fun e w' => ∃ ev, e = .returned (.tuple #[.string (if (snapE s).1 = 0 then bytesOf (snapL s) else ⟨#[]⟩), ev]) ∧ ToldE w' a ev (snapE s) ∧ Below w.heap.size w w' := by
  have hck := fun W (hb : Below w.heap.size w W) => scheck_any s vf W a (h.below hb).list (hx.below hb) hl hsz
  have hlt := fun W (hb : Below w.heap.size w W) => ltext_any vf s.2.2.2.2.2.2 W a (h.below hb).list (hx.below hb) hl hsz
  by_cases hok : (snapE s).1 = 0
  case neg =>
    rw [if_neg hok]
    clear hlt
    obtain ⟨id, par, seq, day, idx, op, fs⟩ := s
    unfold snV at hck ⊢
    dsimp only at *
    generalize snapE (id, par, seq, day, idx, op, fs) = R at hck hok ⊢
    have hal : Below w.heap.size w (w.alloc (.cells #[.int .i64 id, .int .i64 par, .int .i64 seq, .int .i64 day, .int .i64 idx, .string op, vf] 74)) := (Below.refl _ _).alloc (Nat.le_refl _) _
    have hck1 := hck _ hal
    clear hck
    go_enter Tryz.func46, Tryz.ntmps46
    go_wp2_with fail
    generalize w.alloc (.cells #[.int .i64 id, .int .i64 par, .int .i64 seq, .int .i64 day, .int .i64 idx, .string op, vf] 74) = WA at hal hck1 ⊢
    refine hck1.mono ?_
    rintro e w1 ⟨ev, rfl, ht, hb1⟩
    clear hck1
    obtain ⟨t, u, rfl⟩ := ht.bad hok
    have HT : Hid (ToldE w1 a (.iface t u) R) := ht
    clear ht
    go_wp2
    go_ret2
    exact ⟨_, rfl, HT.out, hal.trans (hb1.mono hal.size)⟩
  case pos =>
  rw [if_pos hok]
  have hle := (snap_good hok).2.2.1
  have hsl := sumL_lt (listL s.2.2.2.2.2.2)
  have hhl := snapH_len hok (sumL (listL s.2.2.2.2.2.2)) hsl
  have hll := (snap_len hok).2
  have HE0 : Hid (snapE s = (0, none)) := (snap_good hok).2.2.2
  have hhd := fun W (hb : Below w.heap.size w W) => shead_any s vf (sumL (listL s.2.2.2.2.2.2)) W a (h.below hb).weak hok hsl
  have hbd : (bytesOf (listL s.2.2.2.2.2.2)).size ≤ 6060 := by rw [bytes_len]; exact hll
  have hhb : (bytesOf (snapH s (sumL (listL s.2.2.2.2.2.2)))).size ≤ 100 := by rw [bytes_len]; exact hhl
  have hsu := fun W => sum_any (bytesOf (listL s.2.2.2.2.2.2)) W (by unfold maxLen; omega)
  have eL : (bytesOf (listL s.2.2.2.2.2.2)).data.toList = listL s.2.2.2.2.2.2 := by simp [bytesOf]
  rw [eL] at hsu
  have HT : Hid (bytesOf (snapL s) = bytesOf (snapH s (sumL (listL s.2.2.2.2.2.2))) ++ ⟨#[10]⟩ ++ bytesOf (listL s.2.2.2.2.2.2)) := by
    show _ = _
    rw [← bytesOf_data (bytesOf (snapH s (sumL (listL s.2.2.2.2.2.2))) ++ ⟨#[10]⟩ ++ bytesOf (listL s.2.2.2.2.2.2))]
    congr 1
    simp [snapL, bytesOf, ByteArray.data_append]
  rw [HT.out]
  simp only [hle, if_true] at hlt
  have HL0 : Hid ((listE s.2.2.2.2.2.2).1 = 0) := hle
  clear HT eL hle hll hhl hsl hok
  generalize hRe : snapE s = RE at hck HE0 ⊢
  obtain rfl : RE = (0, none) := HE0.out
  clear hRe HE0
  generalize bytesOf (snapH s (sumL (listL s.2.2.2.2.2.2))) = hb at *
  generalize sumL (listL s.2.2.2.2.2.2) = SM at *
  generalize bytesOf (listL s.2.2.2.2.2.2) = bd at *
  generalize listE s.2.2.2.2.2.2 = LE at *
  obtain ⟨q, cap, rfl⟩ := hx.form
  obtain ⟨id, par, seq, day, idx, op, fs⟩ := s
  unfold snV at hck hhd ⊢
  dsimp only at *
  generalize fs.length = L at *
  have n0 : ¬ 9223372036854775807 < hb.size + 1 := by omega
  have n1 : ¬ 9223372036854775806 < hb.size := by omega
  have n2 : ¬ 9223372036854775807 < hb.size + 1 + bd.size := by omega
  have hal : Below w.heap.size w (w.alloc (.cells #[.int .i64 id, .int .i64 par, .int .i64 seq, .int .i64 day, .int .i64 idx, .string op, .slice q L cap] 74)) := (Below.refl _ _).alloc (Nat.le_refl _) _
  have hsn : SnAt (w.alloc (.cells #[.int .i64 id, .int .i64 par, .int .i64 seq, .int .i64 day, .int .i64 idx, .string op, .slice q L cap] 74)) w.heap.size (id, par, seq, day, idx, op, fs) (.slice q L cap) := SnAt.new w (id, par, seq, day, idx, op, fs) (.slice q L cap)
  have hck1 := hck _ hal
  clear hck
  go_enter Tryz.func46, Tryz.ntmps46
  go_wp2_with fail
  generalize w.alloc (.cells #[.int .i64 id, .int .i64 par, .int .i64 seq, .int .i64 day, .int .i64 idx, .string op, .slice q L cap] 74) = WA at hal hsn hck1 ⊢
  refine hck1.mono ?_
  rintro e w1 ⟨ev, rfl, ht, hb1⟩
  clear hck1
  obtain rfl : ev = .nilIface := ht
  have hB1 : Below w.heap.size w w1 := hal.trans (hb1.mono hal.size)
  have hsn1 := hsn.below hb1
  clear hal hsn hb1
  have z6 := hsn1.cells.2.2.2.2.2.2
  have hlt1 := hlt w1 hB1
  clear hlt
  go_wp2_with fail
  refine hlt1.mono ?_
  rintro e w2 ⟨ev, rfl, ht, hb2⟩
  clear hlt1 z6
  obtain rfl := ht.ok HL0.out
  clear ht
  have hB2 : Below w.heap.size w w2 := hB1.trans (hb2.mono hB1.size)
  obtain ⟨z0, z1, z2, z3, z4, z5, z6⟩ := (hsn1.below hb2).cells
  dsimp only at z0 z1 z2 z3 z4 z5
  clear hsn1 hb2 hB1 hx
  have hbr : Below w2.heap.size w2 w2 := Below.refl _ _
  have HHD : Hid (∀ W, Below w2.heap.size w2 W → Calls Tryz.prog 104 #[.agg #[.int .i64 id, .int .i64 par, .int .i64 seq, .int .i64 day, .int .i64 idx, .string op, .slice q L cap], .int .u32 SM] W fun e w' => e = .returned (.string hb) ∧ Below W.heap.size W w') := fun W hW => hhd W (hB2.trans (hW.mono hB2.size))
  clear hhd
  generalize w.heap.size = g at z0 z1 z2 z3 z4 z5 z6
  go_wp2_with fail
  go_region_held3 (fun w' => w'.cell? ⟨g, 0, none⟩ = some (.int .i64 id) ∧ w'.cell? ⟨g, 1, none⟩ = some (.int .i64 par) ∧ w'.cell? ⟨g, 2, none⟩ = some (.int .i64 seq) ∧ w'.cell? ⟨g, 3, none⟩ = some (.int .i64 day) ∧ w'.cell? ⟨g, 4, none⟩ = some (.int .i64 idx) ∧ w'.cell? ⟨g, 5, none⟩ = some (.string op) ∧ w'.cell? ⟨g, 6, none⟩ = some (.slice q L cap) ∧ Below w2.heap.size w2 w')
    (first
      | (go_split_ands; with_reducible exact ⟨below_keep hbX (by assumption), below_keep hbX (by assumption), below_keep hbX (by assumption), below_keep hbX (by assumption), below_keep hbX (by assumption), below_keep hbX (by assumption), below_keep hbX (by assumption), Below.trans (by assumption) (hbX.mono (Below.size (by assumption)))⟩)
      | (go_split_ands; exact ⟨by go_keep, by go_keep, by go_keep, by go_keep, by go_keep, by go_keep, by go_keep, by assumption⟩)
      | (go_split_ands; exact ⟨by go_keep, by go_keep, by go_keep, by go_keep, by go_keep, by go_keep, by go_keep, Below.drew (by assumption)⟩))
    (first
      | (go_at_call 105; with_reducible refine (hsu _).mono ?_; rintro e wX ⟨rfl, hbX⟩)
      | (go_at_call 104; with_reducible refine (HHD.out _ (by go_split_ands; assumption)).mono ?_; rintro e wX ⟨rfl, hbX⟩))
  go_split_ands
  have hX : Below w2.heap.size w2 wX := by assumption
  go_wp2
  go_ret2
  exact ⟨_, rfl, rfl, hB2.trans (hX.mono hB2.size)⟩
end Go.Proofs.YtpkoefpdpoikkaaGreatDoor
