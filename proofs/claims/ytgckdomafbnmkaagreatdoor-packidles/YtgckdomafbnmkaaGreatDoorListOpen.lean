/-
  Lists of files, as they came in.
-/
import Derived.Test.YtgckdomafbnmkaaGreatDoorPackOne
import Derived.Test.YtgckdomafbnmkaaGreatDoorRows
import Derived.JoinedOf
import Derived.ProofKit
import Derived.Deep.Strs
import Derived.HandedShaped
namespace Go.Proofs.YtgckdomafbnmkaaGreatDoor
open Go.RowKit Go.Extern.Stop Go.Stop Go.Extern Go.Sort Go.Shelf Go.Lib

theorem idle_apart {fs : List Fl} (hr : Rises 0 fs) : (idleL fs).Pairwise fun p q => p ≠ q := by
  unfold idleL
  rw [List.pairwise_map]
  refine (hr.2.sublist List.filter_sublist).imp ?_
  intro f g h e
  have ek : fk f = fk g := by unfold fk; rw [e]
  omega
theorem less_ok {fs : List Fl} (hr : Rises 0 fs) (hl : fs.length ≤ 60) (ps : List ByteArray) (n : Nat) : (listE (lessF fs ps n)).1 = 0 :=
  listE_ok.2 ⟨Nat.le_trans (less_sub fs ps n).length_le hl, fun f hf => hr.1 f ((less_sub fs ps n).subset hf), hr.2.sublist (less_sub fs ps n)⟩
theorem less_step {fs : List Fl} (hr : Rises 0 fs) (hl : fs.length ≤ 60) {n : Nat} (hn : n < (idleL fs).length) : remE (lessF fs (idleL fs) n) (idleL fs)[n] = (0, none) ∧ remL (lessF fs (idleL fs) n) (idleL fs)[n] = lessF fs (idleL fs) (n + 1) := by
  have hp : (idleL fs)[n] ∈ idleL fs := List.getElem_mem _
  have hap := List.pairwise_iff_getElem.1 (idle_apart hr)
  obtain ⟨f, hf, e⟩ := List.mem_map.1 (show (idleL fs)[n] ∈ (fs.filter (idleB fs)).map (·.1) from hp)
  have hfm : f ∈ lessF fs (idleL fs) n := by
    unfold lessF
    refine List.mem_filter.2 ⟨(List.mem_filter.1 hf).1, ?_⟩
    rw [Bool.not_eq_true', List.any_eq_false]
    intro p hpm h
    have e2 : f.1 = p := of_decide_eq_true h
    obtain ⟨j, hj, rfl⟩ := List.mem_take_iff_getElem.1 hpm
    have hjn : j < n := by omega
    exact hap j n (by omega) hn hjn (e2.symm.trans e)
  have hno : ¬ findF (lessF fs (idleL fs) n) (idleL fs)[n] < 0 := fun h => by
    have h1 := findF_has (lessF fs (idleL fs) n) (idleL fs)[n]
    rw [decide_eq_false (by omega)] at h1
    have h2 := h1.symm
    unfold hasP at h2
    have h3 := List.any_eq_false.1 h2 f hfm
    rw [e] at h3
    simp at h3
  rw [lessF_succ fs hn]
  exact ((rem_cases _ _).2 (less_ok hr hl _ _)).2 hno
theorem rows_set6 {W : World} {sb : Nat} {s : Sn} {q : Option Addr} {n c : Nat} {v : Value} {xs : List Rw} (h : RowsAt W v xs) (hs : SnAt W sb s (.slice q n c)) (z : Value) : RowsAt (W.setCell ⟨sb, 6, none⟩ z) v xs := by
  refine h.but (P := fun k => k = sb) ((But.refl (fun k => k = sb) W).setCell (b := sb) (o := 6) (Or.inl rfl) _) (fun hne k hk e => ?_)
  subst e
  rcases h with ⟨_, _, _, e⟩ | ⟨b, o, cap, rfl, hc⟩
  · exact hne e
  · simp only [Value.ownBlock, Option.some.injEq] at hk
    subst hk
    obtain ⟨h0, h1, _⟩ := hc 0 (List.length_pos_iff.2 hne)
    rw [cell_of_row _ _ _ _ _ _ hs] at h0 h1
    simp only [Nat.zero_mul, Nat.add_zero] at h0 h1
    match o, h0, h1 with
    | 0, h0, _ => simp at h0
    | 1, h0, _ => simp at h0
    | 2, h0, _ => simp at h0
    | 3, h0, _ => simp at h0
    | 4, h0, _ => simp at h0
    | 5, _, h1 => simp at h1
    | 6, h0, _ => simp at h0
    | o + 7, h0, _ => simp at h0

section
variable {a : Nat → Addr} {B : Nat} {EM : World → Prop} {SAt : World → Value → (Nat → Prop) → St → Prop}
set_option maxRecDepth 100000 in
set_option maxHeartbeats 16000000 in
theorem packIdles_any (K : StoreK a B EM SAt) (KS : ScanK a EM SAt) (KL : ∀ W, EM W → EnvL W a) (vl : Value) (l : List Pc) (s : Sn) (vf : Value) (w : World) (hE : EM w) (hp : PcsAt w vl l) (hpl : l.length ≤ maxLen) (hpz : ∀ p ∈ l, PcOk p) (hx : FlsAt w vf s.2.2.2.2.2.2) (ho : s.2.2.2.2.2.1.size ≤ maxLen) (hfl : s.2.2.2.2.2.2.length ≤ maxLen) (hfz : ∀ f ∈ s.2.2.2.2.2.2, f.1.size ≤ maxLen ∧ f.2.1.size ≤ maxLen) :
    Calls Tryz.prog 5 #[vl, snV s vf] w fun e w' => e = .returned (.bool true) ∧ Below w.heap.size w w' := by
  have KU : Hid (StoreK a w.heap.size (upE EM w.heap.size) SAt) := K.up (K.size w hE)
  have HEM : Hid (∀ X, Below w.heap.size w X → EM X) := fun X hX => K.below w X hE (hX.mono (K.size w hE))
  have KSU : Hid (ScanK a (upE EM w.heap.size) SAt) := KS.up _
  have HSC : Hid (∀ X, Below w.heap.size w X → Calls Tryz.prog 6 #[] X fun e w' => e = .returned (.bool true) ∧ Below X.heap.size X w') := fun X hX => packed_any X a (KL X (HEM.out X hX))
  have HPC : Hid (∀ X, Below w.heap.size w X → PcsAt X vl l) := fun X hX => hp.below hX
  have HLP : Hid (∀ X, Below w.heap.size w X → Calls Tryz.prog 7 #[vl] X fun e w' => e = .returned (.bool (pcsLong l)) ∧ w' = X) := fun X hX => longPieces_any vl l X (HPC.out X hX) hpl hpz
  have HFX : Hid (∀ X, Below w.heap.size w X → FlsAt X vf s.2.2.2.2.2.2) := fun X hX => hx.below hX
  have HLS : Hid (∀ X, Below w.heap.size w X → Calls Tryz.prog 8 #[snV s vf] X fun e w' => e = .returned (.int .i64 (if longSn s then 1 else 0)) ∧ Below X.heap.size X w') := fun X hX => longSnap_any s vf X (HFX.out X hX) ho hfl hfz
  have HTB : Hid (∀ X, Below w.heap.size w X → pcsLong l = false → Calls Tryz.prog 9 #[vl] X fun e w' => ∃ vs FP b vf, e = .returned (.tuple #[vs, .pointer (some ⟨b, 0, none⟩), vf]) ∧ TabI (upE EM X.heap.size) SAt X.heap.size X w' vs FP (tabT l).1 (tabT l).2 (tabT l).2 b vf) := fun X hX hs => table_any K vl l X (HEM.out X hX) (HPC.out X hX) hs
  have HST : Hid (pcsLong l = false → (tabT l).1.length ≤ 15 ∧ Short (tabT l).1) := tab_short
  have HEL : Hid (∀ X, Below w.heap.size w X → EnvL X a) := fun X hX => KL X (HEM.out X hX)
  have HKE : Hid (pcsLong l = false → Keeps (tabT l).2) := fun h => (tab_all h).1.keeps
  obtain ⟨q, cap, rfl⟩ := hx.form
  obtain ⟨pq, pc, rfl⟩ := hp.form
  generalize l.length = PL at HPC HLP HTB ⊢
  have hsn := SnAt.new w s (.slice q s.2.2.2.2.2.2.length cap)
  clear K KS KL hE hp hpl hpz hx ho hfl hfz
  unfold snV at HLS ⊢
  obtain ⟨id, par, seq, day, idx, op, fs⟩ := s
  dsimp only at *
  obtain ⟨L, hL⟩ : ∃ L, fs.length = L := ⟨_, rfl⟩
  have HLE : Hid (fs.length = L) := hL
  rw [hL] at HFX HLS hsn ⊢
  clear hL
  have hal : Below w.heap.size w (w.alloc (.cells #[.int .i64 id, .int .i64 par, .int .i64 seq, .int .i64 day, .int .i64 idx, .string op, .slice q L cap] 25)) := (Below.refl _ _).alloc (Nat.le_refl _) _
  have hsc := HSC.out _ hal
  go_enter Tryz.func5, Tryz.ntmps5
  go_wp2_with fail
  generalize w.alloc (.cells #[.int .i64 id, .int .i64 par, .int .i64 seq, .int .i64 day, .int .i64 idx, .string op, .slice q L cap] 25) = WA at hal hsn hsc ⊢
  refine hsc.mono ?_
  rintro e w1 ⟨rfl, hb1⟩
  clear hsc HSC
  have hB1 : Below w.heap.size w w1 := hal.trans (hb1.mono hal.size)
  have hs1 := hsn.below hb1
  obtain ⟨sb, hsbe⟩ : ∃ k, w.heap.size = k := ⟨_, rfl⟩
  have HSB : Hid (w.heap.size = sb) := hsbe
  rw [hsbe] at hs1
  rw [hsbe]
  clear hal hsn hb1 hsbe
  obtain ⟨LP, hLP⟩ : ∃ B, pcsLong l = B := ⟨_, rfl⟩
  obtain ⟨LS, hLS⟩ : ∃ B, longSn (id, par, seq, day, idx, op, fs) = B := ⟨_, rfl⟩
  rw [hLP] at HLP HTB HST HKE
  rw [hLS] at HLS
  clear hLP hLS
  go_upto_region 2 with fail
  go_cut [27] from 17 to 26 (fun c wx => c = .bool (LP || LS) ∧ Below w1.heap.size w1 wx)
  case first =>
    have hlp := HLP.out w1 hB1
    clear HLP
    cases LP
    · obtain ⟨z0, z1, z2, z3, z4, z5, z6⟩ := hs1.cells
      dsimp only at z0 z1 z2 z3 z4 z5 z6
      have hl1 := HLS.out w1 hB1
      clear hs1
      go_wp2_with fail
      refine hlp.mono ?_
      rintro e w2 ⟨rfl, rfl⟩
      clear hlp
      cases LS
      · simp only [Bool.false_eq_true, if_false] at hl1
        go_wp2_with fail
        refine hl1.mono ?_
        rintro e w2 ⟨rfl, hb2⟩
        clear hl1
        go_wp2
        go_meet
        case rel => exact ⟨rfl, hb2⟩
      · simp only [if_true] at hl1
        go_wp2_with fail
        refine hl1.mono ?_
        rintro e w2 ⟨rfl, hb2⟩
        clear hl1
        go_wp2
        go_meet
        case rel => exact ⟨rfl, hb2⟩
    · clear hs1
      go_wp2_with fail
      refine hlp.mono ?_
      rintro e w2 ⟨rfl, rfl⟩
      clear hlp
      go_wp2
      go_meet
      case rel => exact ⟨by simp, Below.refl _ _⟩
  case rest =>
  obtain ⟨rfl, hbc⟩ := hcut
  have hB2 : Below w.heap.size w wc := hB1.trans (hbc.mono hB1.size)
  have hs2 := hs1.below hbc
  clear hs1 hB1 hbc HLP HLS
  generalize wc = w2 at *
  cases hLB : (LP || LS)
  case true =>
    clear hs2
    go_wp2
    go_ret
    exact ⟨rfl, hB2⟩
  rw [Bool.or_eq_false_iff] at hLB
  obtain ⟨rfl, rfl⟩ := hLB
  obtain ⟨hsl, hss⟩ := HST.out rfl
  have HSH : Hid ((tabT l).1.length ≤ 15 ∧ Short (tabT l).1) := ⟨hsl, hss⟩
  have HK : Hid (Keeps (tabT l).2) := HKE.out rfl
  have htb := HTB.out w2 hB2 rfl
  clear hsl hss HST HKE HTB
  go_wp2_with fail
  refine htb.mono ?_
  rintro e w3 ⟨vs, FP, b, vt, rfl, hT⟩
  clear htb
  obtain ⟨hok, hoff⟩ := tab_ok hT hB2
  obtain ⟨pt, rfl⟩ := KU.out.ptr _ _ _ _ hok.at_
  have hoffs : ¬ FP sb := hoff sb hs2.lt
  have hs3 : SnAt w3 sb (id, par, seq, day, idx, op, fs) (.slice q L cap) := (hT.both.ok.frame.block sb hs2.lt).trans hs2
  have hft := hT.files
  obtain ⟨tq, tc, rfl⟩ := hft.form
  have HOK : Hid (SOk (upE EM w.heap.size) SAt w.heap.size w w3 (.pointer (some pt)) FP (tabT l).2 ∧ ¬ FP sb ∧ SnAt w3 sb (id, par, seq, day, idx, op, fs) (.slice q L cap) ∧ FlsAt w3 (.slice tq (tabT l).1.length tc) (tabT l).1) := ⟨hok, hoffs, hs3, hft⟩
  have z6 := hs3.cells.2.2.2.2.2.2
  have zf : w3.frozen? ⟨sb, 6, none⟩ = false := frozen_of_row _ _ _ _ _ hs3
  clear hT hok hoff hoffs hs3 hft hs2 hB2
  obtain ⟨TL, hTL0⟩ : ∃ k, (tabT l).1.length = k := ⟨_, rfl⟩
  rw [hTL0] at HOK ⊢
  have HTT : Hid ((tabT l).1.length = TL) := hTL0
  clear hTL0
  have HSI : Hid (ScI EM SAt w (w3.setCell ⟨sb, 6, none⟩ (.slice tq TL tc)) (.pointer (some pt)) FP (tabT l).2 sb (id, par, seq, day, idx, op, (tabT l).1) (.slice tq TL tc)) := by
    obtain ⟨g1, g2, g3, g4⟩ := HOK.out
    exact ScI.set KU.out g1 g2 (by rw [HSB.out]; exact Nat.le_refl _) g3 g4
  have HFT : Hid (FlsAt (w3.setCell ⟨sb, 6, none⟩ (.slice tq TL tc)) (.slice tq TL tc) (tabT l).1) := HSI.out.files
  generalize hST : (tabT l).2 = ST at *
  generalize hFS : (tabT l).1 = FS at *
  clear hST hFS HPC HLE HFX HOK
  go_upto_region 8 with fail
  clear z6 zf
  generalize w3.setCell ⟨sb, 6, none⟩ (.slice tq TL tc) = w4 at *
  have HQ : Hid (∀ X X' fs v, ScI EM SAt w X (.pointer (some pt)) FP ST sb (id, par, seq, day, idx, op, fs) (v) → Below X.heap.size X X' → ScI EM SAt w X' (.pointer (some pt)) FP ST sb (id, par, seq, day, idx, op, fs) (v)) := fun X X' fs v h hb => h.quiet KU.out hb
  have HRW : Hid (∀ (X : World) fs v, ScI EM SAt w X (.pointer (some pt)) FP ST sb (id, par, seq, day, idx, op, fs) (v) → fs.length ≤ 100 → Short fs → Calls Tryz.prog 14 #[.pointer (some pt), .agg #[.int .i64 id, .int .i64 par, .int .i64 seq, .int .i64 day, .int .i64 idx, .string op, v], .int .i64 minI, .int .i64 maxI] X fun e w' => ∃ v' ev, e = .returned (.tuple #[v', ev]) ∧ RowsAt w' v' (rowsS ST.obs (id, par, seq, day, idx, op, fs) minI maxI).1 ∧ ToldE w' a ev (rowsS ST.obs (id, par, seq, day, idx, op, fs) minI maxI).2 ∧ Below X.heap.size X w') := fun X fs v h h1 h2 =>
    KSU.out.rows X _ FP ST (id, par, seq, day, idx, op, fs) v minI maxI h.ok.env h.ok.at_ HK.out h.files h1 h2
  have HRV : Hid (∀ (X : World) fs v v', ScI EM SAt w X (.pointer (some pt)) FP ST sb (id, par, seq, day, idx, op, fs) (v) → FlsAt X v' fs → fs.length ≤ 100 → Short fs → Calls Tryz.prog 14 #[.pointer (some pt), .agg #[.int .i64 id, .int .i64 par, .int .i64 seq, .int .i64 day, .int .i64 idx, .string op, v'], .int .i64 minI, .int .i64 maxI] X fun e w' => ∃ v' ev, e = .returned (.tuple #[v', ev]) ∧ RowsAt w' v' (rowsS ST.obs (id, par, seq, day, idx, op, fs) minI maxI).1 ∧ ToldE w' a ev (rowsS ST.obs (id, par, seq, day, idx, op, fs) minI maxI).2 ∧ Below X.heap.size X w') := fun X fs v v' h hf h1 h2 =>
    KSU.out.rows X _ FP ST (id, par, seq, day, idx, op, fs) v' minI maxI h.ok.env h.ok.at_ HK.out hf h1 h2
  have HOW : Hid (∀ (X : World), ScI EM SAt w X (.pointer (some pt)) FP ST sb (id, par, seq, day, idx, op, FS) (.slice tq TL tc) → Calls Tryz.prog 15 #[.agg #[.int .i64 id, .int .i64 par, .int .i64 seq, .int .i64 day, .int .i64 idx, .string op, .slice tq TL tc]] X fun e w' => ∃ v', e = .returned (.agg #[.int .i64 id, .int .i64 par, .int .i64 seq, .int .i64 day, .int .i64 idx, .string op, v']) ∧ FlsAt w' v' FS ∧ Below X.heap.size X w') := fun X h => ownSnap_any (id, par, seq, day, idx, op, FS) (.slice tq TL tc) X h.files (by have := HSH.out.1; show FS.length ≤ 1000; omega)
  have HBW : Hid (∀ X fs v, ScI EM SAt w X (.pointer (some pt)) FP ST sb (id, par, seq, day, idx, op, fs) (v) → Below w.heap.size w X) := fun X fs v h => h.ok.frame
  have HLN : Hid ((rowsS ST.obs (id, par, seq, day, idx, op, FS) minI maxI).1.length ≤ 4000) := rows_len ST.obs (id, par, seq, day, idx, op, FS) minI maxI (by have := HSH.out.1; show FS.length ≤ 100; omega)
  have HRN : Hid ((rowsS ST.obs (id, par, seq, day, idx, op, FS) minI maxI).2.1 ≠ 0 → (rowsS ST.obs (id, par, seq, day, idx, op, FS) minI maxI).1 = []) := rows_none
  have HRO : Hid ((rowsS ST.obs (id, par, seq, day, idx, op, FS) minI maxI).2.1 = 0 → FS.length ≤ 60 ∧ Rises 0 FS ∧ rowsS ST.obs (id, par, seq, day, idx, op, FS.filter fun g => !idleB FS g) minI maxI = rowsS ST.obs (id, par, seq, day, idx, op, FS) minI maxI) := fun h0 => ⟨(snap_list (rows_ok h0).1).1, (snap_list (rows_ok h0).1).2, idle_rows (s := (id, par, seq, day, idx, op, FS)) h0⟩
  have HSE : Hid (∀ X v, SnAt X sb (id, par, seq, day, idx, op, FS) v → X.cell? ⟨sb, 0, none⟩ = some (.int .i64 id) ∧ X.cell? ⟨sb, 1, none⟩ = some (.int .i64 par) ∧ X.cell? ⟨sb, 2, none⟩ = some (.int .i64 seq) ∧ X.cell? ⟨sb, 3, none⟩ = some (.int .i64 day) ∧ X.cell? ⟨sb, 4, none⟩ = some (.int .i64 idx) ∧ X.cell? ⟨sb, 5, none⟩ = some (.string op) ∧ X.cell? ⟨sb, 6, none⟩ = some v) := fun X v h => h.cells
  obtain ⟨z0, z1, z2, z3, z4, z5, z6⟩ := HSE.out w4 _ HSI.out.snap
  have how := HOW.out w4 HSI.out
  go_wp2_with fail
  refine how.mono ?_
  rintro e w5 ⟨v5, rfl, hf5, hb5⟩
  clear how HOW z0 z1 z2 z3 z4 z5 z6
  have HI5 : Hid (ScI EM SAt w w5 (.pointer (some pt)) FP ST sb (id, par, seq, day, idx, op, FS) (.slice tq TL tc)) := HQ.out w4 w5 FS _ HSI.out hb5
  have hrw := HRV.out w5 FS _ v5 HI5.out hf5 (by have := HSH.out.1; omega) HSH.out.2
  clear hb5 hf5 HRV HSI HFT
  unfold minI maxI at hrw
  go_wp2_with fail
  refine hrw.mono ?_
  rintro e w6 ⟨v6, ev6, rfl, hr6, ht6, hb6⟩
  clear hrw
  have HI6 : Hid (ScI EM SAt w w6 (.pointer (some pt)) FP ST sb (id, par, seq, day, idx, op, FS) (.slice tq TL tc)) := HQ.out w5 w6 FS _ HI5.out hb6
  clear hb6 HI5
  have HR6 : Hid (RowsAt w6 v6 (rowsS ST.obs (id, par, seq, day, idx, op, FS) minI maxI).1) := hr6
  have HT6 : Hid (ToldE w6 a ev6 (rowsS ST.obs (id, par, seq, day, idx, op, FS) minI maxI).2) := ht6
  clear hr6 ht6
  generalize hRR : rowsS ST.obs (id, par, seq, day, idx, op, FS) minI maxI = RR at *
  clear hRR
  obtain ⟨q6, c6, hv6⟩ := HR6.out.form
  by_cases hE : RR.2.1 = 0
  case neg =>
    obtain ⟨tt, uu, rfl⟩ := HT6.out.bad hE
    rw [HRN.out hE] at hv6
    obtain rfl : v6 = .slice q6 0 c6 := hv6
    have HB6 : Hid (Below w.heap.size w w6) := HBW.out w6 _ _ HI6.out
    clear hE HR6 HT6 HRN HRO HI6
    go_wp2
    go_ret
    exact ⟨by simp, HB6.out⟩
  case pos =>
  obtain rfl := HT6.out.ok hE
  obtain ⟨hF60, hrises, hidle⟩ := HRO.out hE
  have HF60 : Hid (FS.length ≤ 60) := hF60
  have HRI : Hid (Rises 0 FS) := hrises
  have HRE : Hid (rowsS ST.obs (id, par, seq, day, idx, op, FS.filter fun g => !idleB FS g) minI maxI = RR) := hidle
  have HE0 : Hid (RR.2.1 = 0) := hE
  clear hF60 hrises hidle hE HRO HRN HT6
  have HLE0 : Hid ((listE FS).1 = 0) := listE_ok.2 ⟨HF60.out, HRI.out⟩
  have hof := ownFiles_any (.slice tq TL tc) FS w6 HI6.out.files (by have := HF60.out; omega)
  have HLE2 : Hid (RR.1.length ≤ 4000) := HLN.out
  obtain ⟨RL, hRL⟩ : ∃ k, RR.1.length = k := ⟨_, rfl⟩
  rw [hRL] at hv6
  clear hRL
  subst hv6
  go_upto_region 11 with fail
  go_wp2_with fail
  refine hof.mono ?_
  rintro e w7 ⟨v7, rfl, ho7, hb7⟩
  clear hof
  have HI7 : Hid (ScI EM SAt w w7 (.pointer (some pt)) FP ST sb (id, par, seq, day, idx, op, FS) (.slice tq TL tc)) := HQ.out w6 w7 FS _ HI6.out hb7
  have HR7 : Hid (RowsAt w7 (.slice q6 RL c6) RR.1) := HR6.out.below hb7
  have hf7 := (flsAt_of_own ho7).1
  clear ho7 hb7 HI6 HR6
  have hid := idle_any v7 FS w7 a (HEL.out w7 (HBW.out w7 _ _ HI7.out)) hf7 (by have := HF60.out; omega) HSH.out.2
  go_wp2_with fail
  refine hid.mono ?_
  rintro e w8 ⟨v8, ev8, rfl, ht8, hb8, -, hts8⟩
  clear hid hf7
  have HI8 : Hid (ScI EM SAt w w8 (.pointer (some pt)) FP ST sb (id, par, seq, day, idx, op, FS) (.slice tq TL tc)) := HQ.out w7 w8 FS _ HI7.out hb8
  have HR8 : Hid (RowsAt w8 (.slice q6 RL c6) RR.1) := HR7.out.below hb8
  have HT8 : Hid (TsAt w8 v8 (idleL FS)) := hts8 HLE0.out
  obtain rfl := ht8.ok HLE0.out
  clear ht8 hb8 hts8 HI7 HR7
  obtain ⟨IL, hIL⟩ : ∃ k, (idleL FS).length = k := ⟨_, rfl⟩
  have HIL : Hid ((idleL FS).length = IL) := hIL
  have hIL60 : IL ≤ 60 := by
    rw [← hIL]
    unfold idleL
    rw [List.length_map]
    exact Nat.le_trans (List.length_filter_le _ _) HF60.out
  obtain ⟨q8, c8, hv8⟩ := HT8.out.form
  rw [hIL] at hv8
  clear hIL
  subst hv8
  have HF8 : Hid (FlsAt w8 (.slice tq TL tc) (lessF FS (idleL FS) 0)) := by
    show FlsAt _ _ _
    rw [lessF_zero]
    exact HI8.out.files
  go_wp2_with fail
  go_loopw [8, 12, 13, 14] (fun u k _ _ wr => ∃ n : Nat, n ≤ IL ∧ k = .int .i64 n ∧ FlsAt wr u (lessF FS (idleL FS) n) ∧ ScI EM SAt w wr (.pointer (some pt)) FP ST sb (id, par, seq, day, idx, op, FS) (.slice tq TL tc) ∧ RowsAt wr (.slice q6 RL c6) RR.1 ∧ TsAt wr (.slice q8 IL c8) (idleL FS)) (fun _ k _ _ _ => IL - (intOf k).toNat)
  case atStart => exact ⟨0, by omega, rfl, HF8.out, HI8.out, HR8.out, HT8.out⟩
  case round =>
  clear HF8 HI8 HR8 HT8
  obtain ⟨n, hn, rfl, hf, hI, hR, hT⟩ := hrel
  have HI9 : Hid (ScI EM SAt w wr (.pointer (some pt)) FP ST sb (id, par, seq, day, idx, op, FS) (.slice tq TL tc)) := hI
  have HR9 : Hid (RowsAt wr (.slice q6 RL c6) RR.1) := hR
  have HT9 : Hid (TsAt wr (.slice q8 IL c8) (idleL FS)) := hT
  clear hI hR hT
  by_cases hlt : n < IL
  case pos =>
    have hltx : n < (idleL FS).length := by rw [HIL.out]; exact hlt
    obtain ⟨b, hq, hc⟩ := HT9.out.cells (fun e => by rw [e] at hltx; simp at hltx)
    subst hq
    have c0 := hc n hltx
    have hi1 : (n : Int) < (IL : Int) := by omega
    have hi0 : (0 : Int) ≤ (n : Int) := by omega
    have hsub := less_sub FS (idleL FS) n
    have hrm := lremove_any u8 (lessF FS (idleL FS) n) (idleL FS)[n] wr a (HEL.out wr (HBW.out wr _ _ HI9.out)) hf (by have h1 := hsub.length_le; have h2 := HF60.out; omega) (fun g hg => HSH.out.2 g (hsub.subset hg))
    obtain ⟨e1, e2⟩ := less_step HRI.out HF60.out hltx
    rw [e1, e2] at hrm
    generalize (idleL FS)[n] = p at c0 hrm
    clear hc hltx hsub hf e1 e2
    go_wp2_with fail
    refine hrm.mono ?_
    rintro e w9 ⟨v9, ev9, rfl, hf9, ht9, hb9⟩
    obtain rfl : ev9 = .nilIface := ht9
    have HR : Hid (FlsAt w9 v9 (lessF FS (idleL FS) (n + 1)) ∧ ScI EM SAt w w9 (.pointer (some pt)) FP ST sb (id, par, seq, day, idx, op, FS) (.slice tq TL tc) ∧ RowsAt w9 (.slice q6 RL c6) RR.1 ∧ TsAt w9 (.slice (some ⟨b, 0, none⟩) IL c8) (idleL FS)) := ⟨hf9, HQ.out wr w9 FS _ HI9.out hb9, HR9.out.below hb9, HT9.out.below hb9⟩
    clear hrm hf9 hb9 c0 HI9 HR9 HT9
    go_wp2
    go_roundw
    case rel =>
      obtain ⟨g1, g2, g3, g4⟩ := HR.out
      exact ⟨n + 1, by omega, by go_num, g1, g2, g3, g4⟩
    case measure => simp [intOf]; omega
  case neg =>
  obtain rfl : n = IL := by omega
  have HFE : Hid (FlsAt wr u8 (FS.filter fun g => !idleB FS g)) := by
    have h1 := lessF_all HRI.out
    rw [HIL.out] at h1
    show FlsAt _ _ _
    rw [← h1]
    exact hf
  have hii : ¬ (n : Int) < (n : Int) := by omega
  obtain ⟨q9, c9, hu8⟩ := hf.form
  generalize (lessF FS (idleL FS) n).length = FL at hu8
  subst hu8
  have HIE : Hid (ScI EM SAt w (wr.setCell ⟨sb, 6, none⟩ (.slice q9 FL c9)) (.pointer (some pt)) FP ST sb (id, par, seq, day, idx, op, (FS.filter fun g => !idleB FS g)) (.slice q9 FL c9)) := ScI.set KU.out HI9.out.ok HI9.out.off HI9.out.le HI9.out.snap HFE.out
  have HRR : Hid (RowsAt (wr.setCell ⟨sb, 6, none⟩ (.slice q9 FL c9)) (.slice q6 RL c6) RR.1) := rows_set6 HR9.out HI9.out.snap _
  have zf : wr.frozen? ⟨sb, 6, none⟩ = false := frozen_of_row _ _ _ _ _ HI9.out.snap
  have zz6 := (HSE.out wr _ HI9.out.snap).2.2.2.2.2.2
  clear HI9 HR9 HT9 HFE hf hlt
  go_upto_region 22 with fail
  clear zf zz6
  generalize wr.setCell ⟨sb, 6, none⟩ (.slice q9 FL c9) = wE at *
  have HSF : Hid ((FS.filter fun g => !idleB FS g).length ≤ 100 ∧ Short (FS.filter fun g => !idleB FS g)) := ⟨by have h1 := List.length_filter_le (fun g => !idleB FS g) FS; have h2 := HF60.out; omega, fun g hg => HSH.out.2 g (List.mem_filter.1 hg).1⟩
  have hrw := HRW.out wE _ _ HIE.out HSF.out.1 HSF.out.2
  rw [HRE.out] at hrw
  unfold minI maxI at hrw
  obtain ⟨z0, z1, z2, z3, z4, z5, z6⟩ := HIE.out.snap.cells
  dsimp only at z0 z1 z2 z3 z4 z5 z6
  go_wp2_with fail
  refine hrw.mono ?_
  rintro e wF ⟨vF, evF, rfl, hrF, htF, hbF⟩
  clear hrw z0 z1 z2 z3 z4 z5 z6
  obtain rfl := htF.ok HE0.out
  have hBF : Below w.heap.size w wF := (HBW.out wE _ _ HIE.out).trans (hbF.mono (HBW.out wE _ _ HIE.out).size)
  have hln : RR.1.length ≤ 20000 := by have := HLE2.out; omega
  have hsr := sameRows_any vF (.slice q6 RL c6) RR.1 RR.1 wF hrF (HRR.out.below hbF) hln hln
  rw [decide_eq_true rfl] at hsr
  obtain ⟨qF, cF, hvF⟩ := hrF.form
  generalize RR.1.length = RF at hvF
  subst hvF
  clear htF hrF hbF HIE HRR
  go_wp2_with fail
  refine hsr.mono ?_
  rintro e wG ⟨rfl, hbG⟩
  clear hsr
  go_wp2
  go_ret
  exact ⟨rfl, hBF.trans (hbG.mono hBF.size)⟩
end
end Go.Proofs.YtgckdomafbnmkaaGreatDoor
namespace Go.Proofs.YtgckdomafbnmkaaGreatDoor
open Go
set_option maxRecDepth 100000

theorem packIdles_inPlace : Tryz.prog.inPlace 5 = Rows.packIdlesRow.inPlace := by kernel_rfl
theorem packIdles_unfollowed : Tryz.prog.unfollowed 5 = true := by kernel_rfl
theorem packIdles_recurses : Tryz.prog.recurses 5 = true := by unfold Program.recurses; rw [packIdles_unfollowed]; rfl
theorem packIdles_named : Tryz.prog.varsNamed 5 = Rows.packIdlesRow.named := by kernel_rfl
theorem packIdles_facts : joinedFacts Tryz.prog 5 Tryz.f5 Rows.packIdlesSpec Rows.packIdlesRow = true := by
  unfold joinedFacts
  rw [packIdles_inPlace, packIdles_unfollowed, packIdles_recurses, packIdles_named]
  kernel_rfl
end Go.Proofs.YtgckdomafbnmkaaGreatDoor
namespace Go.Proofs.YtgckdomafbnmkaaGreatDoor
open Go.ChangeShapes Go.WideShapes Go.ChangeAt Go.RowKit Go.Deep

theorem Tryz.cellsRow : Tryz.prog.cellsOf 112 = 3 := by kernel_rfl
theorem Tryz.cellsInt : Tryz.prog.cellsOf 3 = 1 := by kernel_rfl
theorem Tryz.cellsString : Tryz.prog.cellsOf 9 = 1 := by kernel_rfl

theorem addr_none {W : World} {a : Addr} {v : Value} (h : W.cell? a = some v) : a.spot = none := by
  unfold World.cell? at h
  split at h
  · split at h
    · cases h
    · rename_i hs; simpa using hs
  · cases h

theorem wf_i64 {n : Int} (h : (Lit.int .i64 n).wf = true) : -9223372036854775808 ≤ n ∧ n ≤ 9223372036854775807 := by
  simpa [Lit.wf, IntKind.min, IntKind.max, IntKind.signed, IntKind.bits] using h

section
variable {H : Type} {enc : TypeId × Value → H} {W : World} {base : Nat} {spare : Nat → Bool} {held : Bool}

set_option maxRecDepth 100000 in
theorem open_row {fuel : Nat} {cs : List Value} {x : DataW H × List MemPlace} (h : DataW.trod enc Tryz.prog W base spare held fuel 112 cs = some x) :
    ∃ r : Rw, cs = [.string r.1, .int .i64 r.2.1, .int .i64 r.2.2] ∧ r.1.size ≤ maxLen ∧ okKey r := by
  obtain ⟨y0, y1, y2, n, _, hl, h0, h1, h2⟩ := trod_struct3 Tryz.underlying112 h
  rw [Tryz.cellsRow] at hl
  match cs, hl with
  | [c0, c1, c2], _ =>
    simp only [Tryz.cellsInt, Tryz.cellsString, List.drop_zero, List.drop_succ_cons, List.take_succ_cons, List.take_zero] at h0 h1 h2
    obtain ⟨s, e0, _, hs⟩ := DataW.trod_string Tryz.underlying9 h0
    obtain ⟨k, e1, _, hk⟩ := DataW.trod_int Tryz.underlying3 h1
    obtain ⟨v, e2, _, _⟩ := DataW.trod_int Tryz.underlying3 h2
    simp only [List.cons.injEq, and_true] at e0 e1 e2
    exact ⟨(s, k, v), by rw [e0, e1, e2], hs, wf_i64 hk⟩

theorem open_rows {fuel : Nat} {v : Value} {x : DataW H × List MemPlace} (h : DataW.trod enc Tryz.prog W base spare held fuel 44 [v] = some x) :
    ∃ xs : List Rw, RowsAt W v xs ∧ xs.length ≤ maxLen ∧ ∀ r ∈ xs, okKey r := by
  rcases open_slice Tryz.underlying44 h with ⟨e, _⟩ | ⟨a, len, cap, m, n, D, Pl, e, _, hl, hm, hmm, _, hx⟩
  · simp only [List.cons.injEq, and_true] at e
    exact ⟨[], Or.inl ⟨none, 0, e, rfl⟩, by decide, fun _ h => by cases h⟩
  · simp only [List.cons.injEq, and_true] at e
    rw [Tryz.cellsRow] at hx
    have hlm : len ≤ m := by rw [hmm]; split <;> omega
    have each : ∀ i, i < len → ∃ r : Rw, (W.cell? (a.add (i * 3)) = some (.string r.1) ∧ W.cell? (a.add (i * 3 + 1)) = some (.int .i64 r.2.1) ∧ W.cell? (a.add (i * 3 + 2)) = some (.int .i64 r.2.2)) ∧ okKey r := fun i hi => by
      obtain ⟨cs', h1, h2⟩ := hx i (by omega)
      obtain ⟨_, _, hcell⟩ := World.cells?_some h1
      obtain ⟨r, hr, _, hk⟩ := open_row h2
      subst hr
      have e0 := hcell 0 (by omega)
      have e1 := hcell 1 (by omega)
      have e2 := hcell 2 (by omega)
      rw [add_add] at e0 e1 e2
      exact ⟨r, ⟨by simpa using e0, by simpa using e1, by simpa using e2⟩, hk⟩
    obtain ⟨f, hf⟩ := choose_lt each
    rcases Nat.eq_zero_or_pos len with h0 | hpos
    · subst h0
      exact ⟨[], Or.inl ⟨_, _, e, rfl⟩, by decide, fun _ h => by cases h⟩
    · have hsp := addr_none (hf 0 hpos).1.1
      have hsp' : a.spot = none := by
        cases a with | mk b o spt => cases spt <;> simp [Addr.add] at hsp ⊢
      obtain ⟨b, o, spt⟩ := a
      simp only at hsp'
      subst hsp'
      refine ⟨(List.range len).map f, Or.inr ⟨b, o, cap, by simpa using e, fun j hj => ?_⟩, by simp; omega, fun r hr => ?_⟩
      · have hj' : j < len := by simpa using hj
        have := (hf j hj').1
        rw [Addr.add_lit, Addr.add_lit, Addr.add_lit] at this
        simpa [Nat.add_assoc] using this
      · simp only [List.mem_map, List.mem_range] at hr
        obtain ⟨i, hi, rfl⟩ := hr
        exact (hf i hi).2

theorem open_keys {fuel : Nat} {v : Value} {x : DataW H × List MemPlace} (h : DataW.trod enc Tryz.prog W base spare held fuel 69 [v] = some x) :
    ∃ zs : List Int, KeysAt W v zs ∧ zs.length ≤ maxLen := by
  rcases open_slice1 Tryz.underlying69 Tryz.cellsInt h with ⟨e, _⟩ | ⟨a, len, cap, m, n, V, D, Pl, e, _, hl, hm, hmm, _, hx⟩
  · simp only [List.cons.injEq, and_true] at e
    exact ⟨[], Or.inl ⟨none, 0, e, rfl⟩, by decide⟩
  · simp only [List.cons.injEq, and_true] at e
    have hlm : len ≤ m := by rw [hmm]; split <;> omega
    have each : ∀ i, i < len → ∃ z : Int, W.cell? (a.add i) = some (.int .i64 z) := fun i hi => by
      obtain ⟨h1, h2⟩ := hx i (by omega)
      obtain ⟨k, e1, _, _⟩ := DataW.trod_int Tryz.underlying3 h2
      simp only [List.cons.injEq, and_true] at e1
      exact ⟨k, by rw [h1, e1]⟩
    obtain ⟨f, hf⟩ := choose_lt each
    rcases Nat.eq_zero_or_pos len with h0 | hpos
    · subst h0
      exact ⟨[], Or.inl ⟨_, _, e, rfl⟩, by decide⟩
    · have hsp := addr_none (hf 0 hpos)
      have hsp' : a.spot = none := by
        cases a with | mk b o spt => cases spt <;> simp [Addr.add] at hsp ⊢
      obtain ⟨b, o, spt⟩ := a
      simp only at hsp'
      subst hsp'
      refine ⟨(List.range len).map f, Or.inr ⟨b, o, cap, by simpa using e, fun j hj => ?_⟩, by simp; omega⟩
      have hj' : j < len := by simpa using hj
      have := hf j hj'
      rw [Addr.add_lit] at this
      simpa using this
end

theorem returns_and_shaped {H : Type} {enc : TypeId × Value → H} {a : Assume} {C : Checked} {os : Os} {f : FuncId} {fn : Func} {s : ChangeSpec} {conds : List PathCond} {apart fresh handsOn again : Bool} {X : World → Array Value → Prop}
    (hX : ∀ (w w' : World) (args : Array Value), w.heap = w'.heap → X w args → X w' args)
    (own : ownKnob C.prog.godebug = none) (started : os.Started) (noInit : C.prog.inits.idxOf? f = none) (hfn : C.prog.funcs[f]? = some fn)
    (witness : ∃ (w : World) (tape : Tape) (i : Input), w.os = os ∧ (w.forCall tape i).Shaped C.prog ∧ i.vars = [] ∧ Input.okWide C.prog (w.forCall tape i) .any w.heap.size f i ∧
      ((s.pre enc C.prog fn conds apart (w.forCall tape i).memory i.args ∧ X (w.forCall tape i).memory i.args) ∧ sizedMet enc C.prog fn (OpenSpec.ofChange s) apart (w.forCall tape i).memory i.args) ∧ a.holds C.prog (lone (Frame.enter C.prog f i.args .normal) [] (w.forCall tape i)))
    (contract : ∀ (W : World) (base : Nat) (args : Array Value) (ds gs : List (DataW H)) (before : List MemPlace),
      (∀ (j : Nat) t v, fn.params[j]? = some t → args[j]? = some v → Value.okWide C.prog W .any base t v) →
      DataW.Whole enc C.prog fn.params.toList s.vars apart W args.toList ds gs before → W.ShapedOpen C.prog → X W args →
      Calls C.prog f args W fun e W' => ∃ v, e = .returned v ∧ s.post enc C.prog fn apart fresh handsOn again W args v W') :
    ReturnsInHanded a C os f .any (fun w args => (s.pre enc C.prog fn conds apart w args ∧ X w args) ∧ sizedMet enc C.prog fn (OpenSpec.ofChange s) apart w args) (s.post enc C.prog fn apart fresh handsOn again) := by
  refine returnsInHanded_of_calls own started noInit witness fun w tape i _ hsh _ hok hpre _ => ?_
  obtain ⟨_, _, _, fn', hfn', _, _, _, _, hval⟩ := hok
  cases Option.some.inj (hfn'.symm.trans hfn)
  obtain ⟨⟨⟨ds, gs, before, hw, _⟩, hx⟩, _⟩ := hpre
  have hw' := DataW.Whole.of_heap (w' := w.forCall tape i) (by rfl) hw
  have hx' := hX _ (w.forCall tape i) _ (by rfl) hx
  refine (contract (w.forCall tape i) w.heap.size i.args ds gs before hval hw' hsh hx').mono fun e W' ⟨v, he, hp⟩ => ?_
  subst he
  exact ChangeSpec.post_blind hp
end Go.Proofs.YtgckdomafbnmkaaGreatDoor
namespace Go.Proofs.YtgckdomafbnmkaaGreatDoor
open Go.ChangeShapes Go.WideShapes Go.ChangeAt Go.RowKit Go.Lib Go.Shelf

theorem Tryz.cellsFile : Tryz.prog.cellsOf 43 = 6 := by kernel_rfl

theorem list6 {α : Type} {l : List α} (h : l.length = 6) : ∃ a b c d e f, l = [a, b, c, d, e, f] := by
  match l, h with
  | [a, b, c, d, e, f], _ => exact ⟨a, b, c, d, e, f, rfl⟩

section
variable {H : Type} {enc : TypeId × Value → H} {W : World} {base : Nat} {spare : Nat → Bool} {held : Bool}

end
end Go.Proofs.YtgckdomafbnmkaaGreatDoor
namespace Go.Proofs.YtgckdomafbnmkaaGreatDoor
open Go.ChangeShapes Go.WideShapes Go.ChangeAt Go.RowKit Go.Deep Go.Lib Go.Shelf

section
variable {H : Type} {enc : TypeId × Value → H} {W : World} {base : Nat} {spare : Nat → Bool} {held : Bool}

set_option maxRecDepth 100000 in
theorem open_six {fuel : Nat} {cs : List Value} {x : DataW H × List MemPlace} (h : DataW.trod enc Tryz.prog W base spare held fuel 43 cs = some x) :
    ∃ f : Fl, cs = encF f ∧ f.1.size ≤ maxLen ∧ f.2.1.size ≤ maxLen := by
  obtain ⟨xs, n, _, _, hl, hlen, hfs⟩ := DataW.trod_struct Tryz.underlying43 h
  obtain ⟨c0, c1, c2, c3, c4, c5, rfl⟩ := list6 (hl.trans Tryz.cellsFile)
  obtain ⟨y0, y1, y2, y3, y4, y5, rfl⟩ := list6 (show xs.length = 6 from hlen)
  have f0 : DataW.trod enc Tryz.prog W base spare held n 9 [c0] = some y0 := by simpa [Tryz.cellsString] using hfs 0 _ rfl
  have f1 : DataW.trod enc Tryz.prog W base spare held n 9 [c1] = some y1 := by simpa [Tryz.cellsString] using hfs 1 _ rfl
  have f2 : DataW.trod enc Tryz.prog W base spare held n 3 [c2] = some y2 := by simpa [Tryz.cellsInt] using hfs 2 _ rfl
  have f3 : DataW.trod enc Tryz.prog W base spare held n 3 [c3] = some y3 := by simpa [Tryz.cellsInt] using hfs 3 _ rfl
  have f4 : DataW.trod enc Tryz.prog W base spare held n 3 [c4] = some y4 := by simpa [Tryz.cellsInt] using hfs 4 _ rfl
  have f5 : DataW.trod enc Tryz.prog W base spare held n 3 [c5] = some y5 := by simpa [Tryz.cellsInt] using hfs 5 _ rfl
  obtain ⟨s0, e0, _, h0⟩ := DataW.trod_string Tryz.underlying9 f0
  obtain ⟨s1, e1, _, h1⟩ := DataW.trod_string Tryz.underlying9 f1
  obtain ⟨k2, e2, _, _⟩ := DataW.trod_int Tryz.underlying3 f2
  obtain ⟨k3, e3, _, _⟩ := DataW.trod_int Tryz.underlying3 f3
  obtain ⟨k4, e4, _, _⟩ := DataW.trod_int Tryz.underlying3 f4
  obtain ⟨k5, e5, _, _⟩ := DataW.trod_int Tryz.underlying3 f5
  simp only [List.cons.injEq, and_true] at e0 e1 e2 e3 e4 e5
  exact ⟨(s0, s1, k2, k3, k4, k5), by rw [e0, e1, e2, e3, e4, e5]; rfl, h0, h1⟩

theorem open_files {fuel : Nat} {v : Value} {x : DataW H × List MemPlace} (h : DataW.trod enc Tryz.prog W base spare held fuel 23 [v] = some x) :
    ∃ fs : List Fl, FlsAt W v fs ∧ fs.length ≤ maxLen ∧ ∀ g ∈ fs, g.1.size ≤ maxLen ∧ g.2.1.size ≤ maxLen := by
  rcases open_slice Tryz.underlying23 h with ⟨e, _⟩ | ⟨a, len, cap, m, n, D, Pl, e, _, hl, hm, hmm, _, hx⟩
  · simp only [List.cons.injEq, and_true] at e
    exact ⟨[], Or.inl ⟨none, 0, e, fun _ => rfl, rfl⟩, by decide, fun _ h => by cases h⟩
  · simp only [List.cons.injEq, and_true] at e
    rw [Tryz.cellsFile] at hx
    have hlm : len ≤ m := by rw [hmm]; split <;> omega
    have each : ∀ i, i < len → ∃ f : Fl, (∀ c u, (encF f)[c]? = some u → W.cell? (a.add (i * 6 + c)) = some u) ∧ f.1.size ≤ maxLen ∧ f.2.1.size ≤ maxLen := fun i hi => by
      obtain ⟨cs', h1, h2⟩ := hx i (by omega)
      obtain ⟨_, _, hcell⟩ := World.cells?_some h1
      obtain ⟨f, hr, hk⟩ := open_six h2
      subst hr
      refine ⟨f, fun c u hu => ?_, hk⟩
      have hc : c < 6 := by
        rcases Nat.lt_or_ge c 6 with h' | h'
        · exact h'
        · rw [List.getElem?_eq_none (by rw [encF_len]; exact h')] at hu; cases hu
      have e0 := hcell c hc
      rw [add_add] at e0
      rw [e0]
      exact hu
    obtain ⟨f, hf⟩ := choose_lt each
    rcases Nat.eq_zero_or_pos len with h0 | hpos
    · subst h0
      exact ⟨[], Or.inl ⟨_, _, e, fun h => (nomatch h), rfl⟩, by decide, fun _ h => by cases h⟩
    · have hsp := addr_none ((hf 0 hpos).1 0 _ rfl)
      have hsp' : a.spot = none := by
        cases a with | mk b o spt => cases spt <;> simp [Addr.add] at hsp ⊢
      obtain ⟨b, o, spt⟩ := a
      simp only at hsp'
      subst hsp'
      refine ⟨(List.range len).map f, Or.inr ⟨b, o, cap, by simpa using e, by simpa using hl, flCells_of fun t u hu => ?_⟩, by simp; omega, fun r hr => ?_⟩
      · have ht : t < (flatF ((List.range len).map f)).length := by
          rcases Nat.lt_or_ge t (flatF ((List.range len).map f)).length with h' | h'
          · exact h'
          · rw [List.getElem?_eq_none h'] at hu; cases hu
        rw [flatF_len, List.length_map, List.length_range] at ht
        have hj : t / 6 < len := by omega
        have et : t = t / 6 * 6 + t % 6 := by omega
        rw [et, flatF_get _ (t / 6) (t % 6) (by simpa using hj) (by omega), List.getElem_map, List.getElem_range] at hu
        have h' := (hf (t / 6) hj).1 (t % 6) u hu
        rw [Addr.add_lit, ← et] at h'
        exact h'
      · simp only [List.mem_map, List.mem_range] at hr
        obtain ⟨i, hi, rfl⟩ := hr
        exact (hf i hi).2
end
end Go.Proofs.YtgckdomafbnmkaaGreatDoor
