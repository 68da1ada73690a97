/-
  What is known of a file, as it came in.
-/
import Derived.Test.YtdhkdjlgmbejnaaGreatDoorScanLw
import Derived.Test.YtdhkdjlgmbejnaaGreatDoorRows
import Derived.JoinedOf
import Derived.ProofKit
import Derived.Deep.Strs
import Derived.HandedShaped
namespace Go.Proofs.YtdhkdjlgmbejnaaGreatDoor
open Go.RowKit Go.Extern.Stop Go.Stop Go.Extern Go.Sort Go.Shelf Go.Lib

theorem both_perm (all : List Rw) (lo : Int) (ha : all.filter (inB minI maxI) = all) : sortR (all.filter (inB minI lo) ++ all.filter (inB (lo + 1) maxI)) = sortR all := by
  apply sortR_of_perm
  have e : all.filter (inB (lo + 1) maxI) = all.filter fun r => !inB minI lo r := by
    apply List.filter_congr
    intro r hr
    have hin : inB minI maxI r = true := List.filter_eq_self.1 ha r hr
    unfold inB at *
    simp only [Bool.and_eq_true, decide_eq_true_eq] at hin
    by_cases h : r.2.1 ≤ lo
    · rw [decide_eq_false (by omega : ¬ lo + 1 ≤ r.2.1), decide_eq_true hin.1, decide_eq_true h]; rfl
    · rw [decide_eq_true (by omega : lo + 1 ≤ r.2.1), decide_eq_true hin.2, decide_eq_true hin.1, decide_eq_false h]; rfl
  rw [e]
  exact List.filter_append_perm _ _

section
variable {a : Nat → Addr} {B : Nat} {EM : World → Prop} {SAt : World → Value → (Nat → Prop) → St → Prop}
set_option maxRecDepth 100000 in
set_option maxHeartbeats 16000000 in
theorem scanPrunes_any (K : StoreK a B EM SAt) (KF : FilesK a EM) (KS : ScanK a EM SAt) (vl : Value) (l : List Pc) (s : Sn) (vf : Value) (lo hi : Int) (w : World) (hE : EM w) (hp : PcsAt w vl l) (hpl : l.length ≤ maxLen) (hpz : ∀ p ∈ l, PcOk p) (hx : FlsAt w vf s.2.2.2.2.2.2) (ho : s.2.2.2.2.2.1.size ≤ maxLen) (hfl : s.2.2.2.2.2.2.length ≤ maxLen) (hfz : ∀ f ∈ s.2.2.2.2.2.2, f.1.size ≤ maxLen ∧ f.2.1.size ≤ maxLen) (hlo1 : minI ≤ lo) (hlo2 : lo ≤ maxI) (hhi : hi ≤ maxI) :
    Calls Tryz.prog 3 #[vl, snV s vf, .int .i64 lo, .int .i64 hi] w fun e w' => e = .returned (.bool true) ∧ Below w.heap.size w w' := by
  have KU : Hid (StoreK a w.heap.size (upE EM w.heap.size) SAt) := K.up (K.size w hE)
  have HEM : Hid (∀ X, Below w.heap.size w X → EM X) := fun X hX => K.below w X hE (hX.mono (K.size w hE))
  have KSU : Hid (ScanK a (upE EM w.heap.size) SAt) := KS.up _
  have HSC : Hid (∀ X, Below w.heap.size w X → Calls Tryz.prog 6 #[] X fun e w' => e = .returned (.bool true) ∧ Below X.heap.size X w') := fun X hX => scanned_any K KF KS X (HEM.out X hX)
  have HPC : Hid (∀ X, Below w.heap.size w X → PcsAt X vl l) := fun X hX => hp.below hX
  have HLP : Hid (∀ X, Below w.heap.size w X → Calls Tryz.prog 7 #[vl] X fun e w' => e = .returned (.bool (pcsLong l)) ∧ w' = X) := fun X hX => longPieces_any vl l X (HPC.out X hX) hpl hpz
  have HFX : Hid (∀ X, Below w.heap.size w X → FlsAt X vf s.2.2.2.2.2.2) := fun X hX => hx.below hX
  have HLS : Hid (∀ X, Below w.heap.size w X → Calls Tryz.prog 8 #[snV s vf] X fun e w' => e = .returned (.int .i64 (if longSn s then 1 else 0)) ∧ Below X.heap.size X w') := fun X hX => longSnap_any s vf X (HFX.out X hX) ho hfl hfz
  have HTB : Hid (∀ X, Below w.heap.size w X → pcsLong l = false → Calls Tryz.prog 9 #[vl] X fun e w' => ∃ vs FP b vf, e = .returned (.tuple #[vs, .pointer (some ⟨b, 0, none⟩), vf]) ∧ TabI (upE EM X.heap.size) SAt X.heap.size X w' vs FP (tabT l).1 (tabT l).2 (tabT l).2 b vf) := fun X hX hs => table_any K vl l X (HEM.out X hX) (HPC.out X hX) hs
  have HST : Hid (pcsLong l = false → longSn s = false → (snapT l s).2.2.2.2.2.2.length ≤ 100 ∧ Short (snapT l s).2.2.2.2.2.2) := snapT_short
  have HKE : Hid (pcsLong l = false → Keeps (tabT l).2) := fun h => (tab_all h).1.keeps
  have HSN : Hid (snapT l s = if s.2.2.2.2.2.2 = [] then (s.1, s.2.1, s.2.2.1, s.2.2.2.1, s.2.2.2.2.1, s.2.2.2.2.2.1, (tabT l).1) else s) := rfl
  generalize snapT l s = s' at HST HSN
  obtain ⟨q, cap, rfl⟩ := hx.form
  obtain ⟨pq, pc, rfl⟩ := hp.form
  generalize l.length = PL at HPC HLP HTB ⊢
  have hsn := SnAt.new w s (.slice q s.2.2.2.2.2.2.length cap)
  clear K KF KS hE hp hpl hpz hx ho hfl hfz
  unfold snV at HLS ⊢
  obtain ⟨id, par, seq, day, idx, op, fs⟩ := s
  dsimp only at *
  obtain ⟨L, hL⟩ : ∃ L, fs.length = L := ⟨_, rfl⟩
  have HLE : Hid (fs.length = L) := hL
  rw [hL] at HFX HLS hsn ⊢
  clear hL
  have hal : Below w.heap.size w (w.alloc (.cells #[.int .i64 id, .int .i64 par, .int .i64 seq, .int .i64 day, .int .i64 idx, .string op, .slice q L cap] 25)) := (Below.refl _ _).alloc (Nat.le_refl _) _
  have hsc := HSC.out _ hal
  go_enter Tryz.func3, Tryz.ntmps3
  go_wp2_with fail
  generalize w.alloc (.cells #[.int .i64 id, .int .i64 par, .int .i64 seq, .int .i64 day, .int .i64 idx, .string op, .slice q L cap] 25) = WA at hal hsn hsc ⊢
  refine hsc.mono ?_
  rintro e w1 ⟨rfl, hb1⟩
  clear hsc HSC
  have hB1 : Below w.heap.size w w1 := hal.trans (hb1.mono hal.size)
  have hs1 := hsn.below hb1
  obtain ⟨sb, hsbe⟩ : ∃ k, w.heap.size = k := ⟨_, rfl⟩
  have HSB : Hid (w.heap.size = sb) := hsbe
  rw [hsbe] at hs1
  rw [hsbe]
  clear hal hsn hb1 hsbe
  obtain ⟨LP, hLP⟩ : ∃ B, pcsLong l = B := ⟨_, rfl⟩
  obtain ⟨LS, hLS⟩ : ∃ B, longSn (id, par, seq, day, idx, op, fs) = B := ⟨_, rfl⟩
  rw [hLP] at HLP HTB HST HKE
  rw [hLS] at HLS HST
  clear hLP hLS
  go_upto_region 2 with fail
  go_cut [34] from 24 to 33 (fun c wx => c = .bool (LP || LS) ∧ Below w1.heap.size w1 wx)
  case first =>
    have hlp := HLP.out w1 hB1
    clear HLP
    cases LP
    · obtain ⟨z0, z1, z2, z3, z4, z5, z6⟩ := hs1.cells
      dsimp only at z0 z1 z2 z3 z4 z5 z6
      have hl1 := HLS.out w1 hB1
      clear hs1
      go_wp2_with fail
      refine hlp.mono ?_
      rintro e w2 ⟨rfl, rfl⟩
      clear hlp
      cases LS
      · simp only [Bool.false_eq_true, if_false] at hl1
        go_wp2_with fail
        refine hl1.mono ?_
        rintro e w2 ⟨rfl, hb2⟩
        clear hl1
        go_wp2
        go_meet
        case rel => exact ⟨rfl, hb2⟩
      · simp only [if_true] at hl1
        go_wp2_with fail
        refine hl1.mono ?_
        rintro e w2 ⟨rfl, hb2⟩
        clear hl1
        go_wp2
        go_meet
        case rel => exact ⟨rfl, hb2⟩
    · clear hs1
      go_wp2_with fail
      refine hlp.mono ?_
      rintro e w2 ⟨rfl, rfl⟩
      clear hlp
      go_wp2
      go_meet
      case rel => exact ⟨by simp, Below.refl _ _⟩
  case rest =>
  obtain ⟨rfl, hbc⟩ := hcut
  have hB2 : Below w.heap.size w wc := hB1.trans (hbc.mono hB1.size)
  have hs2 := hs1.below hbc
  clear hs1 hB1 hbc HLP HLS
  generalize wc = w2 at *
  cases hLB : (LP || LS)
  case true =>
    clear hs2
    go_wp2
    go_ret
    exact ⟨rfl, hB2⟩
  rw [Bool.or_eq_false_iff] at hLB
  obtain ⟨rfl, rfl⟩ := hLB
  obtain ⟨hsl, hss⟩ := HST.out rfl rfl
  have HSH : Hid (s'.2.2.2.2.2.2.length ≤ 100 ∧ Short s'.2.2.2.2.2.2) := ⟨hsl, hss⟩
  have HK : Hid (Keeps (tabT l).2) := HKE.out rfl
  have htb := HTB.out w2 hB2 rfl
  clear hsl hss HST HKE HTB
  go_wp2_with fail
  refine htb.mono ?_
  rintro e w3 ⟨vs, FP, b, vt, rfl, hT⟩
  clear htb
  obtain ⟨hok, hoff⟩ := tab_ok hT hB2
  obtain ⟨pt, rfl⟩ := KU.out.ptr _ _ _ _ hok.at_
  have hoffs : ¬ FP sb := hoff sb hs2.lt
  have hs3 : SnAt w3 sb (id, par, seq, day, idx, op, fs) (.slice q L cap) := (hT.both.ok.frame.block sb hs2.lt).trans hs2
  have hft := hT.files
  obtain ⟨tq, tc, rfl⟩ := hft.form
  have HOK : Hid (SOk (upE EM w.heap.size) SAt w.heap.size w w3 (.pointer (some pt)) FP (tabT l).2 ∧ ¬ FP sb ∧ SnAt w3 sb (id, par, seq, day, idx, op, fs) (.slice q L cap) ∧ FlsAt w3 (.slice tq (tabT l).1.length tc) (tabT l).1) := ⟨hok, hoffs, hs3, hft⟩
  have z6 := hs3.cells.2.2.2.2.2.2
  have zf : w3.frozen? ⟨sb, 6, none⟩ = false := frozen_of_row _ _ _ _ _ hs3
  clear hT hok hoff hoffs hs3 hft hs2 hB2
  generalize hTL : (tabT l).1.length = TL at *
  clear hTL
  go_upto_if 47 with fail
  go_cut [47] from 48 to 49 (fun _ wx => ∃ vx, ScI EM SAt w wx (.pointer (some pt)) FP (tabT l).2 sb s' vx)
  case first =>
    by_cases hL0 : L = 0
    · have hfs : fs = [] := List.length_eq_zero_iff.1 (by rw [HLE.out]; exact hL0)
      have HS' : Hid (s' = (id, par, seq, day, idx, op, (tabT l).1)) := by
        show _ = _
        rw [HSN.out, if_pos hfs]
      have HEND : Hid (ScI EM SAt w (w3.setCell ⟨sb, 6, none⟩ (.slice tq TL tc)) (.pointer (some pt)) FP (tabT l).2 sb s' (.slice tq TL tc)) := by
        obtain ⟨g1, g2, g3, g4⟩ := HOK.out
        rw [HS'.out]
        exact ScI.set KU.out g1 g2 (by rw [HSB.out]; exact Nat.le_refl _) g3 g4
      have hd : (((L : Int)) == 0) = true := by simp; omega
      clear hL0 hfs HOK HSN HS'
      go_wp2
      go_meet
      case rel => exact ⟨_, HEND.out⟩
    · have hfs : fs ≠ [] := fun e => hL0 (by rw [← HLE.out, e]; rfl)
      have HS' : Hid (s' = (id, par, seq, day, idx, op, fs)) := by
        show _ = _
        rw [HSN.out, if_neg hfs]
      have HEND : Hid (ScI EM SAt w w3 (.pointer (some pt)) FP (tabT l).2 sb s' (.slice q L cap)) := by
        obtain ⟨g1, g2, g3, g4⟩ := HOK.out
        rw [HS'.out]
        exact ⟨g1, g2, by rw [HSB.out]; exact Nat.le_refl _, g3, HFX.out w3 g1.frame⟩
      have hd : (((L : Int)) == 0) = false := by simp; omega
      clear hL0 hfs HOK HSN HS'
      go_wp2
      go_meet
      case rel => exact ⟨_, HEND.out⟩
  case rest =>
  obtain ⟨vx, hI⟩ := hcut
  have I4 : Hid (ScI EM SAt w wc (.pointer (some pt)) FP (tabT l).2 sb s' vx) := hI
  clear hI HOK HSN z6 zf HFX
  generalize wc = w4 at *
  obtain ⟨ID, PAR, SEQ, DAY, IDX, OP, FS⟩ := s'
  dsimp only at *
  have HRW : Hid (∀ (X : World) (x y : Int), ScI EM SAt w X (.pointer (some pt)) FP (tabT l).2 sb (ID, PAR, SEQ, DAY, IDX, OP, FS) vx → Calls Tryz.prog 10 #[.pointer (some pt), .agg #[.int .i64 ID, .int .i64 PAR, .int .i64 SEQ, .int .i64 DAY, .int .i64 IDX, .string OP, vx], .int .i64 x, .int .i64 y] X fun e w' => ∃ v' ev, e = .returned (.tuple #[v', ev]) ∧ RowsAt w' v' (rowsS (tabT l).2.obs (ID, PAR, SEQ, DAY, IDX, OP, FS) x y).1 ∧ ToldE w' a ev (rowsS (tabT l).2.obs (ID, PAR, SEQ, DAY, IDX, OP, FS) x y).2 ∧ Below X.heap.size X w') := fun X x y h =>
    KSU.out.rows X _ FP (tabT l).2 (ID, PAR, SEQ, DAY, IDX, OP, FS) vx x y h.ok.env h.ok.at_ HK.out h.files HSH.out.1 HSH.out.2
  have HCO : Hid (∀ (X : World), ScI EM SAt w X (.pointer (some pt)) FP (tabT l).2 sb (ID, PAR, SEQ, DAY, IDX, OP, FS) vx → Calls Tryz.prog 13 #[.pointer (some pt), .agg #[.int .i64 ID, .int .i64 PAR, .int .i64 SEQ, .int .i64 DAY, .int .i64 IDX, .string OP, vx]] X fun e w' => ∃ ev, e = .returned (.tuple #[.int .i64 (rowsS (tabT l).2.obs (ID, PAR, SEQ, DAY, IDX, OP, FS) minI maxI).1.length, ev]) ∧ ToldE w' a ev (rowsS (tabT l).2.obs (ID, PAR, SEQ, DAY, IDX, OP, FS) minI maxI).2 ∧ Below X.heap.size X w') := fun X h => by
    have := KSU.out.count X _ FP (tabT l).2 (ID, PAR, SEQ, DAY, IDX, OP, FS) vx h.ok.env h.ok.at_ HK.out h.files HSH.out.1 HSH.out.2
    rw [rows_wide (by omega) (by omega) (show minI ≤ -1073741824 by unfold minI; omega) (show (1073741824 : Int) ≤ maxI by unfold maxI; omega)] at this
    exact this
  have HRN : Hid ((rowsS (tabT l).2.obs (ID, PAR, SEQ, DAY, IDX, OP, FS) minI maxI).2.1 ≠ 0 → (rowsS (tabT l).2.obs (ID, PAR, SEQ, DAY, IDX, OP, FS) minI maxI).1 = []) := rows_none
  have HRF : Hid (∀ x y : Int, minI ≤ x → y ≤ maxI → (rowsS (tabT l).2.obs (ID, PAR, SEQ, DAY, IDX, OP, FS) minI maxI).2.1 = 0 → rowsS (tabT l).2.obs (ID, PAR, SEQ, DAY, IDX, OP, FS) x y = ((rowsS (tabT l).2.obs (ID, PAR, SEQ, DAY, IDX, OP, FS) minI maxI).1.filter (inB x y), 0, none)) := fun x y h1 h2 h => rows_filter h1 h2 h
  have hln := rows_len (tabT l).2.obs (ID, PAR, SEQ, DAY, IDX, OP, FS) minI maxI HSH.out.1
  have HQ : Hid (∀ X X', ScI EM SAt w X (.pointer (some pt)) FP (tabT l).2 sb (ID, PAR, SEQ, DAY, IDX, OP, FS) vx → Below X.heap.size X X' → ScI EM SAt w X' (.pointer (some pt)) FP (tabT l).2 sb (ID, PAR, SEQ, DAY, IDX, OP, FS) vx) := fun X X' h hb => h.quiet KU.out hb
  obtain ⟨xq, xc, hvx⟩ := I4.out.files.form
  have HR0 : Hid (∀ (X : World), ScI EM SAt w X (.pointer (some pt)) FP (tabT l).2 sb (ID, PAR, SEQ, DAY, IDX, OP, FS) vx → Calls Tryz.prog 10 #[.pointer (some pt), .agg #[.int .i64 ID, .int .i64 PAR, .int .i64 SEQ, .int .i64 DAY, .int .i64 IDX, .string OP, vx], .int .i64 minI, .int .i64 maxI] X fun e w' => ∃ v' ev, e = .returned (.tuple #[v', ev]) ∧ RowsAt w' v' (rowsS (tabT l).2.obs (ID, PAR, SEQ, DAY, IDX, OP, FS) minI maxI).1 ∧ ToldE w' a ev (rowsS (tabT l).2.obs (ID, PAR, SEQ, DAY, IDX, OP, FS) minI maxI).2 ∧ Below X.heap.size X w') := fun X h => HRW.out X minI maxI h
  have HRX : Hid (∀ (x y : Int), minI ≤ x → y ≤ maxI → (rowsS (tabT l).2.obs (ID, PAR, SEQ, DAY, IDX, OP, FS) minI maxI).2.1 = 0 → ∀ (X : World), ScI EM SAt w X (.pointer (some pt)) FP (tabT l).2 sb (ID, PAR, SEQ, DAY, IDX, OP, FS) vx → Calls Tryz.prog 10 #[.pointer (some pt), .agg #[.int .i64 ID, .int .i64 PAR, .int .i64 SEQ, .int .i64 DAY, .int .i64 IDX, .string OP, vx], .int .i64 x, .int .i64 y] X fun e w' => ∃ v', e = .returned (.tuple #[v', .nilIface]) ∧ RowsAt w' v' ((rowsS (tabT l).2.obs (ID, PAR, SEQ, DAY, IDX, OP, FS) minI maxI).1.filter (inB x y)) ∧ Below X.heap.size X w') := fun x y h1 h2 h0 X h => by
    have := HRW.out X x y h
    rw [HRF.out x y h1 h2 h0] at this
    refine this.mono ?_
    rintro e w' ⟨v', ev, rfl, g1, g2, g3⟩
    obtain rfl : ev = .nilIface := g2
    exact ⟨v', rfl, g1, g3⟩
  have HFF : Hid ((rowsS (tabT l).2.obs (ID, PAR, SEQ, DAY, IDX, OP, FS) minI maxI).2.1 = 0 → (rowsS (tabT l).2.obs (ID, PAR, SEQ, DAY, IDX, OP, FS) minI maxI).1.filter (inB minI maxI) = (rowsS (tabT l).2.obs (ID, PAR, SEQ, DAY, IDX, OP, FS) minI maxI).1) := fun h0 => by
    have := HRF.out minI maxI (Int.le_refl _) (Int.le_refl _) h0
    exact (congrArg Prod.fst this).symm
  generalize rowsS (tabT l).2.obs (ID, PAR, SEQ, DAY, IDX, OP, FS) minI maxI = R at *
  subst hvx
  generalize FS.length = XL at *
  clear HRW HRF KSU HK HSH KU HEM HPC HLE
  have hr0 := HR0.out w4 I4.out
  obtain ⟨z0, z1, z2, z3, z4, z5, z6⟩ := I4.out.snap.cells
  dsimp only at z0 z1 z2 z3 z4 z5 z6
  clear HR0
  unfold minI maxI at hr0
  go_wp2_with fail
  refine hr0.mono ?_
  rintro e w5 ⟨v5, ev, rfl, hr5, ht5, hb5⟩
  clear hr0 z0 z1 z2 z3 z4 z5 z6
  have I5 : Hid (ScI EM SAt w w5 (.pointer (some pt)) FP (tabT l).2 sb (ID, PAR, SEQ, DAY, IDX, OP, FS) (.slice xq XL xc)) := HQ.out _ _ I4.out hb5
  obtain ⟨aq, ac, rfl⟩ := hr5.form
  obtain ⟨all, rc⟩ := R
  dsimp only at *
  clear I4 hb5
  by_cases h0 : rc.1 = 0
  case neg =>
    obtain ⟨t, u, rfl⟩ := ht5.bad h0
    have hall := HRN.out h0
    subst hall
    clear HRN HRX HFF HCO HQ ht5 hr5
    dsimp only [List.length_nil]
    go_wp2
    go_ret
    exact ⟨rfl, I5.out.ok.frame⟩
  obtain rfl := ht5.ok h0
  have HAL : Hid (∀ X, Below w5.heap.size w5 X → RowsAt X (.slice aq all.length ac) all) := fun X hX => hr5.below hX
  have HFA : Hid (all.filter (inB minI maxI) = all) := HFF.out h0
  have HRX' : Hid (∀ (x y : Int), minI ≤ x → y ≤ maxI → ∀ (X : World), ScI EM SAt w X (.pointer (some pt)) FP (tabT l).2 sb (ID, PAR, SEQ, DAY, IDX, OP, FS) (.slice xq XL xc) → Calls Tryz.prog 10 #[.pointer (some pt), .agg #[.int .i64 ID, .int .i64 PAR, .int .i64 SEQ, .int .i64 DAY, .int .i64 IDX, .string OP, .slice xq XL xc], .int .i64 x, .int .i64 y] X fun e w' => ∃ v', e = .returned (.tuple #[v', .nilIface]) ∧ RowsAt w' v' (all.filter (inB x y)) ∧ Below X.heap.size X w') := fun x y h1 h2 X h => HRX.out x y h1 h2 h0 X h
  have HCO' : Hid (∀ (X : World), ScI EM SAt w X (.pointer (some pt)) FP (tabT l).2 sb (ID, PAR, SEQ, DAY, IDX, OP, FS) (.slice xq XL xc) → Calls Tryz.prog 13 #[.pointer (some pt), .agg #[.int .i64 ID, .int .i64 PAR, .int .i64 SEQ, .int .i64 DAY, .int .i64 IDX, .string OP, .slice xq XL xc]] X fun e w' => e = .returned (.tuple #[.int .i64 all.length, .nilIface]) ∧ Below X.heap.size X w') := fun X h => by
    refine (HCO.out X h).mono ?_
    rintro e w' ⟨ev, rfl, g1, g2⟩
    obtain rfl := g1.ok h0
    exact ⟨rfl, g2⟩
  clear HRX HFF HCO HRN ht5 hr5 h0
  obtain ⟨AL, hAL⟩ : ∃ A, all.length = A := ⟨_, rfl⟩
  have HLA : Hid (all.length = AL) := hAL
  rw [hAL] at HAL HCO' hln ⊢
  clear hAL
  -- some keys
  have hr6 := HRX'.out lo hi hlo1 hhi w5 I5.out
  obtain ⟨z0, z1, z2, z3, z4, z5, z6⟩ := I5.out.snap.cells
  dsimp only at z0 z1 z2 z3 z4 z5 z6
  go_wp2_with fail
  refine hr6.mono ?_
  rintro e w6 ⟨v6, rfl, hr6', hb6⟩
  clear hr6 z0 z1 z2 z3 z4 z5 z6
  obtain ⟨bq, bc, rfl⟩ := hr6'.form
  have I6 : Hid (ScI EM SAt w w6 (.pointer (some pt)) FP (tabT l).2 sb (ID, PAR, SEQ, DAY, IDX, OP, FS) (.slice xq XL xc)) := HQ.out _ _ I5.out hb6
  have hwi := within_any (.slice aq AL ac) all lo hi w6 (HAL.out w6 hb6) (by rw [HLA.out]; omega)
  have hfl := List.length_filter_le (inB lo hi) all
  rw [HLA.out] at hfl
  have HXR : Hid (∀ X, Below w6.heap.size w6 X → RowsAt X (.slice bq (all.filter (inB lo hi)).length bc) (all.filter (inB lo hi))) := fun X hX => hr6'.below hX
  clear I5 hr6'
  generalize all.filter (inB lo hi) = xs at *
  generalize hxl : xs.length = xl at *
  have HXL : Hid (xs.length = xl) := hxl
  clear hxl
  go_wp2_with fail
  refine hwi.mono ?_
  rintro e w7 ⟨v7, rfl, hr7, hb7⟩
  clear hwi
  obtain ⟨cq, cc, rfl⟩ := hr7.form
  have hsr := sameRows_any (.slice bq xl bc) (.slice cq xs.length cc) xs xs w7 (HXR.out w7 hb7) hr7 (by rw [HXL.out]; omega) (by rw [HXL.out]; omega)
  rw [decide_eq_true rfl] at hsr
  clear hr7
  generalize xs.length = xl2 at *
  go_wp2_with fail
  refine hsr.mono ?_
  rintro e w8 ⟨rfl, hb8⟩
  clear hsr
  have hb68 : Below w6.heap.size w6 w8 := hb7.trans (hb8.mono hb7.size)
  have I8 : Hid (ScI EM SAt w w8 (.pointer (some pt)) FP (tabT l).2 sb (ID, PAR, SEQ, DAY, IDX, OP, FS) (.slice xq XL xc)) := HQ.out _ _ I6.out hb68
  have HA8 : Hid (∀ X, Below w8.heap.size w8 X → RowsAt X (.slice aq AL ac) all) := fun X hX => HAL.out X ((hb6.trans (hb68.mono hb6.size)).trans (hX.mono (Nat.le_trans hb6.size hb68.size)))
  clear I6 HAL HXR hb6 hb7 hb8 hb68 hfl HXL
  -- the keys up to lo
  have hr9 := HRX'.out minI lo (Int.le_refl _) hlo2 w8 I8.out
  obtain ⟨z0, z1, z2, z3, z4, z5, z6⟩ := I8.out.snap.cells
  dsimp only at z0 z1 z2 z3 z4 z5 z6
  unfold minI at hr9
  go_wp2_with fail
  refine hr9.mono ?_
  rintro e w9 ⟨v9, rfl, hr9', hb9⟩
  clear hr9 z0 z1 z2 z3 z4 z5 z6
  have hlow : all.filter (inB (-9223372036854775808) lo) = all.filter (inB minI lo) := rfl
  rw [hlow] at hr9'
  clear hlow
  obtain ⟨dq, dc, rfl⟩ := hr9'.form
  have I9 : Hid (ScI EM SAt w w9 (.pointer (some pt)) FP (tabT l).2 sb (ID, PAR, SEQ, DAY, IDX, OP, FS) (.slice xq XL xc)) := HQ.out _ _ I8.out hb9
  have hfl := List.length_filter_le (inB minI lo) all
  rw [HLA.out] at hfl
  clear I8
  by_cases hmx : lo = 9223372036854775807
  case pos =>
    subst hmx
    have hal : all.filter (inB minI 9223372036854775807) = all := HFA.out
    rw [hal] at hr9' hfl
    rw [hal]
    have hsr := sameRows_any _ (.slice aq AL ac) all all w9 hr9' (HA8.out w9 hb9) (by rw [HLA.out]; omega) (by rw [HLA.out]; omega)
    rw [decide_eq_true rfl] at hsr
    clear hr9' hal hfl
    generalize all.length = al2 at *
    go_wp2_with fail
    refine hsr.mono ?_
    rintro e w10 ⟨rfl, hb10⟩
    clear hsr
    go_wp2
    go_ret
    exact ⟨rfl, I9.out.ok.frame.trans (hb10.mono I9.out.ok.frame.size)⟩
  have hne : (lo == 9223372036854775807) = false := by simpa using hmx
  have hlt : lo < maxI := by unfold maxI at *; omega
  have hwr : IntKind.i64.wrap (lo + 1) = lo + 1 := by
    unfold minI maxI at *
    exact IntWalk.i64_in _ (by omega)
  have HLO : Hid (∀ X, Below w9.heap.size w9 X → RowsAt X (.slice dq (all.filter (inB minI lo)).length dc) (all.filter (inB minI lo))) := fun X hX => hr9'.below hX
  clear hr9' hmx
  obtain ⟨lows, hlw⟩ : ∃ L, all.filter (inB minI lo) = L := ⟨_, rfl⟩
  have HLW : Hid (all.filter (inB minI lo) = lows) := hlw
  rw [hlw] at HLO hfl ⊢
  clear hlw
  generalize hll : lows.length = ll at *
  have HLL : Hid (lows.length = ll) := hll
  clear hll
  -- the keys behind lo
  have hr10 := HRX'.out (lo + 1) maxI (by unfold minI at *; omega) (Int.le_refl _) w9 I9.out
  obtain ⟨z0, z1, z2, z3, z4, z5, z6⟩ := I9.out.snap.cells
  dsimp only at z0 z1 z2 z3 z4 z5 z6
  unfold maxI at hr10
  go_wp2_with fail
  refine hr10.mono ?_
  rintro e w10 ⟨v10, rfl, hr10', hb10⟩
  clear hr10 z0 z1 z2 z3 z4 z5 z6
  have hhg : all.filter (inB (lo + 1) 9223372036854775807) = all.filter (inB (lo + 1) maxI) := rfl
  rw [hhg] at hr10'
  clear hhg
  obtain ⟨eq, ec, rfl⟩ := hr10'.form
  have I10 : Hid (ScI EM SAt w w10 (.pointer (some pt)) FP (tabT l).2 sb (ID, PAR, SEQ, DAY, IDX, OP, FS) (.slice xq XL xc)) := HQ.out _ _ I9.out hb10
  have hfh := List.length_filter_le (inB (lo + 1) maxI) all
  rw [HLA.out] at hfh
  have HHI : Hid (∀ X, Below w10.heap.size w10 X → RowsAt X (.slice eq (all.filter (inB (lo + 1) maxI)).length ec) (all.filter (inB (lo + 1) maxI))) := fun X hX => hr10'.below hX
  have HLO' : Hid (∀ X, Below w10.heap.size w10 X → RowsAt X (.slice dq ll dc) lows) := fun X hX => HLO.out X (hb10.trans (hX.mono hb10.size))
  have HA10 : Hid (∀ X, Below w10.heap.size w10 X → RowsAt X (.slice aq AL ac) all) := fun X hX => HA8.out X ((hb9.trans (hb10.mono hb9.size)).trans (hX.mono (Nat.le_trans hb9.size hb10.size)))
  clear I9 hr10' HLO HA8 hb9 hb10
  obtain ⟨his, hhs⟩ : ∃ L, all.filter (inB (lo + 1) maxI) = L := ⟨_, rfl⟩
  have HSS : Hid (sortR (lows ++ his) = sortR all) := by
    show _ = _
    rw [← HLW.out, ← hhs]
    exact both_perm all lo HFA.out
  rw [hhs] at HHI hfh ⊢
  clear hhs HLW HFA HRX'
  generalize hhl : his.length = hl at *
  have HHL : Hid (his.length = hl) := hhl
  clear hhl
  have hco := HCO'.out w10 I10.out
  obtain ⟨z0, z1, z2, z3, z4, z5, z6⟩ := I10.out.snap.cells
  dsimp only at z0 z1 z2 z3 z4 z5 z6
  go_wp2_with fail
  refine hco.mono ?_
  rintro e w11 ⟨rfl, hb11⟩
  clear hco z0 z1 z2 z3 z4 z5 z6 HCO'
  have hB11 : Below w.heap.size w w11 := I10.out.ok.frame.trans (hb11.mono I10.out.ok.frame.size)
  have how := ownRows_any (.slice dq ll dc) lows w11 (HLO'.out w11 hb11) (by rw [HLL.out]; omega)
  clear I10 HLO' HQ
  go_wp2_with fail
  refine how.mono ?_
  rintro e w12 ⟨v12, rfl, hown, hb12⟩
  clear how
  have hb1012 : Below w10.heap.size w10 w12 := hb11.trans (hb12.mono hb11.size)
  rw [HLL.out] at hown
  obtain ⟨oq, on, oc, rfl⟩ : ∃ a b c, v12 = .slice a b c := by
    obtain ⟨d, hd⟩ := hdQ_own hown
    exact hdQ_form hd
  obtain ⟨v13, w13, hrun, hown13, hgr13, -⟩ := run_append_rows w12 w11.heap.size (.slice oq on oc) ll (flatR lows) hown eq hl ec his (HHI.out w12 hb1012) (by omega) hb12.size
  have hb13 : Below w11.heap.size w11 w13 := hb12.grown hgr13 hb12.size fun k hk => (own_in hown hk).1
  have hboth : RowsAt w13 v13 (lows ++ his) := by
    rw [← flat_append] at hown13
    exact (rowsAt_of_own hown13).1
  have hsm := same_any v13 (.slice aq AL ac) (lows ++ his) all w13 hboth (HA10.out w13 (hb11.trans (hb13.mono hb11.size))) (by rw [List.length_append, HLL.out, HHL.out]; omega) (by rw [HLA.out]; omega)
  rw [decide_eq_true HSS.out] at hsm
  obtain ⟨gq, gc, rfl⟩ := hboth.form
  have HB13 : Hid (Below w.heap.size w w13) := hB11.trans (hb13.mono hB11.size)
  clear hboth hown hown13 hgr13 hb12 hb13 hb1012 hb11 hB11 HA10 HHI
  generalize (lows ++ his).length = bl at *
  go_wp2_with (at_builtin; refine wpList_append_run (by rfl) _ _ _ (by rfl) _ _ _ (by rfl) (by rfl) hrun ?_)
  refine hsm.mono ?_
  rintro e w14 ⟨rfl, hb14⟩
  clear hsm hrun
  go_wp2
  go_ret
  exact ⟨rfl, HB13.out.trans (hb14.mono HB13.out.size)⟩
end
end Go.Proofs.YtdhkdjlgmbejnaaGreatDoor
namespace Go.Proofs.YtdhkdjlgmbejnaaGreatDoor
open Go
set_option maxRecDepth 100000

theorem scanPrunes_inPlace : Tryz.prog.inPlace 3 = Rows.scanPrunesRow.inPlace := by kernel_rfl
theorem scanPrunes_unfollowed : Tryz.prog.unfollowed 3 = true := by kernel_rfl
theorem scanPrunes_recurses : Tryz.prog.recurses 3 = true := by unfold Program.recurses; rw [scanPrunes_unfollowed]; rfl
theorem scanPrunes_named : Tryz.prog.varsNamed 3 = Rows.scanPrunesRow.named := by kernel_rfl
theorem scanPrunes_facts : joinedFacts Tryz.prog 3 Tryz.f3 Rows.scanPrunesSpec Rows.scanPrunesRow = true := by
  unfold joinedFacts
  rw [scanPrunes_inPlace, scanPrunes_unfollowed, scanPrunes_recurses, scanPrunes_named]
  kernel_rfl
end Go.Proofs.YtdhkdjlgmbejnaaGreatDoor
namespace Go.Proofs.YtdhkdjlgmbejnaaGreatDoor
open Go.ChangeShapes Go.WideShapes Go.ChangeAt Go.RowKit Go.Deep

theorem Tryz.cellsRow : Tryz.prog.cellsOf 54 = 3 := by kernel_rfl
theorem Tryz.cellsInt : Tryz.prog.cellsOf 3 = 1 := by kernel_rfl
theorem Tryz.cellsString : Tryz.prog.cellsOf 9 = 1 := by kernel_rfl

theorem addr_none {W : World} {a : Addr} {v : Value} (h : W.cell? a = some v) : a.spot = none := by
  unfold World.cell? at h
  split at h
  · split at h
    · cases h
    · rename_i hs; simpa using hs
  · cases h

theorem wf_i64 {n : Int} (h : (Lit.int .i64 n).wf = true) : -9223372036854775808 ≤ n ∧ n ≤ 9223372036854775807 := by
  simpa [Lit.wf, IntKind.min, IntKind.max, IntKind.signed, IntKind.bits] using h

section
variable {H : Type} {enc : TypeId × Value → H} {W : World} {base : Nat} {spare : Nat → Bool} {held : Bool}

set_option maxRecDepth 100000 in
theorem open_row {fuel : Nat} {cs : List Value} {x : DataW H × List MemPlace} (h : DataW.trod enc Tryz.prog W base spare held fuel 54 cs = some x) :
    ∃ r : Rw, cs = [.string r.1, .int .i64 r.2.1, .int .i64 r.2.2] ∧ r.1.size ≤ maxLen ∧ okKey r := by
  obtain ⟨y0, y1, y2, n, _, hl, h0, h1, h2⟩ := trod_struct3 Tryz.underlying54 h
  rw [Tryz.cellsRow] at hl
  match cs, hl with
  | [c0, c1, c2], _ =>
    simp only [Tryz.cellsInt, Tryz.cellsString, List.drop_zero, List.drop_succ_cons, List.take_succ_cons, List.take_zero] at h0 h1 h2
    obtain ⟨s, e0, _, hs⟩ := DataW.trod_string Tryz.underlying9 h0
    obtain ⟨k, e1, _, hk⟩ := DataW.trod_int Tryz.underlying3 h1
    obtain ⟨v, e2, _, _⟩ := DataW.trod_int Tryz.underlying3 h2
    simp only [List.cons.injEq, and_true] at e0 e1 e2
    exact ⟨(s, k, v), by rw [e0, e1, e2], hs, wf_i64 hk⟩

theorem open_rows {fuel : Nat} {v : Value} {x : DataW H × List MemPlace} (h : DataW.trod enc Tryz.prog W base spare held fuel 33 [v] = some x) :
    ∃ xs : List Rw, RowsAt W v xs ∧ xs.length ≤ maxLen ∧ ∀ r ∈ xs, okKey r := by
  rcases open_slice Tryz.underlying33 h with ⟨e, _⟩ | ⟨a, len, cap, m, n, D, Pl, e, _, hl, hm, hmm, _, hx⟩
  · simp only [List.cons.injEq, and_true] at e
    exact ⟨[], Or.inl ⟨none, 0, e, rfl⟩, by decide, fun _ h => by cases h⟩
  · simp only [List.cons.injEq, and_true] at e
    rw [Tryz.cellsRow] at hx
    have hlm : len ≤ m := by rw [hmm]; split <;> omega
    have each : ∀ i, i < len → ∃ r : Rw, (W.cell? (a.add (i * 3)) = some (.string r.1) ∧ W.cell? (a.add (i * 3 + 1)) = some (.int .i64 r.2.1) ∧ W.cell? (a.add (i * 3 + 2)) = some (.int .i64 r.2.2)) ∧ okKey r := fun i hi => by
      obtain ⟨cs', h1, h2⟩ := hx i (by omega)
      obtain ⟨_, _, hcell⟩ := World.cells?_some h1
      obtain ⟨r, hr, _, hk⟩ := open_row h2
      subst hr
      have e0 := hcell 0 (by omega)
      have e1 := hcell 1 (by omega)
      have e2 := hcell 2 (by omega)
      rw [add_add] at e0 e1 e2
      exact ⟨r, ⟨by simpa using e0, by simpa using e1, by simpa using e2⟩, hk⟩
    obtain ⟨f, hf⟩ := choose_lt each
    rcases Nat.eq_zero_or_pos len with h0 | hpos
    · subst h0
      exact ⟨[], Or.inl ⟨_, _, e, rfl⟩, by decide, fun _ h => by cases h⟩
    · have hsp := addr_none (hf 0 hpos).1.1
      have hsp' : a.spot = none := by
        cases a with | mk b o spt => cases spt <;> simp [Addr.add] at hsp ⊢
      obtain ⟨b, o, spt⟩ := a
      simp only at hsp'
      subst hsp'
      refine ⟨(List.range len).map f, Or.inr ⟨b, o, cap, by simpa using e, fun j hj => ?_⟩, by simp; omega, fun r hr => ?_⟩
      · have hj' : j < len := by simpa using hj
        have := (hf j hj').1
        rw [Addr.add_lit, Addr.add_lit, Addr.add_lit] at this
        simpa [Nat.add_assoc] using this
      · simp only [List.mem_map, List.mem_range] at hr
        obtain ⟨i, hi, rfl⟩ := hr
        exact (hf i hi).2

theorem open_keys {fuel : Nat} {v : Value} {x : DataW H × List MemPlace} (h : DataW.trod enc Tryz.prog W base spare held fuel 50 [v] = some x) :
    ∃ zs : List Int, KeysAt W v zs ∧ zs.length ≤ maxLen := by
  rcases open_slice1 Tryz.underlying50 Tryz.cellsInt h with ⟨e, _⟩ | ⟨a, len, cap, m, n, V, D, Pl, e, _, hl, hm, hmm, _, hx⟩
  · simp only [List.cons.injEq, and_true] at e
    exact ⟨[], Or.inl ⟨none, 0, e, rfl⟩, by decide⟩
  · simp only [List.cons.injEq, and_true] at e
    have hlm : len ≤ m := by rw [hmm]; split <;> omega
    have each : ∀ i, i < len → ∃ z : Int, W.cell? (a.add i) = some (.int .i64 z) := fun i hi => by
      obtain ⟨h1, h2⟩ := hx i (by omega)
      obtain ⟨k, e1, _, _⟩ := DataW.trod_int Tryz.underlying3 h2
      simp only [List.cons.injEq, and_true] at e1
      exact ⟨k, by rw [h1, e1]⟩
    obtain ⟨f, hf⟩ := choose_lt each
    rcases Nat.eq_zero_or_pos len with h0 | hpos
    · subst h0
      exact ⟨[], Or.inl ⟨_, _, e, rfl⟩, by decide⟩
    · have hsp := addr_none (hf 0 hpos)
      have hsp' : a.spot = none := by
        cases a with | mk b o spt => cases spt <;> simp [Addr.add] at hsp ⊢
      obtain ⟨b, o, spt⟩ := a
      simp only at hsp'
      subst hsp'
      refine ⟨(List.range len).map f, Or.inr ⟨b, o, cap, by simpa using e, fun j hj => ?_⟩, by simp; omega⟩
      have hj' : j < len := by simpa using hj
      have := hf j hj'
      rw [Addr.add_lit] at this
      simpa using this
end

theorem returns_and_shaped {H : Type} {enc : TypeId × Value → H} {a : Assume} {C : Checked} {os : Os} {f : FuncId} {fn : Func} {s : ChangeSpec} {conds : List PathCond} {apart fresh handsOn again : Bool} {X : World → Array Value → Prop}
    (hX : ∀ (w w' : World) (args : Array Value), w.heap = w'.heap → X w args → X w' args)
    (own : ownKnob C.prog.godebug = none) (started : os.Started) (noInit : C.prog.inits.idxOf? f = none) (hfn : C.prog.funcs[f]? = some fn)
    (witness : ∃ (w : World) (tape : Tape) (i : Input), w.os = os ∧ (w.forCall tape i).Shaped C.prog ∧ i.vars = [] ∧ Input.okWide C.prog (w.forCall tape i) .any w.heap.size f i ∧
      ((s.pre enc C.prog fn conds apart (w.forCall tape i).memory i.args ∧ X (w.forCall tape i).memory i.args) ∧ sizedMet enc C.prog fn (OpenSpec.ofChange s) apart (w.forCall tape i).memory i.args) ∧ a.holds C.prog (lone (Frame.enter C.prog f i.args .normal) [] (w.forCall tape i)))
    (contract : ∀ (W : World) (base : Nat) (args : Array Value) (ds gs : List (DataW H)) (before : List MemPlace),
      (∀ (j : Nat) t v, fn.params[j]? = some t → args[j]? = some v → Value.okWide C.prog W .any base t v) →
      DataW.Whole enc C.prog fn.params.toList s.vars apart W args.toList ds gs before → W.ShapedOpen C.prog → X W args →
      Calls C.prog f args W fun e W' => ∃ v, e = .returned v ∧ s.post enc C.prog fn apart fresh handsOn again W args v W') :
    ReturnsInHanded a C os f .any (fun w args => (s.pre enc C.prog fn conds apart w args ∧ X w args) ∧ sizedMet enc C.prog fn (OpenSpec.ofChange s) apart w args) (s.post enc C.prog fn apart fresh handsOn again) := by
  refine returnsInHanded_of_calls own started noInit witness fun w tape i _ hsh _ hok hpre _ => ?_
  obtain ⟨_, _, _, fn', hfn', _, _, _, _, hval⟩ := hok
  cases Option.some.inj (hfn'.symm.trans hfn)
  obtain ⟨⟨⟨ds, gs, before, hw, _⟩, hx⟩, _⟩ := hpre
  have hw' := DataW.Whole.of_heap (w' := w.forCall tape i) (by rfl) hw
  have hx' := hX _ (w.forCall tape i) _ (by rfl) hx
  refine (contract (w.forCall tape i) w.heap.size i.args ds gs before hval hw' hsh hx').mono fun e W' ⟨v, he, hp⟩ => ?_
  subst he
  exact ChangeSpec.post_blind hp
end Go.Proofs.YtdhkdjlgmbejnaaGreatDoor
namespace Go.Proofs.YtdhkdjlgmbejnaaGreatDoor
open Go.ChangeShapes Go.WideShapes Go.ChangeAt Go.RowKit Go.Lib Go.Shelf

theorem Tryz.cellsFile : Tryz.prog.cellsOf 63 = 6 := by kernel_rfl

theorem list6 {α : Type} {l : List α} (h : l.length = 6) : ∃ a b c d e f, l = [a, b, c, d, e, f] := by
  match l, h with
  | [a, b, c, d, e, f], _ => exact ⟨a, b, c, d, e, f, rfl⟩

section
variable {H : Type} {enc : TypeId × Value → H} {W : World} {base : Nat} {spare : Nat → Bool} {held : Bool}

end
end Go.Proofs.YtdhkdjlgmbejnaaGreatDoor
