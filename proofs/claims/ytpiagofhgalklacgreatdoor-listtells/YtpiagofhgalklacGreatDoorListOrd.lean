/-
  The contracts of cmp.Or at two numbers, list.order and list.behind.
  The contract of list.Check.
  The contract of list.Text.
  The contract of list.place: a place is sought by halves.
  The contract of list.Find.
  The contracts of slices.Grow (of nothing) and slices.Concat, at files.
  The contract of list.Prune.
-/
import Derived.Test.YtpiagofhgalklacGreatDoorListMem
import Derived.Test.YtpiagofhgalklacGreatDoorFileText
import Derived.Test.YtpiagofhgalklacGreatDoorShelf
import Derived.BigQuiet
import Derived.Deep.RegionHeld3
import Derived.Deep.CutBlock
import Derived.Test.YtpiagofhgalklacGreatDoorRefList1
import Derived.Test.YtpiagofhgalklacGreatDoorDataMake
import Derived.Lib.AppendZerosOnto
namespace Go.Proofs.YtpiagofhgalklacGreatDoor
open Go.RowKit Go.Extern.Stop Go.Stop Go.Extern Go.Sort Go.Shelf Go.Lib

/-- What the package-level variables hold that the functions of package list read. -/
structure EnvL (w : World) (a : Nat → Addr) : Prop where
  file : EnvK w a
  miss : w.cell? ⟨2, 0, none⟩ = some (.iface 217 (.pointer (some (a 5))))
  exist : w.cell? ⟨1, 0, none⟩ = some (.iface 217 (.pointer (some (a 6))))
  full : w.cell? ⟨0, 0, none⟩ = some (.iface 217 (.pointer (some (a 7))))
  order : w.cell? ⟨7, 0, none⟩ = some (.iface 217 (.pointer (some (a 8))))

theorem EnvL.below {w w' : World} {a : Nat → Addr} (h : EnvL w a) (hb : Below w.heap.size w w') : EnvL w' a :=
  ⟨h.file.below hb, below_keep hb h.miss, below_keep hb h.exist, below_keep hb h.full, below_keep hb h.order⟩

def orI (x y : Int) : Int := if x = 0 then y else x

set_option maxRecDepth 100000 in
set_option maxHeartbeats 1000000 in
theorem cmpOr_any (x y : Int) (b : Nat) (w : World) (h0 : w.cell? ⟨b, 0, none⟩ = some (.int .i64 x)) (h1 : w.cell? ⟨b, 1, none⟩ = some (.int .i64 y)) :
    Calls Tryz.prog 111 #[.slice (some ⟨b, 0, none⟩) 2 2] w fun e w' => e = .returned (.int .i64 (orI x y)) ∧ w' = w := by
  go_enter Tryz.func111, Tryz.ntmps111
  go_wp2
  go_loopw [8] (fun k wr => ∃ n : Nat, n ≤ 2 ∧ k = .int .i64 n ∧ (1 ≤ n → x = 0) ∧ (2 ≤ n → y = 0) ∧ wr = w) (fun k _ => 2 - (intOf k).toNat)
  case atStart => exact ⟨0, by omega, rfl, fun h => absurd h (by omega), fun h => absurd h (by omega), rfl⟩
  case round =>
    obtain ⟨n, hn, rfl, hx, hy, rfl⟩ := hrel
    obtain rfl | rfl | rfl : n = 0 ∨ n = 1 ∨ n = 2 := by omega
    · clear hx hy
      by_cases hx : x = 0
      · subst hx
        go_wp2
        go_roundw
        case rel => exact ⟨1, by omega, by go_num, by simp, by simp, by first | rfl | trivial⟩
        case measure => simp [intOf]
      · have hb : (x == 0) = false := beq_eq_false_iff_ne.2 hx
        go_wp2
        go_ret
        exact ⟨by rw [orI, if_neg hx]; rfl, rfl⟩
    · obtain rfl := hx (by omega)
      clear hx hy
      by_cases hy : y = 0
      · subst hy
        go_wp2
        go_roundw
        case rel => exact ⟨2, by omega, by go_num, by simp, by simp, by first | rfl | trivial⟩
        case measure => simp [intOf]
      · have hb : (y == 0) = false := beq_eq_false_iff_ne.2 hy
        go_wp2
        go_ret
        exact ⟨rfl, rfl⟩
    · obtain rfl := hx (by omega)
      obtain rfl := hy (by omega)
      clear hx hy
      go_wp2
      go_ret
      exact ⟨rfl, rfl⟩

/-- The order of two paths, by their kinds and numbers. -/
theorem ord_pk {p q : List UInt8} {g k : Bool} {n m : Int} (hp : pathO p = some (g, n)) (hq : pathO q = some (k, m)) : orI (Lib.compareBytes (kindL g) (kindL k)) (Lib.compareInt n m) = Lib.compareInt (pk p) (pk q) := by
  obtain ⟨e1, a1, a2⟩ := pk_some hp
  obtain ⟨e2, b1, b2⟩ := pk_some hq
  rw [e1, e2]
  cases g <;> cases k
  · rfl
  · have : Lib.compareBytes (kindL false) (kindL true) = -1 := by decide
    rw [this]
    unfold Lib.compareInt orI
    rw [if_neg (by decide), if_pos (by simp; omega)]
  · have : Lib.compareBytes (kindL true) (kindL false) = 1 := by decide
    rw [this]
    unfold Lib.compareInt orI
    rw [if_neg (by decide), if_neg (by simp; omega), if_pos (by simp; omega)]
  · have : Lib.compareBytes (kindL true) (kindL true) = 0 := by decide
    rw [this]
    unfold Lib.compareInt orI
    simp only [if_true]
    congr 1
    · exact propext ⟨fun h => by omega, fun h => by omega⟩
    · congr 1
      exact propext ⟨fun h => by omega, fun h => by omega⟩

theorem cmpI_neg (x y : Int) : (0 ≤ Lib.compareInt x y) ↔ y ≤ x := by
  unfold Lib.compareInt
  split
  · constructor <;> intro h <;> omega
  · split <;> constructor <;> intro h <;> omega

theorem cmpI_lt (x y : Int) : (Lib.compareInt x y < 0) ↔ x < y := by
  have := cmpI_neg x y
  omega

theorem cmpI_zero (x y : Int) : (Lib.compareInt x y = 0) ↔ x = y := by
  unfold Lib.compareInt
  split
  · constructor <;> intro h <;> omega
  · split <;> constructor <;> intro h <;> omega

set_option maxRecDepth 100000 in
set_option maxHeartbeats 1000000 in
theorem lorder_any (p q : ByteArray) (w : World) (a : Nat → Addr) (h : EnvN w a) (hp : p.size ≤ 100000) (hq : q.size ≤ 100000) (hpo : pathO p.data.toList ≠ none) (hqo : pathO q.data.toList ≠ none) :
    Calls Tryz.prog 86 #[.string p, .string q] w fun e w' => e = .returned (.int .i64 (Lib.compareInt (pk p.data.toList) (pk q.data.toList))) ∧ Below w.heap.size w w' := by
  obtain ⟨⟨g, n⟩, hp1⟩ := Option.ne_none_iff_exists'.1 hpo
  obtain ⟨⟨k, m⟩, hq1⟩ := Option.ne_none_iff_exists'.1 hqo
  have ha := fnumber_n p w a h hp
  have hb := fun W (hW : EnvN W a) => fnumber_n q W a hW hq
  rw [pathR_some hp1] at ha
  rw [pathR_some hq1] at hb
  rw [← ord_pk hp1 hq1]
  have hs := fun W => Tryz.strings_Compare (bytesOf (kindL g)) (bytesOf (kindL k)) W
  rw [bytes_data, bytes_data] at hs
  have hc := fun W => Tryz.cmp_Compare_int n m W
  generalize Lib.compareBytes (kindL g) (kindL k) = X at hs ⊢
  generalize Lib.compareInt n m = Y at hc ⊢
  simp only [errV] at ha hb
  generalize bytesOf (kindL g) = KA at ha hs
  generalize bytesOf (kindL k) = KB at hb hs
  clear hp1 hq1 hpo hqo hp hq
  go_enter Tryz.func86, Tryz.ntmps86
  go_wp2_with fail
  refine ha.mono ?_
  rintro e w1 ⟨rfl, hb1⟩
  have hq1 := hb w1 (h.below hb1)
  clear ha hb
  go_wp2_with fail
  refine hq1.mono ?_
  rintro e w2 ⟨rfl, hb2⟩
  clear hq1
  have hB2 : Below w.heap.size w w2 := hb1.trans (hb2.mono hb1.size)
  clear hb1 hb2
  go_wp2_with fail
  refine (hs _).mono ?_
  rintro e w3 ⟨rfl, rfl⟩
  clear hs
  go_wp2_with fail
  refine (hc _).mono ?_
  rintro e w4 ⟨rfl, rfl⟩
  clear hc
  have hal : Below w4.heap.size w4 (w4.alloc (.cells #[.int .i64 X, .int .i64 Y] 3)) := (Below.refl _ _).alloc (Nat.le_refl _) _
  have hor := cmpOr_any X Y w4.heap.size (w4.alloc (.cells #[.int .i64 X, .int .i64 Y] 3)) (by simp) (by simp)
  go_wp2_with fail
  refine hor.mono ?_
  rintro e w5 ⟨rfl, rfl⟩
  clear hor
  go_wp2
  go_ret
  exact ⟨rfl, hB2.trans (hal.mono hB2.size)⟩

theorem last_of {β : Type} (acc : List β) (k : Nat) (d : β) (hk : acc.length = k + 1) (hkk : k < acc.length) : acc.getLastD d = acc[k] := by
  have hne : acc ≠ [] := fun e => by rw [e] at hk; simp at hk
  rw [List.getLastD_eq_getLast?, List.getLast?_eq_some_getLast hne, Option.getD_some, List.getLast_eq_getElem]
  congr 1
  omega

/-- .. and what reading a list wants. -/
structure EnvT (w : World) (a : Nat → Addr) : Prop where
  list : EnvL w a
  text : w.cell? ⟨4, 0, none⟩ = some (.iface 217 (.pointer (some (a 0))))

theorem EnvT.below {w w' : World} {a : Nat → Addr} (h : EnvT w a) (hb : Below w.heap.size w w') : EnvT w' a := ⟨h.list.below hb, below_keep hb h.text⟩

/-- What a file is told that stands behind others. -/
def behE (fs : List Fl) (f : Fl) : Nat := if fs ≠ [] ∧ fk f ≤ fk (fs.getLastD zeroF) then 9 else 0

set_option maxRecDepth 100000 in
set_option maxHeartbeats 2000000 in
theorem behind_any (v : Value) (fs : List Fl) (f : Fl) (w : World) (a : Nat → Addr) (h : EnvL w a) (hx : FlsAt w v fs) (hl : fs.length ≤ 100000) (hsz : ∀ g ∈ fs, g.1.size ≤ 100000 ∧ pathO g.1.data.toList ≠ none) (hf : f.1.size ≤ 100000) (hfo : pathO f.1.data.toList ≠ none) :
    Calls Tryz.prog 49 #[v, flV f] w fun e w' => e = .returned (errV a (behE fs f)) ∧ Below w.heap.size w w' := by
  obtain ⟨q, cap, rfl⟩ := hx.form
  have hal : Below w.heap.size w (w.alloc (.cells #[.string f.1, .string f.2.1, .int .i64 f.2.2.1, .int .i64 f.2.2.2.1, .int .i64 f.2.2.2.2.1, .int .i64 f.2.2.2.2.2] 24)) := (Below.refl _ _).alloc (Nat.le_refl _) _
  have hfl := FlAt.new w f
  unfold flV
  by_cases hne : fs = []
  · have hE : behE fs f = 0 := by unfold behE; rw [if_neg]; rintro ⟨h', _⟩; exact h' hne
    rw [hE]
    subst hne
    simp only [errV]
    have hd : decide ((((0 : Nat) : Int)) > 0) = false := by decide
    go_enter Tryz.func49, Tryz.ntmps49
    go_wp2
    all_goals
      go_quiet (fail)
      go_wp2
      go_ret
      exact ⟨rfl, below_drewN hal nq⟩
  · obtain ⟨b, o, rfl, hc⟩ := hx.cells hne
    obtain ⟨k, hk⟩ : ∃ k, fs.length = k + 1 := ⟨fs.length - 1, by have := List.length_pos_iff.2 hne; omega⟩
    have hkk : k < fs.length := by omega
    have hlast := last_of fs k zeroF hk hkk
    obtain ⟨gs, go⟩ := hsz fs[k] (List.getElem_mem _)
    have c0 := below_keep hal (hc k hkk).1
    have z0 := hfl.cells.1
    have HOD : Hid (∀ W, Below w.heap.size w W → Calls Tryz.prog 86 #[.string fs[k].1, .string f.1] W fun e w' => e = .returned (.int .i64 (Lib.compareInt (fk fs[k]) (fk f))) ∧ Below W.heap.size W w') := fun W hW => lorder_any fs[k].1 f.1 W a (h.below hW).file.env gs hf go hfo
    have HE : Hid (behE fs f = if fk f ≤ fk fs[k] then 9 else 0) := by
      show _ = _
      unfold behE
      rw [hlast]
      simp [hne]
    have hcm := cmpI_neg (fk fs[k]) (fk f)
    rw [HE.out, hk]
    have hk5 : k ≤ 100000 := by omega
    clear HE hlast gs go hsz hc hx hne hfo hl
    obtain ⟨fp, fq, fn, flo, fhi, fseq⟩ := f
    dsimp only at hal hfl hf z0 c0 HOD ⊢
    generalize fk (fp, fq, fn, flo, fhi, fseq) = KF at HOD hcm ⊢
    generalize fk fs[k] = KG at HOD hcm ⊢
    generalize fs[k].1 = gp at c0 HOD
    clear hkk hk
    generalize Lib.compareInt KG KF = C at HOD hcm
    have hi1 : (0 : Int) < (k : Int) + 1 := by omega
    have hi3 : (k : Int) < (k : Int) + 1 := by omega
    have hi4 : (0 : Int) ≤ (k : Int) := by omega
    have hi5 : IntKind.i64.wrap (k : Int) = (k : Int) := IntWalk.i64_in _ (by omega)
    have hd0 : decide ((k : Int) + 1 > 0) = true := decide_eq_true hi1
    by_cases hle : KF ≤ KG
    · have h0 : (0 : Int) ≤ C := hcm.2 hle
      rw [if_pos hle]
      simp only [errV]
      go_enter Tryz.func49, Tryz.ntmps49
      go_upto_region 1 with fail
      generalize w.alloc (.cells #[.string fp, .string fq, .int .i64 fn, .int .i64 flo, .int .i64 fhi, .int .i64 fseq] 24) = WA at hal hfl z0 c0 ⊢
      go_region_held3 (fun w' => w'.cell? ⟨b, o + k * 6, none⟩ = some (.string gp) ∧ w'.cell? ⟨w.heap.size, 0, none⟩ = some (.string fp) ∧ Below w.heap.size w w')
        (first
          | (go_split_ands; with_reducible exact ⟨below_keep hbX (by assumption), below_keep hbX (by assumption), Below.trans (by assumption) (hbX.mono (Below.size (by assumption)))⟩)
          | (go_split_ands; exact ⟨by go_keep, by go_keep, by assumption⟩)
          | (go_split_ands; exact ⟨by go_keep, by go_keep, Below.drew (by assumption)⟩))
        (first
          | (go_at_call 86; with_reducible refine (HOD.out _ (by go_split_ands; assumption)).mono ?_; rintro e wX ⟨rfl, hbX⟩))
      go_split_ands
      have hBX : Below w.heap.size w wX := by assumption
      have ho := (h.below hBX).order
      go_wp2
      go_ret
      exact ⟨rfl, hBX⟩
    · have h0 : ¬ (0 : Int) ≤ C := fun h' => hle (hcm.1 h')
      rw [if_neg hle]
      simp only [errV]
      go_enter Tryz.func49, Tryz.ntmps49
      go_upto_region 1 with fail
      generalize w.alloc (.cells #[.string fp, .string fq, .int .i64 fn, .int .i64 flo, .int .i64 fhi, .int .i64 fseq] 24) = WA at hal hfl z0 c0 ⊢
      go_region_held3 (fun w' => w'.cell? ⟨b, o + k * 6, none⟩ = some (.string gp) ∧ w'.cell? ⟨w.heap.size, 0, none⟩ = some (.string fp) ∧ Below w.heap.size w w')
        (first
          | (go_split_ands; with_reducible exact ⟨below_keep hbX (by assumption), below_keep hbX (by assumption), Below.trans (by assumption) (hbX.mono (Below.size (by assumption)))⟩)
          | (go_split_ands; exact ⟨by go_keep, by go_keep, by assumption⟩)
          | (go_split_ands; exact ⟨by go_keep, by go_keep, Below.drew (by assumption)⟩))
        (first
          | (go_at_call 86; with_reducible refine (HOD.out _ (by go_split_ands; assumption)).mono ?_; rintro e wX ⟨rfl, hbX⟩))
      go_split_ands
      have hBX : Below w.heap.size w wX := by assumption
      go_wp2
      go_ret
      exact ⟨rfl, hBX⟩
end Go.Proofs.YtpiagofhgalklacGreatDoor
namespace Go.Proofs.YtpiagofhgalklacGreatDoor
open Go.RowKit Go.Extern.Stop Go.Stop Go.Extern Go.Sort Go.Shelf Go.Lib

theorem beh_ahead {fs : List Fl} {n : Nat} (hn : n < fs.length) (he : fileE fs[n] = 0) : behE (fs.take n) fs[n] = if fk fs[n] ≤ ahead fs n then 9 else 0 := by
  unfold behE
  cases n with
  | zero =>
    have := fk_pos he
    rw [if_neg (by simp), if_neg]
    show ¬ fk fs[0] ≤ 0
    omega
  | succ m =>
    have hm : m < fs.length := by omega
    have hl : (fs.take (m + 1)).length = m + 1 := by rw [List.length_take]; omega
    rw [last_of (fs.take (m + 1)) m zeroF hl (by omega), ahead_succ hm, List.getElem_take]
    have hne : fs.take (m + 1) ≠ [] := fun e => by rw [e] at hl; simp at hl
    simp [hne]

set_option maxRecDepth 100000 in
set_option maxHeartbeats 8000000 in
theorem lcheck_any (v : Value) (fs : List Fl) (w : World) (a : Nat → Addr) (h : EnvL w a) (hx : FlsAt w v fs) (hl : fs.length ≤ 100) (hsz : Short fs) :
    Calls Tryz.prog 13 #[v] w fun e w' => ∃ ev, e = .returned ev ∧ ToldE w' a ev (listE fs) ∧ Below w.heap.size w w' := by
  obtain ⟨q, cap, rfl⟩ := hx.form
  have HFX : Hid (FlsAt w (.slice q fs.length cap) fs) := hx
  have HSZ : Hid (Short fs) := hsz
  have HEN : Hid (∀ W, Below w.heap.size w W → EnvL W a) := fun W hb => h.below hb
  obtain ⟨L, hL⟩ : ∃ L, fs.length = L := ⟨_, rfl⟩
  have HX : Hid (fs.length = L) := hL
  rw [hL] at hl ⊢
  generalize hR : listE fs = R
  have HR : Hid (listE fs = R) := hR
  clear hL hx hsz hR
  by_cases hbig : 60 < L
  · have hRR : R = (8, none) := by rw [← HR.out]; unfold listE; rw [if_pos (by rw [HX.out]; exact hbig)]
    subst hRR
    have hi : (60 : Int) < (L : Int) := by omega
    have hf := h.full
    go_enter Tryz.func13, Tryz.ntmps13
    go_wp2
    go_ret
    exact ⟨_, rfl, rfl, Below.refl _ _⟩
  · have HRR : Hid (R = lstG 0 fs 0) := by
      show _ = _
      rw [← HR.out]; unfold listE; rw [if_neg (by rw [HX.out]; exact hbig)]
    have hi : ¬ (60 : Int) < (L : Int) := by omega
    clear HR
    go_enter Tryz.func13, Tryz.ntmps13
    go_wp2
    go_loopw [12] (fun k wr => ∃ n : Nat, n ≤ L ∧ k = .int .i64 n ∧ LeftG fs n ∧ (∀ j (h : j < fs.length), j < n → fileE fs[j] = 0) ∧ Below w.heap.size w wr) (fun k _ => L - (intOf k).toNat)
    case atStart => exact ⟨0, by omega, rfl, left_zero fs, fun j h h' => absurd h' (Nat.not_lt_zero _), Below.refl _ _⟩
    case round =>
      obtain ⟨n, hn, rfl, hlg, hall, hb⟩ := hrel
      have HLG : Hid (LeftG fs n) := hlg
      have HAL : Hid (∀ j (h : j < fs.length), j < n → fileE fs[j] = 0) := hall
      clear hlg hall
      by_cases hlt : n < L
      · have hltx : n < fs.length := by rw [HX.out]; exact hlt
        have hcap : n ≤ cap ∧ L ≤ cap := by
          have := HFX.out.room.2 (fun e => by rw [e] at hltx; simp at hltx)
          rw [HX.out] at this
          omega
        obtain ⟨b, o, hq, hc⟩ := (HFX.out.below hb).cells (fun e => by rw [e] at hltx; simp at hltx)
        subst hq
        have HC : Hid (FlCells wr b o fs) := hc
        obtain ⟨c0, c1, c2, c3, c4, c5⟩ := hc n hltx
        obtain ⟨k1, k2⟩ := HSZ.out fs[n] (List.getElem_mem _)
        have hck := fun W (hW : EnvL W a) => fcheck_any fs[n] W a hW.file (by omega) (by omega)
        have hbad := fun e => left_bad HLG.out hltx e
        have hord := fun e o => left_order HLG.out hltx e o
        have hnxt := fun e o => left_succ HLG.out hltx e o
        have hbeh : fileE fs[n] = 0 → ∀ W, Below wr.heap.size wr W → Calls Tryz.prog 49 #[.slice (some ⟨b, o, none⟩) n cap, flV fs[n]] W fun e w' => e = .returned (errV a (if fk fs[n] ≤ ahead fs n then 9 else 0)) ∧ Below W.heap.size W w' := fun he W hW => by
          have h' := behind_any (.slice (some ⟨b, o, none⟩) n cap) (fs.take n) fs[n] W a (HEN.out W (hb.trans (hW.mono hb.size))) (flsAt_take (HC.out.below hW) (Nat.le_of_lt hltx) (by rw [HX.out]; exact hcap.2)) (by rw [List.length_take]; omega) (fun g hg => by
            obtain ⟨j, hj, rfl⟩ := List.mem_iff_getElem.1 hg
            rw [List.length_take] at hj
            rw [List.getElem_take]
            exact ⟨by have := (HSZ.out fs[j] (List.getElem_mem _)).1; omega, ok_path (HAL.out j (by omega) (by omega))⟩) (by omega) (ok_path he)
          rw [beh_ahead hltx he] at h'
          exact h'
        have HAN : Hid (fileE fs[n] = 0 → ∀ j (h : j < fs.length), j < n + 1 → fileE fs[j] = 0) := fun he j hj hjn => by
          by_cases e : j = n
          · subst e; exact he
          · exact HAL.out j hj (by omega)
        unfold flV at hck hbeh
        generalize fileE fs[n] = E at hck hbad hord hnxt hbeh HAN
        generalize fk fs[n] = Z at hord hnxt hbeh
        generalize ahead fs n = Y at hord hnxt hbeh
        generalize fs[n] = f at c0 c1 c2 c3 c4 c5 hck hbeh k1 k2
        have hfb := boxW_at wr f
        have hbb := boxW_below wr f
        unfold boxW at hfb hbb
        obtain ⟨fp, fq, fn, flo, fhi, fseq⟩ := f
        dsimp only at c0 c1 c2 c3 c4 c5 hck hbeh k1 k2 hfb hbb
        have hiL : (n : Int) < (L : Int) := by omega
        have hi0' : (0 : Int) ≤ (n : Int) := by omega
        have hic : (n : Int) ≤ (cap : Int) := by omega
        clear hc hltx HC
        go_upto_region 6 with fail
        clear c0 c1 c2 c3 c4 c5
        generalize wr.alloc (.cells #[.string fp, .string fq, .int .i64 fn, .int .i64 flo, .int .i64 fhi, .int .i64 fseq] 24) = W5 at hfb hbb ⊢
        have hB5 : Below w.heap.size w W5 := hb.trans (hbb.mono hb.size)
        obtain ⟨z0, z1, z2, z3, z4, z5, -⟩ := hfb.cells
        dsimp only at z0 z1 z2 z3 z4 z5
        have hck5 := hck W5 (HEN.out W5 hB5)
        clear hck
        go_wp2_with fail
        refine hck5.mono ?_
        rintro e w6 ⟨rfl, hb6⟩
        clear hck5 z0 z1 z2 z3 z4 z5
        have hB6 : Below w.heap.size w w6 := hB5.trans (hb6.mono hB5.size)
        have hw6 : Below wr.heap.size wr w6 := hbb.trans (hb6.mono hbb.size)
        by_cases hE : E = 0
        · subst hE
          replace hord := hord rfl
          replace hnxt := hnxt rfl
          have hbe := hbeh rfl
          have HA1 : Hid (∀ j (h : j < fs.length), j < n + 1 → fileE fs[j] = 0) := HAN.out rfl
          obtain ⟨z0, z1, z2, z3, z4, z5, -⟩ := (hfb.below hb6).cells
          dsimp only at z0 z1 z2 z3 z4 z5
          clear hbad hbeh HAN hfb hbb hb6 hB5
          by_cases ho : Z ≤ Y
          · rw [if_pos ho] at hbe
            have HRE : Hid (R = (9, some n)) := by rw [HRR.out]; exact hord ho
            have HBE : Hid (∀ W, Below wr.heap.size wr W → Calls Tryz.prog 49 #[.slice (some ⟨b, o, none⟩) n cap, .agg #[.string fp, .string fq, .int .i64 fn, .int .i64 flo, .int .i64 fhi, .int .i64 fseq]] W fun e w' => e = .returned (errV a 9) ∧ Below W.heap.size W w') := hbe
            clear hbe hord hnxt
            simp only [errV]
            go_upto_region 8 with fail
            go_region_held3 (fun w' => w'.cell? ⟨wr.heap.size, 0, none⟩ = some (.string fp) ∧ w'.cell? ⟨wr.heap.size, 1, none⟩ = some (.string fq) ∧ w'.cell? ⟨wr.heap.size, 2, none⟩ = some (.int .i64 fn) ∧ w'.cell? ⟨wr.heap.size, 3, none⟩ = some (.int .i64 flo) ∧ w'.cell? ⟨wr.heap.size, 4, none⟩ = some (.int .i64 fhi) ∧ w'.cell? ⟨wr.heap.size, 5, none⟩ = some (.int .i64 fseq) ∧ Below wr.heap.size wr w')
              (first
                | (go_split_ands; with_reducible exact ⟨below_keep hbX (by assumption), below_keep hbX (by assumption), below_keep hbX (by assumption), below_keep hbX (by assumption), below_keep hbX (by assumption), below_keep hbX (by assumption), Below.trans (by assumption) (hbX.mono (Below.size (by assumption)))⟩)
                | (go_split_ands; exact ⟨by go_keep, by go_keep, by go_keep, by go_keep, by go_keep, by go_keep, by assumption⟩)
                | (go_split_ands; exact ⟨by go_keep, by go_keep, by go_keep, by go_keep, by go_keep, by go_keep, Below.drew (by assumption)⟩))
              (first
                | (go_at_call 49; with_reducible refine (HBE.out _ (by go_split_ands; assumption)).mono ?_; rintro e wX ⟨rfl, hbX⟩))
            go_split_ands
            have hX : Below wr.heap.size wr wX := by assumption
            have hBX : Below w.heap.size w wX := hb.trans (hX.mono hb.size)
            try simp only [errV]
            have hal : Below wX.heap.size wX (wX.alloc (.cells #[.int .i64 n, .iface 217 (.pointer (some (a 8)))] 87)) := (Below.refl _ _).alloc (Nat.le_refl _) _
            go_wp2
            go_ret
            refine ⟨_, rfl, ?_, hBX.trans (hal.mono hBX.size)⟩
            rw [HRE.out]
            exact ⟨by simp, wX.heap.size, rfl, by simp, by simp [errV]⟩
          · rw [if_neg ho] at hbe
            have HNX : Hid (LeftG fs (n + 1)) := hnxt (by omega)
            have HBE : Hid (∀ W, Below wr.heap.size wr W → Calls Tryz.prog 49 #[.slice (some ⟨b, o, none⟩) n cap, .agg #[.string fp, .string fq, .int .i64 fn, .int .i64 flo, .int .i64 fhi, .int .i64 fseq]] W fun e w' => e = .returned (errV a 0) ∧ Below W.heap.size W w') := hbe
            clear hbe hord hnxt
            simp only [errV]
            go_upto_region 8 with fail
            go_region_held3 (fun w' => w'.cell? ⟨wr.heap.size, 0, none⟩ = some (.string fp) ∧ w'.cell? ⟨wr.heap.size, 1, none⟩ = some (.string fq) ∧ w'.cell? ⟨wr.heap.size, 2, none⟩ = some (.int .i64 fn) ∧ w'.cell? ⟨wr.heap.size, 3, none⟩ = some (.int .i64 flo) ∧ w'.cell? ⟨wr.heap.size, 4, none⟩ = some (.int .i64 fhi) ∧ w'.cell? ⟨wr.heap.size, 5, none⟩ = some (.int .i64 fseq) ∧ Below wr.heap.size wr w')
              (first
                | (go_split_ands; with_reducible exact ⟨below_keep hbX (by assumption), below_keep hbX (by assumption), below_keep hbX (by assumption), below_keep hbX (by assumption), below_keep hbX (by assumption), below_keep hbX (by assumption), Below.trans (by assumption) (hbX.mono (Below.size (by assumption)))⟩)
                | (go_split_ands; exact ⟨by go_keep, by go_keep, by go_keep, by go_keep, by go_keep, by go_keep, by assumption⟩)
                | (go_split_ands; exact ⟨by go_keep, by go_keep, by go_keep, by go_keep, by go_keep, by go_keep, Below.drew (by assumption)⟩))
              (first
                | (go_at_call 49; with_reducible refine (HBE.out _ (by go_split_ands; assumption)).mono ?_; rintro e wX ⟨rfl, hbX⟩))
            go_split_ands
            have hX : Below wr.heap.size wr wX := by assumption
            have hBX : Below w.heap.size w wX := hb.trans (hX.mono hb.size)
            try simp only [errV]
            go_wp2
            go_roundw
            case rel => exact ⟨n + 1, by omega, by go_num, HNX.out, HA1.out, hBX⟩
            case measure => simp [intOf]; omega
        · obtain ⟨j, rfl⟩ : ∃ j, E = j + 1 := ⟨E - 1, by omega⟩
          have HRE : Hid (R = (j + 1, some n)) := by rw [HRR.out]; exact hbad hE
          simp only [errV]
          clear hbad hord hnxt hbeh HAN hfb hbb hb6 hB5 hw6
          have hal : Below w6.heap.size w6 (w6.alloc (.cells #[.int .i64 n, .iface 217 (.pointer (some (a j)))] 87)) := (Below.refl _ _).alloc (Nat.le_refl _) _
          go_wp2
          go_ret
          refine ⟨_, rfl, ?_, hB6.trans (hal.mono hB6.size)⟩
          rw [HRE.out]
          exact ⟨by simp, w6.heap.size, rfl, by simp, by simp [errV]⟩
      · obtain rfl : n = L := by omega
        have HRE : Hid (R = (0, none)) := by
          show _ = _
          rw [HRR.out]
          have h' := HLG.out
          rw [← HX.out] at h'
          exact left_all h'
        go_wp2
        go_ret
        refine ⟨_, rfl, ?_, hb⟩
        rw [HRE.out]
        rfl
end Go.Proofs.YtpiagofhgalklacGreatDoor
namespace Go.Proofs.YtpiagofhgalklacGreatDoor
open Go.RowKit Go.Extern.Stop Go.Stop Go.Extern Go.Sort Go.Shelf Go.Lib

set_option maxRecDepth 100000 in
set_option maxHeartbeats 8000000 in
theorem ltext_any (v : Value) (fs : List Fl) (w : World) (a : Nat → Addr) (h : EnvL w a) (hx : FlsAt w v fs) (hl : fs.length ≤ 100) (hsz : Short fs) :
    Calls Tryz.prog 11 #[v] w fun e w' => ∃ ev, e = .returned (.tuple #[.string (if (listE fs).1 = 0 then bytesOf (listL fs) else ⟨#[]⟩), ev]) ∧ ToldE w' a ev (listE fs) ∧ Below w.heap.size w w' := by
  obtain ⟨q, cap, rfl⟩ := hx.form
  have hck := lcheck_any (.slice q fs.length cap) fs w a h hx hl hsz
  have HFX : Hid (FlsAt w (.slice q fs.length cap) fs) := hx
  have HSZ : Hid (Short fs) := hsz
  have HEN : Hid (∀ W, Below w.heap.size w W → EnvL W a) := fun W hb => h.below hb
  obtain ⟨L, hL⟩ : ∃ L, fs.length = L := ⟨_, rfl⟩
  have HX : Hid (fs.length = L) := hL
  rw [hL] at hl hck ⊢
  clear hL hx hsz
  by_cases hok : (listE fs).1 = 0
  · rw [if_pos hok]
    have HOK : Hid (∀ f ∈ fs, fileE f = 0) := fun f hf => ((listE_ok.1 hok).2.1 f hf).1
    have HRE : Hid ((listE fs).1 = 0) := hok
    generalize hR : listE fs = R at hck ⊢
    have HR : Hid (R.1 = 0) := by show _ = _; rw [← hR]; exact hok
    clear hR hok
    obtain ⟨TT, hTT⟩ : ∃ TT, bytesOf (listL fs) = TT := ⟨_, rfl⟩
    have HTT : Hid (bytesOf (listL fs) = TT) := hTT
    rw [hTT]
    clear hTT
    go_enter Tryz.func11, Tryz.ntmps11
    go_wp2_with fail
    refine hck.mono ?_
    rintro e w1 ⟨ev, rfl, ht, hb1⟩
    clear hck
    obtain rfl := ht.ok HR.out
    have HT0 : Hid (∀ W, ToldE W a .nilIface R) := fun W => by
      obtain ⟨n, o⟩ := R
      have h0 : n = 0 := HR.out
      subst h0
      cases o with
      | none => rfl
      | some j => exact absurd rfl ht.1
    clear ht
    have hbn : w1.heap.size ≤ w1.heap.size := Nat.le_refl _
    have hal : Below w1.heap.size w1 (w1.alloc (.cells #[.pointer none, .slice none 0 0] 77)) := (Below.refl _ _).alloc (Nat.le_refl _) _
    have hBl : Below w.heap.size w (w1.alloc (.cells #[.pointer none, .slice none 0 0] 77)) := hb1.trans (hal.mono hb1.size)
    have hbld : Lib.IsBuilder 77 5 w1.heap.size w1.heap.size (Lib.byteCells (listL ([] : List Fl))) (w1.alloc (.cells #[.pointer none, .slice none 0 0] 77)) :=
      Or.inl ⟨Nat.le_refl _, .slice none 0 0, heap_alloc_new _ _, World.ownsRow_nil _ _ _ _, by simp [Value.ownBlock]⟩
    have hw1 := hb1.size
    go_wp2
    generalize w1.heap.size = B at hbld hw1 ⊢
    go_loopw [15] (fun k wr => ∃ n : Nat, n ≤ L ∧ k = .int .i64 n ∧ Below w.heap.size w wr ∧ B < wr.heap.size ∧ Lib.IsBuilder 77 5 B B (Lib.byteCells (listL (fs.take n))) wr) (fun k _ => L - (intOf k).toNat)
    case atStart => exact ⟨0, by omega, rfl, hBl, by rcases hbld with hB | hB <;> exact hB.lt, by simpa using hbld⟩
    case round =>
      clear hal hbld hBl
      obtain ⟨n, hn, rfl, hb, hBr, hB⟩ := hrel
      by_cases hlt : n < L
      · have hltx : n < fs.length := by rw [HX.out]; exact hlt
        obtain ⟨b, o, hq, hc⟩ := (HFX.out.below hb).cells (fun e => by rw [e] at hltx; simp at hltx)
        subst hq
        obtain ⟨c0, c1, c2, c3, c4, c5⟩ := hc n hltx
        obtain ⟨k1, k2⟩ := HSZ.out fs[n] (List.getElem_mem _)
        have k0 := HOK.out fs[n] (List.getElem_mem _)
        have htx := fun W (hW : EnvL W a) => ftext_any fs[n] W a hW.file (by omega) (by omega)
        have hfb' : fileB fs[n] = bytesOf (fileL fs[n]) := by unfold fileB; rw [if_pos k0]
        have hfl := fl_len k0
        have hln := listL_len (fs.take n) (fun f hf => by
          have hm := List.mem_of_mem_take hf
          have := HSZ.out f hm
          exact ⟨HOK.out f hm, by omega, by omega⟩)
        rw [List.length_take] at hln
        have hlen : (Lib.byteCells (listL (fs.take n))).length ≤ 30000 := by rw [Lib.byteCells_length]; omega
        have hsf : (bytesOf (fileL fs[n])).size ≤ 300 := by rw [bytes_len]; omega
        have HTB : Hid ((bytesOf (fileL fs[n])).data.toList = fileL fs[n]) := by show _ = _; simp [bytesOf]
        have HT : Hid (listL (fs.take (n + 1)) = listL (fs.take n) ++ (fileL fs[n] ++ [10])) := listL_take fs n hltx
        rw [hfb'] at htx
        generalize listL (fs.take n) = acc at hB HT hlen
        generalize bytesOf (fileL fs[n]) = tb at htx HTB hsf
        generalize fileL fs[n] = tl at HTB HT
        unfold flV at htx
        generalize fs[n] = f at c0 c1 c2 c3 c4 c5 htx
        have hfb := boxW_at wr f
        have hbb := boxW_below wr f
        unfold boxW at hfb hbb
        obtain ⟨fp, fq, fn, flo, fhi, fseq⟩ := f
        dsimp only at c0 c1 c2 c3 c4 c5 htx hfb hbb
        have hiL : (n : Int) < (L : Int) := by omega
        have hi0' : (0 : Int) ≤ (n : Int) := by omega
        clear hc hltx hln hfl hfb' k0 k1 k2
        go_upto_region 8 with fail
        clear c0 c1 c2 c3 c4 c5
        generalize wr.alloc (.cells #[.string fp, .string fq, .int .i64 fn, .int .i64 flo, .int .i64 fhi, .int .i64 fseq] 24) = W5 at hfb hbb ⊢
        have hB5 : Below w.heap.size w W5 := hb.trans (hbb.mono hb.size)
        obtain ⟨z0, z1, z2, z3, z4, z5, -⟩ := hfb.cells
        dsimp only at z0 z1 z2 z3 z4 z5
        have htx5 := htx W5 (HEN.out W5 hB5)
        clear htx
        go_wp2_with fail
        refine htx5.mono ?_
        rintro e w6 ⟨rfl, hb6⟩
        clear htx5 z0 z1 z2 z3 z4 z5 hfb
        have hB6 : Below w.heap.size w w6 := hB5.trans (hb6.mono hB5.size)
        have hw6 : Below wr.heap.size wr w6 := hbb.trans (hb6.mono hbb.size)
        have hBu := isBuilder_below hB hw6
        have hs6 : B < w6.heap.size := Nat.lt_of_lt_of_le hBr hw6.size
        clear hB hbb hb6 hB5
        have hws := writeString_any B B _ tb w6 hBu (by omega) (Nat.le_of_lt hs6)
        clear hBu
        go_wp2_with fail
        refine hws.mono ?_
        rintro e w7 ⟨rfl, hB7, hb7⟩
        clear hws
        have hBB7 : Below w.heap.size w w7 := hB6.trans (hb7.mono hw1)
        have hs7 : B < w7.heap.size := Nat.lt_of_lt_of_le hs6 hb7.size
        have hws := writeString_any B B _ ⟨#[10]⟩ w7 (Or.inr hB7) (by rw [List.length_append, Lib.strCells_length]; have : (⟨#[10]⟩ : ByteArray).size = 1 := rfl; omega) (Nat.le_of_lt hs7)
        clear hB7
        go_wp2_with fail
        refine hws.mono ?_
        rintro e w8 ⟨rfl, hB8, hb8⟩
        clear hws
        have hBB8 : Below w.heap.size w w8 := hBB7.trans (hb8.mono hw1)
        have hs8 : B < w8.heap.size := Nat.lt_of_lt_of_le hs7 hb8.size
        have HB8 : Hid (Lib.IsBuilder 77 5 B B (Lib.byteCells (listL (fs.take (n + 1)))) w8) := by
          show Lib.IsBuilder _ _ _ _ _ _
          rw [HT.out, Lib.byteCells_append, Lib.byteCells_append, ← HTB.out, ← List.append_assoc]
          exact Or.inr hB8
        clear hB8
        go_wp2
        go_roundw
        case rel => exact ⟨n + 1, by omega, by go_num, hBB8, hs8, HB8.out⟩
        case measure => simp [intOf]; omega
      · obtain rfl : n = L := by omega
        have hta : fs.take n = fs := List.take_of_length_le (by rw [HX.out]; exact Nat.le_refl _)
        rw [hta] at hB
        have hst := Tryz.Builder_String_any B B (listL fs) wr hB (Nat.le_of_lt hBr)
        have eS : (⟨(listL fs).toArray⟩ : ByteArray) = bytesOf (listL fs) := rfl
        rw [eS, HTT.out] at hst
        clear hta hB eS
        go_wp2_with fail
        refine hst.mono ?_
        rintro e w2 ⟨rfl, hb2⟩
        clear hst
        go_wp2
        go_ret2
        exact ⟨_, rfl, HT0.out _, hb.trans (hb2.mono hw1)⟩
  · rw [if_neg hok]
    generalize listE fs = R at hck hok ⊢
    go_enter Tryz.func11, Tryz.ntmps11
    go_wp2_with fail
    refine hck.mono ?_
    rintro e w1 ⟨ev, rfl, ht, hb1⟩
    clear hck
    obtain ⟨t, u, rfl⟩ := ht.bad hok
    have HTT : Hid (ToldE w1 a (.iface t u) R) := ht
    clear ht
    go_wp2
    go_ret2
    exact ⟨_, rfl, HTT.out, hb1⟩
end Go.Proofs.YtpiagofhgalklacGreatDoor
namespace Go.Proofs.YtpiagofhgalklacGreatDoor
open Go.RowKit Go.Extern.Stop Go.Stop Go.Extern Go.Sort Go.Shelf Go.Lib

set_option maxRecDepth 100000 in
set_option maxHeartbeats 1000000 in
theorem place1_any (f : Fl) (p : ByteArray) (w : World) (a : Nat → Addr) (h : EnvN w a) (hf : f.1.size ≤ 100000) (hp : p.size ≤ 100000) (hfo : pathO f.1.data.toList ≠ none) (hpo : pathO p.data.toList ≠ none) :
    Calls Tryz.prog 93 #[flV f, .string p] w fun e w' => e = .returned (.int .i64 (Lib.compareInt (fk f) (pk p.data.toList))) ∧ Below w.heap.size w w' := by
  have hal : Below w.heap.size w (w.alloc (.cells #[.string f.1, .string f.2.1, .int .i64 f.2.2.1, .int .i64 f.2.2.2.1, .int .i64 f.2.2.2.2.1, .int .i64 f.2.2.2.2.2] 24)) := (Below.refl _ _).alloc (Nat.le_refl _) _
  have z0 := (FlAt.new w f).cells.1
  have hod : Calls Tryz.prog 86 #[.string f.1, .string p] _ fun e w' => e = .returned (.int .i64 (Lib.compareInt (fk f) (pk p.data.toList))) ∧ Below _ _ w' := lorder_any f.1 p _ a (h.below hal) hf hp hfo hpo
  generalize Lib.compareInt (fk f) (pk p.data.toList) = C at hod ⊢
  unfold flV
  obtain ⟨fp, fq, fn, flo, fhi, fseq⟩ := f
  dsimp only at hal z0 hod ⊢
  clear hf hp hfo hpo
  go_enter Tryz.func93, Tryz.ntmps93
  go_upto_region 1 with fail
  generalize w.alloc (.cells #[.string fp, .string fq, .int .i64 fn, .int .i64 flo, .int .i64 fhi, .int .i64 fseq] 24) = WA at hal z0 hod ⊢
  go_wp2_with fail
  refine hod.mono ?_
  rintro e w1 ⟨rfl, hb1⟩
  clear hod
  go_wp2
  go_ret
  exact ⟨rfl, hal.trans (hb1.mono hal.size)⟩

/-- Where a place is among files that rise: the files ahead, and whether it is taken. -/
def PlaceAt (fs : List Fl) (z : Int) (n : Nat) (t : Bool) : Prop := n ≤ fs.length ∧ (∀ j (h : j < fs.length), j < n → fk fs[j] < z) ∧ (∀ j (h : j < fs.length), n ≤ j → z ≤ fk fs[j]) ∧ (t = true ↔ ∃ h : n < fs.length, fk fs[n] = z)

/-- What is handed back. -/
def PlacePost (fs : List Fl) (z : Int) (W : World) (e : Ending) (w' : World) : Prop := ∃ (n : Nat) (t : Bool), e = .returned (.tuple #[.int .i64 n, .bool t]) ∧ PlaceAt fs z n t ∧ Below W.heap.size W w'

set_option maxRecDepth 100000 in
set_option maxHeartbeats 8000000 in
theorem searchF_any (v : Value) (fs : List Fl) (p : ByteArray) (w : World) (a : Nat → Addr) (h : EnvN w a) (hx : FlsAt w v fs) (hl : fs.length ≤ 20000) (hr : fs.Pairwise fun f g => fk f < fk g) (hsz : ∀ g ∈ fs, g.1.size ≤ 100000 ∧ pathO g.1.data.toList ≠ none) (hp : p.size ≤ 100000) (hpo : pathO p.data.toList ≠ none) :
    Calls Tryz.prog 92 #[v, .string p, .func (.func 93) #[] #[]] w (PlacePost fs (pk p.data.toList) w) := by
  have eg : ∀ args w, (callFunc 93 args).run Tryz.prog w = .ok (.enter 93 args) w := enters_of Tryz.func93 (by kernel_rfl) rfl
  obtain ⟨q, cap, rfl⟩ := hx.form
  have HFX : Hid (FlsAt w (.slice q fs.length cap) fs) := hx
  have HCM : Hid (∀ W, Below w.heap.size w W → ∀ j (hj : j < fs.length), Calls Tryz.prog 93 #[flV fs[j], .string p] W fun e w' => e = .returned (.int .i64 (Lib.compareInt (fk fs[j]) (pk p.data.toList))) ∧ Below W.heap.size W w') := fun W hb j hj => place1_any fs[j] p W a (h.below hb) (hsz _ (List.getElem_mem _)).1 hp (hsz _ (List.getElem_mem _)).2 hpo
  have HPW : Hid (fs.Pairwise fun f g => fk f < fk g) := hr
  obtain ⟨L, hL⟩ : ∃ L, fs.length = L := ⟨_, rfl⟩
  have HX : Hid (fs.length = L) := hL
  rw [hL] at hl ⊢
  generalize pk p.data.toList = Z at HCM ⊢
  clear hL hx hr hsz hp hpo h
  have HLT : Hid (∀ i j (hi : i < fs.length) (hj : j < fs.length), i < j → fk fs[i] < fk fs[j]) := fun i j hi hj hij => List.pairwise_iff_getElem.1 HPW.out i j hi hj hij
  clear HPW
  go_enter Tryz.func92, Tryz.ntmps92
  go_wp2
  go_loopw [9, 10] (fun s9 s10 wr => ∃ lo hi : Nat, s9 = .int .i64 lo ∧ s10 = .int .i64 hi ∧ lo ≤ hi ∧ hi ≤ L ∧ (∀ j (h : j < fs.length), j < lo → fk fs[j] < Z) ∧ (∀ j (h : j < fs.length), hi ≤ j → Z ≤ fk fs[j]) ∧ Below w.heap.size w wr) (fun s9 s10 _ => (intOf s10).toNat - (intOf s9).toNat)
  case atStart => exact ⟨0, L, rfl, rfl, Nat.zero_le _, Nat.le_refl _, fun j h h' => absurd h' (Nat.not_lt_zero _), fun j h h' => by rw [HX.out] at h; omega, Below.refl _ _⟩
  case round =>
    obtain ⟨lo, hi, rfl, rfl, hlh, hhL, hlow, hhigh, hb⟩ := hrel
    have HLO : Hid (∀ j (h : j < fs.length), j < lo → fk fs[j] < Z) := hlow
    have HHI : Hid (∀ j (h : j < fs.length), hi ≤ j → Z ≤ fk fs[j]) := hhigh
    clear hlow hhigh
    by_cases hlt : lo < hi
    · obtain ⟨m, hm⟩ : ∃ m, (lo + hi) / 2 = m := ⟨_, rfl⟩
      have hm1 : lo ≤ m ∧ m < hi := by omega
      have hmi : ((lo : Int) + (hi : Int)) / 2 = (m : Int) := by omega
      have hmx : m < fs.length := by rw [HX.out]; omega
      obtain ⟨b, o, hq, hc⟩ := (HFX.out.below hb).cells (fun e => by rw [e] at hmx; simp at hmx)
      subst hq
      obtain ⟨c0, c1, c2, c3, c4, c5⟩ := hc m hmx
      have hcl := HCM.out wr hb m hmx
      have hcm := cmpI_lt (fk fs[m]) Z
      have HUP : Hid (fk fs[m] < Z → ∀ j (h : j < fs.length), j < m + 1 → fk fs[j] < Z) := fun e j hj hjm => by
        by_cases e' : j = m
        · subst e'; exact e
        · have := HLT.out j m hj hmx (by omega)
          omega
      have HDN : Hid (¬ fk fs[m] < Z → ∀ j (h : j < fs.length), m ≤ j → Z ≤ fk fs[j]) := fun e j hj hjm => by
        by_cases e' : j = m
        · subst e'; omega
        · have := HLT.out m j hmx hj (by omega)
          omega
      generalize fk fs[m] = ZM at hcl hcm HUP HDN
      generalize Lib.compareInt ZM Z = C at hcl hcm
      unfold flV at hcl
      generalize fs[m] = f at c0 c1 c2 c3 c4 c5 hcl
      obtain ⟨fp, fq, fn, flo, fhi, fseq⟩ := f
      dsimp only at c0 c1 c2 c3 c4 c5 hcl
      have i0 : (m : Int) < (L : Int) := by omega
      have i1 : (0 : Int) ≤ (m : Int) := by omega
      have i2 : (lo : Int) < (hi : Int) := by omega
      clear hc hmx
      by_cases hz : ZM < Z
      · have hC : C < 0 := hcm.2 hz
        have HU : Hid (∀ j (h : j < fs.length), j < m + 1 → fk fs[j] < Z) := HUP.out hz
        clear HUP HDN hcm
        go_wp2_with (go_at_fn 93; refine hcl.mono ?_; rintro e w2 ⟨rfl, hb2⟩)
        have hb3 : Below w.heap.size w w2 := hb.trans (hb2.mono hb.size)
        go_roundw
        case rel => exact ⟨m + 1, hi, by first | go_num | (rw [hmi]; go_num), rfl, by omega, hhL, HU.out, HHI.out, hb3⟩
        case measure => simp [intOf]; omega
      · have hC : ¬ C < 0 := fun e => hz (hcm.1 e)
        have HD : Hid (∀ j (h : j < fs.length), m ≤ j → Z ≤ fk fs[j]) := HDN.out hz
        clear HUP HDN hcm
        go_wp2_with (go_at_fn 93; refine hcl.mono ?_; rintro e w2 ⟨rfl, hb2⟩)
        have hb3 : Below w.heap.size w w2 := hb.trans (hb2.mono hb.size)
        go_roundw
        case rel => exact ⟨lo, m, rfl, by first | go_num | rw [hmi], by omega, by omega, HLO.out, HD.out, hb3⟩
        case measure => simp [intOf]; omega
    · obtain rfl : hi = lo := by omega
      have i2 : ¬ (hi : Int) < (hi : Int) := by omega
      by_cases hn : hi < L
      · have hmx : hi < fs.length := by rw [HX.out]; exact hn
        obtain ⟨b, o, hq, hc⟩ := (HFX.out.below hb).cells (fun e => by rw [e] at hmx; simp at hmx)
        subst hq
        obtain ⟨c0, c1, c2, c3, c4, c5⟩ := hc hi hmx
        have hcl := HCM.out wr hb hi hmx
        have hcm := cmpI_zero (fk fs[hi]) Z
        have HPA : Hid (∀ t : Bool, (t = true ↔ fk fs[hi] = Z) → PlaceAt fs Z hi t) := fun t ht => ⟨by rw [HX.out]; omega, HLO.out, HHI.out, ht.trans ⟨fun e => ⟨hmx, e⟩, fun ⟨_, e⟩ => e⟩⟩
        generalize fk fs[hi] = ZM at hcl hcm HPA
        generalize Lib.compareInt ZM Z = C at hcl hcm
        unfold flV at hcl
        generalize fs[hi] = f at c0 c1 c2 c3 c4 c5 hcl
        obtain ⟨fp, fq, fn, flo, fhi, fseq⟩ := f
        dsimp only at c0 c1 c2 c3 c4 c5 hcl
        have i0 : (hi : Int) < (L : Int) := by omega
        have i1 : (0 : Int) ≤ (hi : Int) := by omega
        clear hc hmx
        by_cases hz : C = 0
        · subst hz
          have HPT : Hid (PlaceAt fs Z hi true) := HPA.out true ⟨fun _ => hcm.1 rfl, fun _ => rfl⟩
          clear HPA hcm
          go_wp2_with (go_at_fn 93; refine hcl.mono ?_; rintro e w2 ⟨rfl, hb2⟩)
          go_ret2
          exact ⟨hi, true, rfl, HPT.out, hb.trans (hb2.mono hb.size)⟩
        · have hC : (C == 0) = false := beq_eq_false_iff_ne.2 hz
          have HPT : Hid (PlaceAt fs Z hi false) := HPA.out false ⟨fun e => (nomatch e), fun e => absurd (hcm.2 e) hz⟩
          clear HPA hcm
          go_wp2_with (go_at_fn 93; refine hcl.mono ?_; rintro e w2 ⟨rfl, hb2⟩)
          go_ret2
          exact ⟨hi, false, rfl, HPT.out, hb.trans (hb2.mono hb.size)⟩
      · obtain rfl : hi = L := by omega
        have HPT : Hid (PlaceAt fs Z hi false) := ⟨by rw [HX.out]; exact Nat.le_refl _, HLO.out, HHI.out, ⟨fun e => (nomatch e), fun ⟨h', _⟩ => by rw [HX.out] at h'; omega⟩⟩
        go_wp2
        go_ret2
        exact ⟨hi, false, rfl, HPT.out, hb⟩

set_option maxRecDepth 100000 in
set_option maxHeartbeats 1000000 in
theorem place_any (v : Value) (fs : List Fl) (p : ByteArray) (w : World) (a : Nat → Addr) (h : EnvN w a) (hx : FlsAt w v fs) (hl : fs.length ≤ 20000) (hr : fs.Pairwise fun f g => fk f < fk g) (hsz : ∀ g ∈ fs, g.1.size ≤ 100000 ∧ pathO g.1.data.toList ≠ none) (hp : p.size ≤ 100000) (hpo : pathO p.data.toList ≠ none) :
    Calls Tryz.prog 57 #[v, .string p] w (PlacePost fs (pk p.data.toList) w) := by
  have hse := searchF_any v fs p w a h hx hl hr hsz hp hpo
  obtain ⟨q, cap, rfl⟩ := hx.form
  generalize fs.length = L at hse ⊢
  clear hx hl hr hsz hp hpo h
  go_enter Tryz.func57, Tryz.ntmps57
  go_wp2_with fail
  refine hse.mono ?_
  rintro e w1 ⟨n, t, rfl, hpa, hb1⟩
  have HPA : Hid (PlaceAt fs (pk p.data.toList) n t) := hpa
  clear hse hpa
  go_wp2
  go_ret2
  exact ⟨n, t, rfl, HPA.out, hb1⟩
end Go.Proofs.YtpiagofhgalklacGreatDoor
namespace Go.Proofs.YtpiagofhgalklacGreatDoor
open Go.RowKit Go.Extern.Stop Go.Stop Go.Extern Go.Sort Go.Shelf Go.Lib

set_option maxRecDepth 100000 in
set_option maxHeartbeats 1000000 in
theorem find1_any (f : Fl) (p : ByteArray) (pb : Nat) (w : World) (hp : w.cell? ⟨pb, 0, none⟩ = some (.string p)) :
    Calls Tryz.prog 62 #[flV f, .pointer (some ⟨pb, 0, none⟩)] w fun e w' => e = .returned (.bool (decide (f.1 = p))) ∧ Below w.heap.size w w' := by
  have hal : Below w.heap.size w (w.alloc (.cells #[.string f.1, .string f.2.1, .int .i64 f.2.2.1, .int .i64 f.2.2.2.1, .int .i64 f.2.2.2.2.1, .int .i64 f.2.2.2.2.2] 24)) := (Below.refl _ _).alloc (Nat.le_refl _) _
  have z0 := (FlAt.new w f).cells.1
  have hp2 := below_keep hal hp
  unfold flV
  obtain ⟨fp, fq, fn, flo, fhi, fseq⟩ := f
  dsimp only at hal z0 hp2 ⊢
  by_cases he : fp = p
  · subst he
    have d1 : (fp.toList == fp.toList) = true := by simp
    rw [decide_eq_true rfl]
    go_enter Tryz.func62, Tryz.ntmps62
    go_upto_region 1 with fail
    generalize w.alloc (.cells #[.string fp, .string fq, .int .i64 fn, .int .i64 flo, .int .i64 fhi, .int .i64 fseq] 24) = WA at hal z0 hp2 ⊢
    go_wp2
    go_ret
    exact ⟨rfl, hal⟩
  · have d1 : (fp.toList == p.toList) = false := neBB (fun e => he (part_ext e))
    rw [decide_eq_false he]
    go_enter Tryz.func62, Tryz.ntmps62
    go_upto_region 1 with fail
    generalize w.alloc (.cells #[.string fp, .string fq, .int .i64 fn, .int .i64 flo, .int .i64 fhi, .int .i64 fseq] 24) = WA at hal z0 hp2 ⊢
    go_wp2
    go_ret
    exact ⟨rfl, hal⟩

set_option maxRecDepth 100000 in
set_option maxHeartbeats 4000000 in
theorem indexF_any (v : Value) (fs : List Fl) (p : ByteArray) (pb : Nat) (w : World) (hx : FlsAt w v fs) (hl : fs.length ≤ 20000) (hp : w.cell? ⟨pb, 0, none⟩ = some (.string p)) :
    Calls Tryz.prog 61 #[v, .func (.func 62) #[] #[.pointer (some ⟨pb, 0, none⟩)]] w fun e w' => e = .returned (.int .i64 (findF fs p)) ∧ Below w.heap.size w w' := by
  have eg : ∀ args w, (callFunc 62 args).run Tryz.prog w = .ok (.enter 62 args) w := enters_of Tryz.func62 (by kernel_rfl) rfl
  obtain ⟨q, cap, rfl⟩ := hx.form
  have HFX : Hid (FlsAt w (.slice q fs.length cap) fs) := hx
  have HP : Hid (∀ W, Below w.heap.size w W → W.cell? ⟨pb, 0, none⟩ = some (.string p)) := fun W hb => below_keep hb hp
  obtain ⟨L, hL⟩ : ∃ L, fs.length = L := ⟨_, rfl⟩
  have HX : Hid (fs.length = L) := hL
  rw [hL] at hl ⊢
  generalize hR : findF fs p = R
  have HR : Hid (findF fs p = R) := hR
  clear hL hx hR hp
  go_enter Tryz.func61, Tryz.ntmps61
  go_wp2
  go_loopw [8] (fun k wr => ∃ n : Nat, n ≤ L ∧ k = .int .i64 n ∧ (∀ j (h : j < fs.length), j < n → fs[j].1 ≠ p) ∧ Below w.heap.size w wr) (fun k _ => L - (intOf k).toNat)
  case atStart => exact ⟨0, by omega, rfl, fun j h h' => absurd h' (Nat.not_lt_zero _), Below.refl _ _⟩
  case round =>
    obtain ⟨n, hn, rfl, hno, hb⟩ := hrel
    have HNO : Hid (∀ j (h : j < fs.length), j < n → fs[j].1 ≠ p) := hno
    clear hno
    by_cases hlt : n < L
    · have hltx : n < fs.length := by rw [HX.out]; exact hlt
      obtain ⟨b, o, hq, hc⟩ := (HFX.out.below hb).cells (fun e => by rw [e] at hltx; simp at hltx)
      subst hq
      obtain ⟨c0, c1, c2, c3, c4, c5⟩ := hc n hltx
      have hcl := find1_any fs[n] p pb wr (HP.out wr hb)
      have hi : (n : Int) < (L : Int) := by omega
      have hi0' : (0 : Int) ≤ (n : Int) := by omega
      by_cases he : fs[n].1 = p
      · have hRR : R = n := by rw [← HR.out]; exact findF_at hltx HNO.out he
        subst hRR
        rw [decide_eq_true he] at hcl
        unfold flV at hcl
        clear hc he
        generalize fs[n] = f at c0 c1 c2 c3 c4 c5 hcl
        clear hltx
        obtain ⟨fp, fq, fn, flo, fhi, fseq⟩ := f
        dsimp only at c0 c1 c2 c3 c4 c5 hcl
        go_wp2_with (go_at_fn 62; refine hcl.mono ?_; rintro e w2 ⟨rfl, hb2⟩)
        go_ret
        exact ⟨rfl, hb.trans (hb2.mono hb.size)⟩
      · have HN1 : Hid (∀ j (h : j < fs.length), j < n + 1 → fs[j].1 ≠ p) := nopath_succ HNO.out hltx he
        rw [decide_eq_false he] at hcl
        unfold flV at hcl
        clear hc he
        generalize fs[n] = f at c0 c1 c2 c3 c4 c5 hcl
        clear hltx
        obtain ⟨fp, fq, fn, flo, fhi, fseq⟩ := f
        dsimp only at c0 c1 c2 c3 c4 c5 hcl
        go_wp2_with (go_at_fn 62; refine hcl.mono ?_; rintro e w2 ⟨rfl, hb2⟩)
        have hb3 : Below w.heap.size w w2 := hb.trans (hb2.mono hb.size)
        go_roundw
        case rel => exact ⟨n + 1, by omega, by go_num, HN1.out, hb3⟩
        case measure => simp [intOf]; omega
    · obtain rfl : n = L := by omega
      have hRR : R = -1 := by rw [← HR.out]; exact findF_no (fun j hj => HNO.out j hj (by rw [← HX.out]; exact hj))
      subst hRR
      go_wp2
      go_ret
      exact ⟨rfl, hb⟩

set_option maxRecDepth 100000 in
set_option maxHeartbeats 1000000 in
theorem find_any (v : Value) (fs : List Fl) (p : ByteArray) (w : World) (hx : FlsAt w v fs) (hl : fs.length ≤ 20000) :
    Calls Tryz.prog 22 #[v, .string p] w fun e w' => e = .returned (.int .i64 (findF fs p)) ∧ Below w.heap.size w w' := by
  have hal : Below w.heap.size w (w.alloc (.cells #[.string p] 9)) := (Below.refl _ _).alloc (Nat.le_refl _) _
  have hix := indexF_any v fs p w.heap.size (w.alloc (.cells #[.string p] 9)) (hx.below hal) hl (by simp)
  obtain ⟨q, cap, rfl⟩ := hx.form
  generalize fs.length = L at hix ⊢
  clear hx
  go_enter Tryz.func22, Tryz.ntmps22
  go_wp2_with fail
  refine hix.mono ?_
  rintro e w1 ⟨rfl, hb1⟩
  clear hix
  go_wp2
  go_ret
  exact ⟨rfl, hal.trans (hb1.mono hal.size)⟩
end Go.Proofs.YtpiagofhgalklacGreatDoor
namespace Go.Proofs.YtpiagofhgalklacGreatDoor
open Go.RowKit Go.Extern.Stop Go.Stop Go.Extern Go.Sort Go.Shelf Go.Lib

theorem own_flat {W : World} {base : Nat} {e : TypeId} {size : Nat} {v : Value} {n : Nat} {xs : List Value} (h : W.ownsRow base e size v n xs) : ∃ q c, v = .slice q n c := by
  rcases h.2 with ⟨rfl, rfl⟩ | ⟨g, cap, cur, rfl, _⟩
  · exact ⟨none, 0, rfl⟩
  · exact ⟨_, _, rfl⟩

set_option maxRecDepth 100000 in
set_option maxHeartbeats 2000000 in
theorem growF_any (n : Nat) (w : World) (hn : n ≤ 100000) :
    Calls Tryz.prog 94 #[.slice none 0 0, .int .i64 n] w fun e w' => ∃ v', e = .returned v' ∧ w'.ownsRow w.heap.size 24 6 v' 0 [] ∧ Below w.heap.size w w' := by
  obtain ⟨i0, hi0, hz0, hs0, hby0⟩ := Tryz.fileInfo
  by_cases h0 : n = 0
  · subst h0
    go_enter Tryz.func94, Tryz.ntmps94
    go_wp2
    go_ret
    exact ⟨_, rfl, World.ownsRow_nil _ _ _ _, Below.refl _ _⟩
  · have h1 : ¬ ((n : Int) < 0) := by omega
    have h2 : (0 : Int) < (n : Int) := by omega
    have hold : (Builtin.firstCells i0.size 0 (.slice none 0 0)).run Tryz.prog w.drew = .ok ([] : List Value).toArray w.drew := run_firstCells_none w.drew i0.size 0 0 0
    have hrz : ∀ ty, (Builtin.append_ #[22, 3] ty #[.slice none 0 0, .int .i64 (n : Int)]).run Tryz.prog w = .ok (.slice (some ⟨w.heap.size, 0, none⟩) n (grownCap w n 0 24)) (w.drew.alloc (.cells (([] : List Value).toArray ++ Builtin.zeroCells (Value.cells (.agg #[.string ⟨#[]⟩, .string ⟨#[]⟩, .int .i64 0, .int .i64 0, .int .i64 0, .int .i64 0])) n ++ Builtin.zeroCells (Value.cells (.agg #[.string ⟨#[]⟩, .string ⟨#[]⟩, .int .i64 0, .int .i64 0, .int .i64 0, .int .i64 0])) (grownCap w n 0 24 - n)) 24)) := fun ty => by
      have h := Lib.run_append_grow_zeros w 22 3 ty 24 i0 _ .i64 .i64 Tryz.underlying22 Tryz.underlying3 hi0 hz0 none 0 0 [] hold n (by omega) (by omega) (by omega) (by omega) (by rw [hby0]; omega) (by rw [Nat.zero_add, hby0]; exact growslice_fits (by omega) (by omega))
      rw [Nat.zero_add] at h
      exact h
    have hGn : n ≤ grownCap w n 0 24 := grownCap_ge w _ _ _
    have hGm : grownCap w n 0 24 ≤ maxLen := grownCap_le_maxLen w n 0 24 (by unfold maxLen; omega)
    have hW : Below w.heap.size w (w.drew.alloc (.cells (([] : List Value).toArray ++ Builtin.zeroCells (Value.cells (.agg #[.string ⟨#[]⟩, .string ⟨#[]⟩, .int .i64 0, .int .i64 0, .int .i64 0, .int .i64 0])) n ++ Builtin.zeroCells (Value.cells (.agg #[.string ⟨#[]⟩, .string ⟨#[]⟩, .int .i64 0, .int .i64 0, .int .i64 0, .int .i64 0])) (grownCap w n 0 24 - n)) 24)) := (Below.refl _ _).drew.alloc (Nat.le_refl _) _
    have hOW : (w.drew.alloc (.cells (([] : List Value).toArray ++ Builtin.zeroCells (Value.cells (.agg #[.string ⟨#[]⟩, .string ⟨#[]⟩, .int .i64 0, .int .i64 0, .int .i64 0, .int .i64 0])) n ++ Builtin.zeroCells (Value.cells (.agg #[.string ⟨#[]⟩, .string ⟨#[]⟩, .int .i64 0, .int .i64 0, .int .i64 0, .int .i64 0])) (grownCap w n 0 24 - n)) 24)).ownsRow w.heap.size 24 6 (.slice (some ⟨w.heap.size, 0, none⟩) 0 (grownCap w n 0 24)) 0 [] := by
      refine ⟨rfl, Or.inr ⟨w.heap.size, _, _, rfl, Nat.le_refl _, heap_alloc_new w.drew _, Nat.zero_le _, hGm, ?_, by simp⟩⟩
      have hzc : ∀ k, (Builtin.zeroCells (Value.cells (.agg #[.string ⟨#[]⟩, .string ⟨#[]⟩, .int .i64 0, .int .i64 0, .int .i64 0, .int .i64 0])) k).size = k * 6 := fun k => by
        rw [size_zeroCells]; rfl
      simp only [Array.size_append, hzc]
      simp
      omega
    generalize w.drew.alloc (.cells (([] : List Value).toArray ++ Builtin.zeroCells (Value.cells (.agg #[.string ⟨#[]⟩, .string ⟨#[]⟩, .int .i64 0, .int .i64 0, .int .i64 0, .int .i64 0])) n ++ Builtin.zeroCells (Value.cells (.agg #[.string ⟨#[]⟩, .string ⟨#[]⟩, .int .i64 0, .int .i64 0, .int .i64 0, .int .i64 0])) (grownCap w n 0 24 - n)) 24) = W1 at hrz hW hOW
    generalize grownCap w n 0 24 = G at hrz hOW hGn
    clear hold hGm
    go_enter Tryz.func94, Tryz.ntmps94
    go_wp2_with (at_builtin; refine Lib.wpList_append_run _ rfl _ _ _ _ rfl _ _ rfl rfl _ _ (hrz _) ?_)
    all_goals
      go_ret
      exact ⟨_, rfl, hOW, hW⟩

/-- Slices of files in a row of cells. -/
def PartsAt (w : World) (b : Nat) (gs : List (List Fl)) : Prop := ∀ j (h : j < gs.length), ∃ q c, w.cell? ⟨b, j, none⟩ = some (.slice q gs[j].length c) ∧ FlsAt w (.slice q gs[j].length c) gs[j]

theorem PartsAt.below {w w' : World} {b : Nat} {gs : List (List Fl)} (h : PartsAt w b gs) (hb : Below w.heap.size w w') : PartsAt w' b gs := fun j hj => by
  obtain ⟨q, c, h1, h2⟩ := h j hj
  exact ⟨q, c, below_keep hb h1, h2.below hb⟩

theorem flat_len_take (gs : List (List Fl)) (n : Nat) (h : n < gs.length) : (gs.take (n + 1)).flatten = (gs.take n).flatten ++ gs[n] := by
  rw [← List.take_append_getElem h, List.flatten_append]
  simp

theorem flat_len_le (gs : List (List Fl)) (n : Nat) : (gs.take n).flatten.length ≤ gs.flatten.length := by
  conv => rhs; rw [← List.take_append_drop n gs, List.flatten_append, List.length_append]
  omega

set_option maxRecDepth 100000 in
set_option maxHeartbeats 4000000 in
theorem concatF_any (b : Nat) (gs : List (List Fl)) (w : World) (hp : PartsAt w b gs) (hk : gs.length ≤ 10) (hl : gs.flatten.length ≤ 1000) :
    Calls Tryz.prog 58 #[.slice (some ⟨b, 0, none⟩) gs.length gs.length] w fun e w' => ∃ v', e = .returned v' ∧ FlsAt w' v' gs.flatten ∧ Below w.heap.size w w' := by
  obtain ⟨i0, hi0, hz0, hs0, hby0⟩ := Tryz.fileInfo
  have HP : Hid (∀ W, Below w.heap.size w W → PartsAt W b gs) := fun W hb => hp.below hb
  have HLE : Hid (∀ n, (gs.take n).flatten.length ≤ 1000) := fun n => Nat.le_trans (flat_len_le gs n) hl
  obtain ⟨K, hK⟩ : ∃ K, gs.length = K := ⟨_, rfl⟩
  have HK : Hid (gs.length = K) := hK
  rw [hK] at hk ⊢
  clear hK hp hl
  go_enter Tryz.func58, Tryz.ntmps58
  go_wp2
  go_loop [3, 11] (fun s k => ∃ n : Nat, n ≤ K ∧ s = .int .i64 (gs.take n).flatten.length ∧ k = .int .i64 n) (fun _ k => K - (intOf k).toNat)
  case atStart => exact ⟨0, by omega, rfl, rfl⟩
  case round =>
    obtain ⟨n, hn, rfl, rfl⟩ := hrel
    have h1 := HLE.out n
    have h2 := HLE.out (n + 1)
    by_cases hlt : n < K
    · have hltx : n < gs.length := by rw [HK.out]; exact hlt
      obtain ⟨q, c, hc, -⟩ := HP.out w (Below.refl _ _) n hltx
      have hf := congrArg List.length (flat_len_take gs n hltx)
      rw [List.length_append] at hf
      have hi : (n : Int) < (K : Int) := by omega
      have hi0' : (0 : Int) ≤ (n : Int) := by omega
      have HF : Hid ((gs.take (n + 1)).flatten.length = (gs.take n).flatten.length + gs[n].length) := hf
      generalize (gs.take n).flatten.length = A at h1 HF ⊢
      generalize gs[n].length = B at hc HF
      have hAB : A + B ≤ 1000 := by rw [← HF.out]; exact h2
      have hneg : ¬ ((A : Int) + (B : Int) < 0) := by omega
      clear hf hltx h1 h2
      go_wp2
      go_round
      case rel => exact ⟨n + 1, by omega, by rw [HF.out]; go_num, by go_num⟩
      case measure => simp [intOf]; omega
    · obtain rfl : n = K := by omega
      have hta : gs.take n = gs := List.take_of_length_le (by rw [HK.out]; exact Nat.le_refl _)
      have HTA : Hid (gs.take n = gs) := hta
      have hgr := growF_any (gs.take n).flatten.length w (by omega)
      clear h2
      generalize (gs.take n).flatten.length = S at h1 hgr ⊢
      go_wp2_with fail
      refine hgr.mono ?_
      rintro e w1 ⟨v1, rfl, ho1, hb1⟩
      clear hgr hta
      obtain ⟨q1, c1, rfl⟩ := own_flat ho1
      have OW1 : Hid (w1.ownsRow w.heap.size 24 6 (.slice q1 0 c1) (gs.take 0).flatten.length (flatF (gs.take 0).flatten)) := by
        show w1.ownsRow _ _ _ _ _ _
        simpa [flatF] using ho1
      clear ho1
      go_wp2
      go_loopw [6, 27] (fun v k wr => ∃ m : Nat, m ≤ n ∧ k = .int .i64 m ∧ wr.ownsRow w.heap.size 24 6 v (gs.take m).flatten.length (flatF (gs.take m).flatten) ∧ Below w.heap.size w wr) (fun _ k _ => n - (intOf k).toNat)
      case atStart => exact ⟨0, by omega, rfl, OW1.out, hb1⟩
      case round =>
        clear OW1 hb1
        obtain ⟨m, hm, rfl, hown, hb⟩ := hrel
        have OW : Hid (wr.ownsRow w.heap.size 24 6 u6 (gs.take m).flatten.length (flatF (gs.take m).flatten)) := hown
        clear hown
        have g1 := HLE.out m
        have g2 := HLE.out (m + 1)
        by_cases hmt : m < n
        · have hmx : m < gs.length := by rw [HK.out]; exact hmt
          obtain ⟨q, c, hc, hfl⟩ := HP.out wr hb m hmx
          have hf := congrArg List.length (flat_len_take gs m hmx)
          rw [List.length_append] at hf
          have HFE : Hid ((gs.take (m + 1)).flatten = (gs.take m).flatten ++ gs[m]) := flat_len_take gs m hmx
          have HSR : Hid (Src wr q gs[m].length c (flatF gs[m])) := src_fls hfl
          have hi : (m : Int) < (n : Int) := by omega
          have hi0' : (0 : Int) ≤ (m : Int) := by omega
          obtain ⟨g, hg⟩ : ∃ g, gs[m] = g := ⟨_, rfl⟩
          rw [hg] at hc hf HFE HSR
          clear hfl hg hmx
          obtain ⟨B, hB⟩ : ∃ B, g.length = B := ⟨_, rfl⟩
          have HB : Hid (g.length = B) := hB
          rw [hB] at hc hf HSR
          clear hB
          obtain ⟨C, hC⟩ : ∃ C, (gs.take m).flatten.length = C := ⟨_, rfl⟩
          have HCL : Hid ((gs.take m).flatten.length = C) := hC
          rw [hC] at g1 hf OW
          clear hC
          go_wp2_with (at_builtin; (refine wpList_append_src rfl _ _ 22 rfl w.heap.size 24 i0 (.agg #[.string ⟨#[]⟩, .string ⟨#[]⟩, .int .i64 0, .int .i64 0, .int .i64 0, .int .i64 0]) 6 64 Tryz.underlying22 hi0 hz0 hs0 hby0 rfl (by decide) u6 C (flatF (gs.take m).flatten) rfl ?a0 q B c (flatF g) rfl ?a1 ?a2 ?a3 ?a4 ?a5 ?a6 ?_))
          case a0 => exact OW.out
          case a1 => rw [flatF_len, HB.out]
          case a2 => exact HSR.out
          case a3 => exact flatF_one _
          case a4 => unfold maxLen; omega
          case a5 => omega
          case a6 => exact hb.size
          intro v2 y2 ho2 hg2 _
          have hb2 : Below w.heap.size w y2 := hb.grown hg2 hb.size (fun k hk => by
            rcases OW.out.2 with ⟨e, _⟩ | ⟨g', cap', cur, e, hg', _⟩
            · rw [e] at hk; simp [Value.ownBlock] at hk
            · rw [e] at hk; simp [Value.ownBlock] at hk; omega)
          have OW2 : Hid (y2.ownsRow w.heap.size 24 6 v2 (gs.take (m + 1)).flatten.length (flatF (gs.take (m + 1)).flatten)) := by
            show y2.ownsRow _ _ _ _ _ _
            rw [HFE.out, flatF_append, List.length_append, HB.out, HCL.out]
            exact ho2
          clear ho2 hg2
          go_wp2
          go_roundw
          case rel => exact ⟨m + 1, by omega, by go_num, OW2.out, hb2⟩
          case measure => simp [intOf]; omega
        · obtain rfl : m = n := by omega
          have HFN : Hid (FlsAt wr u6 gs.flatten) := by
            have h' := (flsAt_of_own OW.out).1
            rw [HTA.out] at h'
            exact h'
          go_wp2
          go_ret
          exact ⟨_, rfl, HFN.out, hb⟩
end Go.Proofs.YtpiagofhgalklacGreatDoor
namespace Go.Proofs.YtpiagofhgalklacGreatDoor
open Go.RowKit Go.Extern.Stop Go.Stop Go.Extern Go.Sort Go.Shelf Go.Lib

set_option maxRecDepth 100000 in
set_option maxHeartbeats 8000000 in
theorem prune_any (v : Value) (fs : List Fl) (lo hi : Int) (w : World) (hx : FlsAt w v fs) (hl : fs.length ≤ 20000) :
    Calls Tryz.prog 24 #[v, .int .i64 lo, .int .i64 hi] w fun e w' => ∃ v', e = .returned v' ∧ FlsAt w' v' (fs.filter (inP lo hi)) ∧ Below w.heap.size w w' := by
  obtain ⟨i0, hi0, hz0, hs0, hby0⟩ := Tryz.fileInfo
  obtain ⟨q, cap, rfl⟩ := hx.form
  have HFX : Hid (FlsAt w (.slice q fs.length cap) fs) := hx
  obtain ⟨L, hL⟩ : ∃ L, fs.length = L := ⟨_, rfl⟩
  have HX : Hid (fs.length = L) := hL
  rw [hL] at hl ⊢
  clear hL hx
  go_enter Tryz.func24, Tryz.ntmps24
  go_wp2
  go_loopw [7, 12] (fun out k wr => ∃ n : Nat, n ≤ L ∧ k = .int .i64 n ∧ Below w.heap.size w wr ∧ wr.ownsRow w.heap.size 24 6 out (kept (inP lo hi) fs n).length (flatF (kept (inP lo hi) fs n))) (fun _ k _ => L - (intOf k).toNat)
  case atStart => exact ⟨0, by omega, rfl, Below.refl _ _, by rw [kept_zero]; exact World.ownsRow_nil _ _ _ _⟩
  case round =>
    obtain ⟨n, hn, rfl, hb, hown⟩ := hrel
    have OW : Hid (wr.ownsRow w.heap.size 24 6 u7 (kept (inP lo hi) fs n).length (flatF (kept (inP lo hi) fs n))) := hown
    clear hown
    by_cases hlt : n < L
    · have hltx : n < fs.length := by rw [HX.out]; exact hlt
      obtain ⟨b, o, hq, hc⟩ := (HFX.out.below hb).cells (fun e => by rw [e] at hltx; simp at hltx)
      subst hq
      obtain ⟨c0, c1, c2, c3, c4, c5⟩ := hc n hltx
      have HKL : Hid ((kept (inP lo hi) fs n).length ≤ L) := by
        show _ ≤ _
        have := kept_len (inP lo hi) fs n
        omega
      have hke : (kept (inP lo hi) fs (n + 1)) = if (inP lo hi) fs[n] = true then (kept (inP lo hi) fs n) ++ [fs[n]] else (kept (inP lo hi) fs n) := kept_succ (inP lo hi) fs n hltx
      generalize fs[n] = f at c0 c1 c2 c3 c4 c5 hke
      have hfb := boxW_at wr f
      have hbb := boxW_below wr f
      unfold boxW at hfb hbb
      obtain ⟨fp, fq, fn, flo, fhi, fseq⟩ := f
      dsimp only at c0 c1 c2 c3 c4 c5 hfb hbb
      have hiL : (n : Int) < (L : Int) := by omega
      have hi0' : (0 : Int) ≤ (n : Int) := by omega
      clear hc hltx
      go_upto_region 5 with fail
      clear c0 c1 c2 c3 c4 c5
      generalize wr.alloc (.cells #[.string fp, .string fq, .int .i64 fn, .int .i64 flo, .int .i64 fhi, .int .i64 fseq] 24) = W5 at hfb hbb ⊢
      have hB5 : Below w.heap.size w W5 := hb.trans (hbb.mono hb.size)
      have OW5 : Hid (W5.ownsRow w.heap.size 24 6 u7 (kept (inP lo hi) fs n).length (flatF (kept (inP lo hi) fs n))) := own_below OW.out hbb
      obtain ⟨z0, z1, z2, z3, z4, z5, -⟩ := hfb.cells
      dsimp only at z0 z1 z2 z3 z4 z5
      have hal : Below W5.heap.size W5 (W5.alloc (.cells #[.string fp, .string fq, .int .i64 fn, .int .i64 flo, .int .i64 fhi, .int .i64 fseq] 24)) := (Below.refl _ _).alloc (Nat.le_refl _) _
      have hbA : Below w.heap.size w (W5.alloc (.cells #[.string fp, .string fq, .int .i64 fn, .int .i64 flo, .int .i64 fhi, .int .i64 fseq] 24)) := hB5.alloc hB5.size _
      clear hfb hbb OW
      have split8 : ((flo < lo ∧ hi < fhi ∧ lo ≤ hi) ∨ (flo < lo ∧ hi < fhi ∧ ¬ lo ≤ hi)) ∨ ((flo < lo ∧ ¬ hi < fhi ∧ lo ≤ fhi) ∨ (flo < lo ∧ ¬ hi < fhi ∧ ¬ lo ≤ fhi)) ∨ ((¬ flo < lo ∧ hi < fhi ∧ flo ≤ hi) ∨ (¬ flo < lo ∧ hi < fhi ∧ ¬ flo ≤ hi)) ∨ ((¬ flo < lo ∧ ¬ hi < fhi ∧ flo ≤ fhi) ∨ (¬ flo < lo ∧ ¬ hi < fhi ∧ ¬ flo ≤ fhi)) := by omega
      rcases split8 with (hs8 | hs8) | (hs8 | hs8) | (hs8 | hs8) | (hs8 | hs8) <;> obtain ⟨q1, q2, q3⟩ := hs8
      · have HKE : Hid ((kept (inP lo hi) fs (n + 1)) = (kept (inP lo hi) fs n) ++ [(fp, fq, fn, flo, fhi, fseq)]) := by
          show _ = _
          rw [hke, if_pos (by simp [inP, q1, q2, q3])]
        clear hke
        go_wp2_with (at_builtin; refine wpList_append_own _ rfl _ _ 22 rfl w.heap.size 24 i0 (.agg #[.string ⟨#[]⟩, .string ⟨#[]⟩, .int .i64 0, .int .i64 0, .int .i64 0, .int .i64 0]) 6 64 Tryz.underlying22 hi0 hz0 hs0 hby0 rfl (by decide) u7 (kept (inP lo hi) fs n).length (flatF (kept (inP lo hi) fs n)) rfl ?qc0 ⟨W5.heap.size, 0, none⟩ 1 1 (encF (fp, fq, fn, flo, fhi, fseq)) rfl ?qc1 ?qc2 ?qc3 ?qc4 ?qc5 ?qc6 ?_)
        case qc0 => exact own_below OW5.out hal
        case qc1 => rfl
        case qc2 => first | exact cells6 _ _ | exact fun j u hu => hu
        case qc3 => exact encF_one _
        case qc4 => have := HKL.out; unfold maxLen; omega
        case qc5 => have := HKL.out; omega
        case qc6 => first | exact hbA.size | (have := hB5.size; omega)
        intro v' w4 hown4 hgrow hnil
        have hbC : Below w.heap.size w w4 := hbA.grown hgrow hbA.size (fun k hk => by
          rcases OW5.out.2 with ⟨e, _⟩ | ⟨g', cap', cur, e, hg', _⟩
          · rw [e] at hk; simp [Value.ownBlock] at hk
          · rw [e] at hk; simp [Value.ownBlock] at hk; omega)
        have OW4 : Hid (w4.ownsRow w.heap.size 24 6 v' ((kept (inP lo hi) fs n).length + 1) (flatF (kept (inP lo hi) fs n) ++ encF (fp, fq, fn, flo, fhi, fseq))) := hown4
        clear hown4 hnil hgrow
        go_wp2
        go_roundw
        case rel => exact ⟨n + 1, by omega, by go_num, hbC, by rw [HKE.out, List.length_append, flatF_append]; simpa [flatF] using OW4.out⟩
        case measure => simp [intOf]; omega
      · have HKE : Hid ((kept (inP lo hi) fs (n + 1)) = (kept (inP lo hi) fs n)) := by
          show _ = _
          rw [hke, if_neg (by simp [inP, q1, q2, q3])]
        clear hke hal hbA
        go_wp2
        go_roundw
        case rel => exact ⟨n + 1, by omega, by go_num, hB5, by rw [HKE.out]; exact OW5.out⟩
        case measure => simp [intOf]; omega
      · have HKE : Hid ((kept (inP lo hi) fs (n + 1)) = (kept (inP lo hi) fs n) ++ [(fp, fq, fn, flo, fhi, fseq)]) := by
          show _ = _
          rw [hke, if_pos (by simp [inP, q1, q2, q3])]
        clear hke
        go_wp2_with (at_builtin; refine wpList_append_own _ rfl _ _ 22 rfl w.heap.size 24 i0 (.agg #[.string ⟨#[]⟩, .string ⟨#[]⟩, .int .i64 0, .int .i64 0, .int .i64 0, .int .i64 0]) 6 64 Tryz.underlying22 hi0 hz0 hs0 hby0 rfl (by decide) u7 (kept (inP lo hi) fs n).length (flatF (kept (inP lo hi) fs n)) rfl ?qc0 ⟨W5.heap.size, 0, none⟩ 1 1 (encF (fp, fq, fn, flo, fhi, fseq)) rfl ?qc1 ?qc2 ?qc3 ?qc4 ?qc5 ?qc6 ?_)
        case qc0 => exact own_below OW5.out hal
        case qc1 => rfl
        case qc2 => first | exact cells6 _ _ | exact fun j u hu => hu
        case qc3 => exact encF_one _
        case qc4 => have := HKL.out; unfold maxLen; omega
        case qc5 => have := HKL.out; omega
        case qc6 => first | exact hbA.size | (have := hB5.size; omega)
        intro v' w4 hown4 hgrow hnil
        have hbC : Below w.heap.size w w4 := hbA.grown hgrow hbA.size (fun k hk => by
          rcases OW5.out.2 with ⟨e, _⟩ | ⟨g', cap', cur, e, hg', _⟩
          · rw [e] at hk; simp [Value.ownBlock] at hk
          · rw [e] at hk; simp [Value.ownBlock] at hk; omega)
        have OW4 : Hid (w4.ownsRow w.heap.size 24 6 v' ((kept (inP lo hi) fs n).length + 1) (flatF (kept (inP lo hi) fs n) ++ encF (fp, fq, fn, flo, fhi, fseq))) := hown4
        clear hown4 hnil hgrow
        go_wp2
        go_roundw
        case rel => exact ⟨n + 1, by omega, by go_num, hbC, by rw [HKE.out, List.length_append, flatF_append]; simpa [flatF] using OW4.out⟩
        case measure => simp [intOf]; omega
      · have HKE : Hid ((kept (inP lo hi) fs (n + 1)) = (kept (inP lo hi) fs n)) := by
          show _ = _
          rw [hke, if_neg (by simp [inP, q1, q2, q3])]
        clear hke hal hbA
        go_wp2
        go_roundw
        case rel => exact ⟨n + 1, by omega, by go_num, hB5, by rw [HKE.out]; exact OW5.out⟩
        case measure => simp [intOf]; omega
      · have HKE : Hid ((kept (inP lo hi) fs (n + 1)) = (kept (inP lo hi) fs n) ++ [(fp, fq, fn, flo, fhi, fseq)]) := by
          show _ = _
          rw [hke, if_pos (by simp [inP, q1, q2, q3])]
        clear hke
        go_wp2_with (at_builtin; refine wpList_append_own _ rfl _ _ 22 rfl w.heap.size 24 i0 (.agg #[.string ⟨#[]⟩, .string ⟨#[]⟩, .int .i64 0, .int .i64 0, .int .i64 0, .int .i64 0]) 6 64 Tryz.underlying22 hi0 hz0 hs0 hby0 rfl (by decide) u7 (kept (inP lo hi) fs n).length (flatF (kept (inP lo hi) fs n)) rfl ?qc0 ⟨W5.heap.size, 0, none⟩ 1 1 (encF (fp, fq, fn, flo, fhi, fseq)) rfl ?qc1 ?qc2 ?qc3 ?qc4 ?qc5 ?qc6 ?_)
        case qc0 => exact own_below OW5.out hal
        case qc1 => rfl
        case qc2 => first | exact cells6 _ _ | exact fun j u hu => hu
        case qc3 => exact encF_one _
        case qc4 => have := HKL.out; unfold maxLen; omega
        case qc5 => have := HKL.out; omega
        case qc6 => first | exact hbA.size | (have := hB5.size; omega)
        intro v' w4 hown4 hgrow hnil
        have hbC : Below w.heap.size w w4 := hbA.grown hgrow hbA.size (fun k hk => by
          rcases OW5.out.2 with ⟨e, _⟩ | ⟨g', cap', cur, e, hg', _⟩
          · rw [e] at hk; simp [Value.ownBlock] at hk
          · rw [e] at hk; simp [Value.ownBlock] at hk; omega)
        have OW4 : Hid (w4.ownsRow w.heap.size 24 6 v' ((kept (inP lo hi) fs n).length + 1) (flatF (kept (inP lo hi) fs n) ++ encF (fp, fq, fn, flo, fhi, fseq))) := hown4
        clear hown4 hnil hgrow
        go_wp2
        go_roundw
        case rel => exact ⟨n + 1, by omega, by go_num, hbC, by rw [HKE.out, List.length_append, flatF_append]; simpa [flatF] using OW4.out⟩
        case measure => simp [intOf]; omega
      · have HKE : Hid ((kept (inP lo hi) fs (n + 1)) = (kept (inP lo hi) fs n)) := by
          show _ = _
          rw [hke, if_neg (by simp [inP, q1, q2, q3])]
        clear hke hal hbA
        go_wp2
        go_roundw
        case rel => exact ⟨n + 1, by omega, by go_num, hB5, by rw [HKE.out]; exact OW5.out⟩
        case measure => simp [intOf]; omega
      · have HKE : Hid ((kept (inP lo hi) fs (n + 1)) = (kept (inP lo hi) fs n) ++ [(fp, fq, fn, flo, fhi, fseq)]) := by
          show _ = _
          rw [hke, if_pos (by simp [inP, q1, q2, q3])]
        clear hke
        go_wp2_with (at_builtin; refine wpList_append_own _ rfl _ _ 22 rfl w.heap.size 24 i0 (.agg #[.string ⟨#[]⟩, .string ⟨#[]⟩, .int .i64 0, .int .i64 0, .int .i64 0, .int .i64 0]) 6 64 Tryz.underlying22 hi0 hz0 hs0 hby0 rfl (by decide) u7 (kept (inP lo hi) fs n).length (flatF (kept (inP lo hi) fs n)) rfl ?qc0 ⟨W5.heap.size, 0, none⟩ 1 1 (encF (fp, fq, fn, flo, fhi, fseq)) rfl ?qc1 ?qc2 ?qc3 ?qc4 ?qc5 ?qc6 ?_)
        case qc0 => exact own_below OW5.out hal
        case qc1 => rfl
        case qc2 => first | exact cells6 _ _ | exact fun j u hu => hu
        case qc3 => exact encF_one _
        case qc4 => have := HKL.out; unfold maxLen; omega
        case qc5 => have := HKL.out; omega
        case qc6 => first | exact hbA.size | (have := hB5.size; omega)
        intro v' w4 hown4 hgrow hnil
        have hbC : Below w.heap.size w w4 := hbA.grown hgrow hbA.size (fun k hk => by
          rcases OW5.out.2 with ⟨e, _⟩ | ⟨g', cap', cur, e, hg', _⟩
          · rw [e] at hk; simp [Value.ownBlock] at hk
          · rw [e] at hk; simp [Value.ownBlock] at hk; omega)
        have OW4 : Hid (w4.ownsRow w.heap.size 24 6 v' ((kept (inP lo hi) fs n).length + 1) (flatF (kept (inP lo hi) fs n) ++ encF (fp, fq, fn, flo, fhi, fseq))) := hown4
        clear hown4 hnil hgrow
        go_wp2
        go_roundw
        case rel => exact ⟨n + 1, by omega, by go_num, hbC, by rw [HKE.out, List.length_append, flatF_append]; simpa [flatF] using OW4.out⟩
        case measure => simp [intOf]; omega
      · have HKE : Hid ((kept (inP lo hi) fs (n + 1)) = (kept (inP lo hi) fs n)) := by
          show _ = _
          rw [hke, if_neg (by simp [inP, q1, q2, q3])]
        clear hke hal hbA
        go_wp2
        go_roundw
        case rel => exact ⟨n + 1, by omega, by go_num, hB5, by rw [HKE.out]; exact OW5.out⟩
        case measure => simp [intOf]; omega
    · obtain rfl : n = L := by omega
      have HKA : Hid (FlsAt wr u7 (fs.filter (inP lo hi))) := by
        have h' := (flsAt_of_own OW.out).1
        rw [← HX.out, kept_all] at h'
        exact h'
      go_wp2
      go_ret
      exact ⟨_, rfl, HKA.out, hb⟩
end Go.Proofs.YtpiagofhgalklacGreatDoor
