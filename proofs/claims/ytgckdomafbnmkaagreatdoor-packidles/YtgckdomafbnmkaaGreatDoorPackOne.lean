/-
  The closed fact of the statements on fewer files: two files become one group.
-/
import Derived.Test.YtgckdomafbnmkaaGreatDoorPackSev
namespace Go.Proofs.YtgckdomafbnmkaaGreatDoor
open Go.RowKit Go.Extern.Stop Go.Stop Go.Extern Go.Sort Go.Shelf Go.Lib

def fewB (least : Int) (f : Fl) : Bool := !goneP f.1 && decide (f.2.2.1 < least)
def plN (fs : List Fl) (least : Int) (n : Nat) : List Gp := ((fs.take n).filter (fewB least)).foldl (fun gs f => putG f gs) []
theorem plN_yes {fs : List Fl} {least : Int} {n : Nat} (h : n < fs.length) (e : fewB least fs[n] = true) : plN fs least (n + 1) = putG fs[n] (plN fs least n) := by
  unfold plN
  rw [List.take_succ_eq_append_getElem h, List.filter_append, List.foldl_append]
  simp [e]
theorem plN_no {fs : List Fl} {least : Int} {n : Nat} (h : n < fs.length) (e : fewB least fs[n] = false) : plN fs least (n + 1) = plN fs least n := by
  unfold plN
  rw [List.take_succ_eq_append_getElem h, List.filter_append, List.foldl_append]
  simp [e]
def GsOk (n : Nat) (gs : List Gp) : Prop := gs.length ≤ n ∧ ∀ g ∈ gs, (0 ≤ g.2.1 ∧ g.2.1 ≤ 40) ∧ g.2.2.length ≤ n
theorem GsOk.mono {n : Nat} {gs : List Gp} (h : GsOk n gs) : GsOk (n + 1) gs := ⟨by have := h.1; omega, fun g hg => ⟨(h.2 g hg).1, by have := (h.2 g hg).2; omega⟩⟩
theorem putG_ok {f : Fl} (hf : 0 ≤ f.2.2.1 ∧ f.2.2.1 ≤ 40) : ∀ {n : Nat} {gs : List Gp}, GsOk n gs → GsOk (n + 1) (putG f gs)
  | n, [], _ => ⟨by simp [putG], fun g hg => by
    rw [putG, List.mem_singleton] at hg
    subst hg
    unfold takeG
    exact ⟨by simpa using hf, by simp⟩⟩
  | n, g :: r, h => by
    have hg := h.2 g List.mem_cons_self
    unfold putG
    by_cases e : fitG f g = true
    · rw [if_pos e]
      refine ⟨by have := h.1; simpa using Nat.le_succ_of_le this, fun x hx => ?_⟩
      rcases List.mem_cons.1 hx with rfl | hx
      · unfold fitG at e
        rw [Bool.and_eq_true, decide_eq_true_eq, decide_eq_true_eq] at e
        unfold takeG
        exact ⟨⟨by show 0 ≤ g.2.1 + f.2.2.1; omega, e.2⟩, by simp only [List.length_append, List.length_singleton]; omega⟩
      · have := h.2 x (List.mem_cons_of_mem _ hx)
        exact ⟨this.1, by omega⟩
    · rw [if_neg e]
      have hr : r.length + 1 ≤ n := by have := h.1; simpa using this
      obtain ⟨k, rfl⟩ : ∃ k, n = k + 1 := ⟨n - 1, by omega⟩
      have ih := putG_len f r
      have ih2 := putG_mem (f := f) (n := k + 1) hf r (fun x hx => h.2 x (List.mem_cons_of_mem _ hx))
      refine ⟨by simp only [List.length_cons]; omega, fun x hx => ?_⟩
      rcases List.mem_cons.1 hx with rfl | hx
      · exact ⟨hg.1, by omega⟩
      · exact ih2 x hx
 where
  putG_len (f : Fl) : ∀ gs : List Gp, (putG f gs).length ≤ gs.length + 1
    | [] => by simp [putG]
    | g :: r => by
      unfold putG
      split
      · simp
      · have := putG_len f r
        simp only [List.length_cons]
        omega
  putG_mem {f : Fl} {n : Nat} (hf : 0 ≤ f.2.2.1 ∧ f.2.2.1 ≤ 40) : ∀ gs : List Gp, (∀ g ∈ gs, (0 ≤ g.2.1 ∧ g.2.1 ≤ 40) ∧ g.2.2.length ≤ n) → ∀ g ∈ putG f gs, (0 ≤ g.2.1 ∧ g.2.1 ≤ 40) ∧ g.2.2.length ≤ n + 1
    | [], _, g, hg => by
      rw [putG, List.mem_singleton] at hg
      subst hg
      unfold takeG
      exact ⟨by simpa using hf, by simp⟩
    | a :: r, h, g, hg => by
      have ha := h a List.mem_cons_self
      unfold putG at hg
      by_cases e : fitG f a = true
      · rw [if_pos e] at hg
        rcases List.mem_cons.1 hg with rfl | hg
        · unfold fitG at e
          rw [Bool.and_eq_true, decide_eq_true_eq, decide_eq_true_eq] at e
          unfold takeG
          exact ⟨⟨by show 0 ≤ a.2.1 + f.2.2.1; omega, e.2⟩, by simp only [List.length_append, List.length_singleton]; omega⟩
        · have := h g (List.mem_cons_of_mem _ hg)
          exact ⟨this.1, by omega⟩
      · rw [if_neg e] at hg
        rcases List.mem_cons.1 hg with rfl | hg
        · exact ⟨ha.1, by omega⟩
        · exact putG_mem hf r (fun x hx => h x (List.mem_cons_of_mem _ hx)) g hg
theorem plN_ok {fs : List Fl} {least : Int} (hfs : ∀ f ∈ fs, 0 ≤ f.2.2.1 ∧ f.2.2.1 ≤ 40) : ∀ n, n ≤ fs.length → GsOk n (plN fs least n)
  | 0, _ => ⟨by simp [plN], fun g hg => by simp [plN] at hg⟩
  | n + 1, h => by
    have ih := plN_ok (least := least) hfs n (by omega)
    cases e : fewB least (fs[n]'(by omega)) with
    | true => rw [plN_yes (by omega) e]; exact putG_ok (hfs _ (List.getElem_mem _)) ih
    | false => rw [plN_no (by omega) e]; exact ih.mono
theorem file_rows {f : Fl} (h : fileE f = 0) : 0 ≤ f.2.2.1 ∧ f.2.2.1 ≤ 40 := by
  obtain ⟨_, _, _, _, hb⟩ := file_good h
  unfold bndB at hb
  simp only [Bool.and_eq_true, decide_eq_true_eq] at hb
  omega

set_option maxRecDepth 100000 in
set_option maxHeartbeats 8000000 in
theorem plan_few (v : Value) (fs : List Fl) (least : Int) (w : World) (a : Nat → Addr) (h : EnvL w a) (hx : FlsAt w v fs) (hl : fs.length ≤ 100) (hsz : Short fs) (hE : (listE fs).1 = 0) (hb0 : 0 ≤ least) (hb1 : least ≤ 41) (hfew : (plN fs least fs.length).length ≤ 1) :
    Calls Tryz.prog 10 #[v, .int .i64 least] w fun e w' => ∃ v', e = .returned (.tuple #[v', .nilIface]) ∧ TssAt w' v' (sevG (plN fs least fs.length)) ∧ Below w.heap.size w w' := by
  have hck := lcheck_any v fs w a h hx hl hsz
  have HEN : Hid (∀ W, Below w.heap.size w W → EnvN W a) := fun W hb => h.file.env.below hb
  have HX : Hid (∀ W, Below w.heap.size w W → FlsAt W v fs) := fun W hb => hx.below hb
  have HFS : Hid (∀ f ∈ fs, 0 ≤ f.2.2.1 ∧ f.2.2.1 ≤ 40) := fun f hf => file_rows ((listE_ok.1 hE).2.1 f hf).1
  have HIG : Hid (∀ f ∈ fs, ∀ W, Below w.heap.size w W → Calls Tryz.prog 39 #[flV f] W fun e w' => e = .returned (.bool (goneP f.1)) ∧ Below W.heap.size W w') := fun f hf W hb => isGone_any f W a (HEN.out W hb) (by have := (hsz f hf).1; omega)
  obtain ⟨q, cap, rfl⟩ := hx.form
  obtain ⟨L, hL⟩ : ∃ L, fs.length = L := ⟨_, rfl⟩
  have HL : Hid (fs.length = L) := hL
  have HPO : Hid (∀ n, n ≤ L → GsOk n (plN fs least n)) := fun n hn => plN_ok HFS.out n (by omega)
  have hL1 : L ≤ 100 := by omega
  rw [hL] at hck HX hfew ⊢
  clear hx hl hL hsz h
  go_enter Tryz.func10, Tryz.ntmps10
  go_wp2_with fail
  refine hck.mono ?_
  rintro e w1 ⟨ev, rfl, ht, hb1'⟩
  obtain rfl := ht.ok hE
  clear hck ht hE
  go_wp2_with fail
  go_loopw [7, 24] (fun u k wr => ∃ (n : Nat) (xs : List Gx), n ≤ L ∧ k = .int .i64 n ∧ GrsIn w.heap.size wr u xs ∧ xs.map (·.2.2) = plN fs least n ∧ Below w.heap.size w wr) (fun _ k _ => L - (intOf k).toNat)
  case atStart => exact ⟨0, [], by omega, rfl, GrsIn.nil _ _, rfl, hb1'⟩
  case round =>
  clear hb1'
  obtain ⟨n, xs, hn, rfl, hG, hm, hb⟩ := hrel
  have HM : Hid (xs.map (·.2.2) = plN fs least n) := hm
  have HG : Hid (GrsIn w.heap.size wr u7 xs) := hG
  clear hm hG
  by_cases hlt : n < L
  case neg =>
    obtain rfl : n = L := by omega
    have hii : ¬ (n : Int) < (n : Int) := by omega
    have hlx : xs.length ≤ 1 := by
      have e := congrArg List.length HM.out
      rw [List.length_map] at e
      omega
    obtain ⟨q7, c7, hu7⟩ := own_form HG.out.row
    have hsv := several_any w.heap.size u7 xs wr HG.out (by omega)
    rw [HM.out] at hsv
    subst hu7
    have hst := fun cv => sortS_tiny q7 xs.length c7 cv hlx wr
    generalize xs.length = XL at *
    clear HG HM hlx hfew HPO
    go_upto_region 13 with fail
    go_wp2_with fail
    refine (hst _).mono ?_
    rintro e w2 ⟨rfl, rfl⟩
    clear hst
    go_wp2_with fail
    refine hsv.mono ?_
    rintro e w3 ⟨v3, rfl, ht3, hb3⟩
    clear hsv
    have HT3 : Hid (TssAt w3 v3 (sevG (plN fs least n))) := ht3
    have hB3 : Below w.heap.size w w3 := hb.trans (hb3.mono hb.size)
    clear ht3
    go_wp2
    refine bodyPost_ret (v := .tuple #[v3, .nilIface]) (by simp [results, Tryz.results10, go_sem]) rfl ?_
    exact ⟨_, rfl, HT3.out, hB3⟩
  case pos =>
    have hltx : n < fs.length := by rw [HL.out]; exact hlt
    obtain ⟨b, o, hq, hc⟩ := (HX.out wr hb).cells (fun e => by rw [e] at hltx; simp at hltx)
    subst hq
    obtain ⟨c0, c1, c2, c3, c4, c5⟩ := hc n hltx
    have hi1 : (n : Int) < (L : Int) := by omega
    have hi0 : (0 : Int) ≤ (n : Int) := by omega
    have HIY : Hid (fewB least fs[n] = true → plN fs least (n + 1) = putG fs[n] (plN fs least n)) := fun e => plN_yes hltx e
    have HIN : Hid (fewB least fs[n] = false → plN fs least (n + 1) = plN fs least n) := fun e => plN_no hltx e
    have hfr := HFS.out fs[n] (List.getElem_mem _)
    have hig := HIG.out fs[n] (List.getElem_mem _)
    have HGO := HPO.out n (by omega)
    have HXO : Hid (GrOk xs ∧ xs.length ≤ 900 ∧ ∀ x ∈ xs, x.2.2.2.2.length ≤ 900) := by
      have e := HM.out
      have el : xs.length = (plN fs least n).length := by rw [← e, List.length_map]
      have em : ∀ x ∈ xs, x.2.2 ∈ plN fs least n := fun x hx => by rw [← e]; exact List.mem_map.2 ⟨x, hx, rfl⟩
      exact ⟨fun x hx => by have := (HGO.2 _ (em x hx)).1; omega, by have := HGO.1; omega, fun x hx => by have := (HGO.2 _ (em x hx)).2; omega⟩
    generalize fs[n] = g at c0 c1 c2 c3 c4 c5 HIY HIN hig hfr
    have hal : Below wr.heap.size wr (wr.alloc (.cells #[.string g.1, .string g.2.1, .int .i64 g.2.2.1, .int .i64 g.2.2.2.1, .int .i64 g.2.2.2.2.1, .int .i64 g.2.2.2.2.2] 43)) := (Below.refl _ _).alloc (Nat.le_refl _) _
    have hgn := FlAt.new wr g
    have hB2 : Below w.heap.size w (wr.alloc (.cells #[.string g.1, .string g.2.1, .int .i64 g.2.2.1, .int .i64 g.2.2.2.1, .int .i64 g.2.2.2.2.1, .int .i64 g.2.2.2.2.2] 43)) := hb.trans (hal.mono hb.size)
    have HG2 : Hid (GrsIn w.heap.size (wr.alloc (.cells #[.string g.1, .string g.2.1, .int .i64 g.2.2.1, .int .i64 g.2.2.2.1, .int .i64 g.2.2.2.2.1, .int .i64 g.2.2.2.2.2] 43)) u7 xs) := HG.out.below hal
    clear hc hltx HG hal hb HGO HPO hfew
    go_upto_region 10 with fail
    clear c0 c1 c2 c3 c4 c5
    generalize wr.alloc (.cells #[.string g.1, .string g.2.1, .int .i64 g.2.2.1, .int .i64 g.2.2.2.1, .int .i64 g.2.2.2.2.1, .int .i64 g.2.2.2.2.2] 43) = W2 at *
    generalize wr.heap.size = gb at *
    obtain ⟨d0, d1, d2, d3, d4, d5, -⟩ := hgn.cells
    have hig2 := hig W2 hB2
    unfold flV at hig2
    clear hig HIG
    go_wp2_with fail
    refine hig2.mono ?_
    rintro e w3 ⟨rfl, hb3⟩
    clear hig2 d0 d1 d2 d3 d4 d5
    have hB3 : Below w.heap.size w w3 := hB2.trans (hb3.mono hB2.size)
    have HG3 : Hid (GrsIn w.heap.size w3 u7 xs) := HG2.out.below hb3
    obtain ⟨d0, d1, d2, d3, d4, d5, -⟩ := (hgn.below hb3).cells
    clear HG2 hb3 hB2 hgn
    cases hGG : goneP g.1
    case true =>
      have HS : Hid (plN fs least (n + 1) = plN fs least n) := HIN.out (by unfold fewB; rw [hGG]; rfl)
      clear hGG HIY HIN
      go_wp2
      go_roundw
      case rel => exact ⟨n + 1, xs, by omega, by go_num, HG3.out, by rw [HS.out]; exact HM.out, hB3⟩
      case measure => simp [intOf]; omega
    case false =>
      by_cases hfw : g.2.2.1 < least
      · have HS : Hid (plN fs least (n + 1) = putG g (plN fs least n)) := HIY.out (by unfold fewB; rw [hGG, decide_eq_true hfw]; rfl)
        have hpt := put_any w.heap.size g u7 xs w3 HG3.out hB3.size HXO.out.1 ⟨hfr.1, by omega⟩ HXO.out.2.1 HXO.out.2.2
        rw [HM.out, ← HS.out] at hpt
        unfold flV at hpt
        clear hGG HIY HIN HXO HG3
        go_wp2_with fail
        refine hpt.mono ?_
        rintro e w4 ⟨v4, xs4, rfl, hG4, hm4, hb4⟩
        have HR : Hid (∃ (m : Nat) (ys : List Gx), m ≤ L ∧ Value.int .i64 ((n : Int) + 1) = .int .i64 m ∧ GrsIn w.heap.size w4 v4 ys ∧ ys.map (·.2.2) = plN fs least m ∧ Below w.heap.size w w4) := ⟨n + 1, xs4, by omega, by go_num, hG4, hm4, hB3.trans hb4⟩
        clear hpt hG4 hm4 hb4 HM HS d0 d1 d2 d3 d4 d5
        go_wp2
        go_roundw
        case rel =>
          obtain ⟨m, ys, g1, g2, g3, g4, g5⟩ := HR.out
          exact ⟨m, ys, g1, g2, g3, g4, g5⟩
        case measure => simp [intOf]; omega
      · have HS : Hid (plN fs least (n + 1) = plN fs least n) := HIN.out (by unfold fewB; rw [hGG, decide_eq_false hfw]; rfl)
        clear hGG HIY HIN
        go_wp2
        go_roundw
        case rel => exact ⟨n + 1, xs, by omega, by go_num, HG3.out, by rw [HS.out]; exact HM.out, hB3⟩
        case measure => simp [intOf]; omega
end Go.Proofs.YtgckdomafbnmkaaGreatDoor
namespace Go.Proofs.YtgckdomafbnmkaaGreatDoor
open Go.RowKit Go.Extern.Stop Go.Stop Go.Extern Go.Sort Go.Shelf Go.Lib

def pk2 : Fl := (⟨#[100, 97, 116, 97, 47, 50]⟩, ⟨#[97]⟩, 2, 0, 0, 1)
theorem pk_ok2 : fileE pk2 = 0 := by
  have h : pathO pk2.1.data.toList = some (false, 2) := on_path2
  unfold fileE
  rw [h]
  decide
theorem pk_fk2 : fk pk2 = 2 := on_fk2
theorem pk_two : (listE [oneF 49, pk2]).1 = 0 := listE_ok.2 ⟨by decide, rises_cons.2 ⟨on_ok1, by rw [on_fk1]; decide, rises_cons.2 ⟨pk_ok2, by rw [on_fk1, pk_fk2]; decide, by simp [Rises]⟩⟩⟩
theorem pk_gone1 : goneP (oneF 49).1 = false := by unfold goneP; rw [on_path1]
theorem pk_gone2 : goneP pk2.1 = false := by
  have h : pathO pk2.1.data.toList = some (false, 2) := on_path2
  unfold goneP
  rw [h]
theorem pk_few1 : fewB 10 (oneF 49) = true := by unfold fewB; rw [pk_gone1]; rfl
theorem pk_few2 : fewB 10 pk2 = true := by unfold fewB; rw [pk_gone2]; rfl
theorem pk_fit : fitG pk2 (takeG (oneF 49) (⟨#[97]⟩, 0, [])) = true := by
  unfold fitG
  rw [decide_eq_true (show (takeG (oneF 49) (⟨#[97]⟩, 0, [])).1 = pk2.2.1 from rfl)]
  rfl
theorem pk_plan : plN [oneF 49, pk2] 10 2 = [(⟨#[97]⟩, 3, [(oneF 49).1, pk2.1])] := by
  have h1 : plN [oneF 49, pk2] 10 1 = putG (oneF 49) (plN [oneF 49, pk2] 10 0) := plN_yes (by simp) pk_few1
  have h2 : plN [oneF 49, pk2] 10 2 = putG pk2 (plN [oneF 49, pk2] 10 1) := plN_yes (by simp) pk_few2
  rw [h2, h1]
  show putG pk2 (putG (oneF 49) []) = _
  have e : putG (oneF 49) [] = [takeG (oneF 49) (⟨#[97]⟩, 0, [])] := rfl
  rw [e]
  unfold putG
  rw [if_pos pk_fit]
  rfl
theorem pk_sev : sevG [((⟨#[97]⟩, 3, [(oneF 49).1, pk2.1]) : Gp)] = [[(oneF 49).1, pk2.1]] := rfl

theorem txs_of {W : World} {v : Value} {ts : List ByteArray} (h : TsAt W v ts) : TxsAt W v ts := by
  rcases h with ⟨rfl, rfl⟩ | ⟨b, cap, rfl, _, hc⟩
  · exact Or.inl ⟨_, _, rfl, rfl⟩
  · exact Or.inr ⟨b, 0, cap, rfl, fun j hj => by rw [Nat.zero_add]; exact hc j hj⟩
theorem txs_two (W : World) (p q : ByteArray) : TxsAt (W.alloc (.cells #[.string p, .string q] 9)) (.slice (some ⟨W.heap.size, 0, none⟩) 2 2) [p, q] := by
  refine Or.inr ⟨W.heap.size, 0, 2, rfl, fun j hj => ?_⟩
  match j, hj with
  | 0, _ => simp
  | 1, _ => simp

set_option maxRecDepth 100000 in
set_option maxHeartbeats 4000000 in
theorem packed_any (w : World) (a : Nat → Addr) (h : EnvL w a) :
    Calls Tryz.prog 6 #[] w fun e w' => e = .returned (.bool true) ∧ Below w.heap.size w w' := by
  have hal : Below w.heap.size w (w.alloc (.cells #[.string ⟨#[100, 97, 116, 97, 47, 49]⟩, .string ⟨#[97]⟩, .int .i64 1, .int .i64 0, .int .i64 0, .int .i64 1, .string ⟨#[100, 97, 116, 97, 47, 50]⟩, .string ⟨#[97]⟩, .int .i64 2, .int .i64 0, .int .i64 0, .int .i64 1] 43)) := (Below.refl _ _).alloc (Nat.le_refl _) _
  have hfl : FlsAt (w.alloc (.cells #[.string ⟨#[100, 97, 116, 97, 47, 49]⟩, .string ⟨#[97]⟩, .int .i64 1, .int .i64 0, .int .i64 0, .int .i64 1, .string ⟨#[100, 97, 116, 97, 47, 50]⟩, .string ⟨#[97]⟩, .int .i64 2, .int .i64 0, .int .i64 0, .int .i64 1] 43)) (.slice (some ⟨w.heap.size, 0, none⟩) 2 2) [oneF 49, pk2] := fls_two w (oneF 49) pk2
  have hpl := plan_few _ [oneF 49, pk2] 10 _ a (h.below hal) hfl (by decide) (fun f hf => by
    simp only [List.mem_cons, List.not_mem_nil, or_false] at hf
    rcases hf with rfl | rfl <;> decide) pk_two (by decide) (by decide) (by
    show (plN [oneF 49, pk2] 10 2).length ≤ 1
    rw [pk_plan]
    decide)
  have e2 : plN [oneF 49, pk2] 10 [oneF 49, pk2].length = [(⟨#[97]⟩, 3, [(oneF 49).1, pk2.1])] := pk_plan
  rw [e2, pk_sev] at hpl
  clear hfl h
  go_enter Tryz.func6, Tryz.ntmps6
  go_wp2_with fail
  refine hpl.mono ?_
  rintro e w1 ⟨v1, rfl, ht, hb1⟩
  clear hpl
  have hB1 := hal.trans (hb1.mono hal.size)
  obtain ⟨vs, hvl, hor, hts⟩ := ht
  rcases hor with ⟨_, h0⟩ | ⟨b, cap, rfl, hc⟩
  · exact absurd h0 (by simp)
  have hv1 : 0 < vs.length := by rw [hvl]; simp
  have c0 := hc 0 hv1
  have t0 := hts 0 hv1 (by simp)
  have hal2 : Below w1.heap.size w1 (w1.alloc (.cells #[.string ⟨#[100, 97, 116, 97, 47, 49]⟩, .string ⟨#[100, 97, 116, 97, 47, 50]⟩] 9)) := (Below.refl _ _).alloc (Nat.le_refl _) _
  have hsm := sameTexts_yes vs[0] _ [(oneF 49).1, pk2.1] _ ((txs_of t0).below hal2) (txs_two w1 (oneF 49).1 pk2.1) (by decide)
  have hB2 := hB1.trans (hal2.mono hB1.size)
  obtain ⟨tq, tc, hv0⟩ := t0.form
  rw [hv0] at c0 hsm
  have hsm' : Calls Tryz.prog 21 #[.slice tq 2 tc, .slice (some ⟨w1.heap.size, 0, none⟩) 2 2] (w1.alloc (.cells #[.string ⟨#[100, 97, 116, 97, 47, 49]⟩, .string ⟨#[100, 97, 116, 97, 47, 50]⟩] 9)) fun e w' => e = .returned (.bool true) ∧ Below (w1.alloc (.cells #[.string ⟨#[100, 97, 116, 97, 47, 49]⟩, .string ⟨#[100, 97, 116, 97, 47, 50]⟩] 9)).heap.size (w1.alloc (.cells #[.string ⟨#[100, 97, 116, 97, 47, 49]⟩, .string ⟨#[100, 97, 116, 97, 47, 50]⟩] 9)) w' := hsm
  have c0' : w1.cell? ⟨b, 0, none⟩ = some (.slice tq 2 tc) := c0
  clear hsm c0 hc hts t0 hvl hv1 hv0
  rw [show [[(oneF 49).1, pk2.1]].length = 1 from rfl]
  go_wp2_with fail
  refine hsm'.mono ?_
  rintro e w2 ⟨rfl, hb2⟩
  clear hsm'
  go_wp2
  go_ret
  exact ⟨rfl, hB2.trans (hb2.mono hB2.size)⟩
end Go.Proofs.YtgckdomafbnmkaaGreatDoor
