/-
  The contracts of scan.Rows and scan.Count.
-/
import Derived.Test.YtdhkdjlgmbejnaaGreatDoorListFnd
namespace Go.Proofs.YtdhkdjlgmbejnaaGreatDoor
open Go.RowKit Go.Extern.Stop Go.Stop Go.Extern Go.Sort Go.Shelf Go.Lib

structure CtOk (n : Nat) (c : Ct) (qs : List Int) : Prop where
  rows : c.1.length ≤ 40 * n
  keys : c.2.length ≤ 40 * n
  nums : qs.length ≤ n
  small : ∀ p ∈ c.1, -1073741824 ≤ p.1.2.1 ∧ p.1.2.1 ≤ 1073741824
theorem CtOk.start : CtOk 0 ([], []) [] := ⟨by simp, by simp, by simp, fun p hp => by cases hp⟩
theorem CtOk.step {n : Nat} {c : Ct} {qs : List Int} (h : CtOk n c qs) {obs : List Ob} {x : Fl} (hx : (fileR obs x).1 = 0) : CtOk (n + 1) (takeC x (fileR obs x).2 c) (takeQ x qs) := by
  obtain ⟨g, m, hp, hpart, hfe, hk0, hk1, hk2, hk3⟩ := file_count hx
  generalize (fileR obs x).2 = t at *
  have h1 := h.rows
  have h2 := h.keys
  have h3 := h.nums
  unfold takeQ
  by_cases hg : x.2.1.data.toList = [45]
  · obtain rfl := hpart.1 hg
    rw [takeC_gone hg, if_neg (by simpa using hg)]
    have hk2' : (goneO t.data.toList).1.length ≤ 40 := hk2
    exact ⟨by dsimp only; omega, by dsimp only; rw [List.length_append, List.length_map]; omega, by omega, h.small⟩
  · obtain rfl : g = false := by
      cases g with
      | false => rfl
      | true => exact absurd (hpart.2 rfl) hg
    rw [takeC_data hg, if_pos hg]
    have hdl : (dataO t.data.toList).1.length = (keysF false t.data.toList).1.length := by
      show _ = (keysR (dataO t.data.toList).1).length
      rw [keysR_len]
    refine ⟨by dsimp only; rw [List.length_append, List.length_map]; omega, by dsimp only; omega, by rw [List.length_cons]; omega, fun p hp' => ?_⟩
    rw [List.mem_append] at hp'
    rcases hp' with hp' | hp'
    · exact h.small p hp'
    · obtain ⟨r, hr, rfl⟩ := List.mem_map.1 hp'
      exact hk3 r.2.1 (by simp only [keysF, Bool.false_eq_true, if_false]; exact List.mem_map.2 ⟨r, hr, rfl⟩)

theorem FlsAt.butC {W W' : World} {base b1 b2 : Nat} {c : Ct} {qs : List Int} {v : Value} {fs : List Fl} (h : FlsAt W v fs) (hB : But (OfC W base b1 b2) W W') (hC : CtAt W base b1 b2 c qs) (hb : base = W.heap.size) : FlsAt W' v fs := by
  have key : ∀ {b o : Nat} {u : Value}, W.cell? ⟨b, o, none⟩ = some u → W'.cell? ⟨b, o, none⟩ = some u := fun {b o u} hc => by
    have hlt := cell_lt hc
    obtain ⟨n1, n2⟩ := hC.noCell hc
    have e := ofC_old hB hlt (by rw [hb]; exact hlt) n1 n2
    rw [← hc]
    unfold World.cell?
    rw [e]
  rcases h with h | ⟨b, o, cap, hv, hl, hc⟩
  · exact Or.inl h
  · exact Or.inr ⟨b, o, cap, hv, hl, fun j hj => ⟨key (hc j hj).1, key (hc j hj).2.1, key (hc j hj).2.2.1, key (hc j hj).2.2.2.1, key (hc j hj).2.2.2.2.1, key (hc j hj).2.2.2.2.2⟩⟩

def RowsCP (a : Nat → Addr) (W : World) (R : List Rw × Nat × Option Nat) (e : Ending) (w' : World) : Prop := ∃ v' ev, e = .returned (.tuple #[v', ev]) ∧ RowsAt w' v' R.1 ∧ ToldE w' a ev R.2 ∧ Below W.heap.size W w'

section
variable {a : Nat → Addr} {B : Nat} {EM : World → Prop} {SAt : World → Value → (Nat → Prop) → St → Prop}
set_option maxRecDepth 100000 in
set_option maxHeartbeats 8000000 in
theorem srowsN_any (K : StoreK a B EM SAt) (HV : ∀ W, EM W → EnvF W a ∧ Hand W ∧ EnvL W a) (W : World) (v : Value) (FP : Nat → Prop) (st : St) (s : Sn) (vf : Value) (lo hi : Int) (hE : EM W) (hat : SAt W v FP st) (ks : Keeps st) (hx : FlsAt W vf s.2.2.2.2.2.2) (hl : s.2.2.2.2.2.2.length ≤ 100) (hsh : Short s.2.2.2.2.2.2) :
    Calls Tryz.prog 10 #[v, snV s vf, .int .i64 lo, .int .i64 hi] W (fun e w' => RowsCP a W (rowsS st.obs s lo hi) e w' ∧ NewE W e) := by
  obtain ⟨pt, rfl⟩ := K.ptr _ _ _ _ hat
  obtain ⟨vq, vc, rfl⟩ := hx.form
  have hBW := K.size W hE
  have HEM : Hid (∀ X, Below W.heap.size W X → EM X) := fun X hX => K.below W X hE (hX.mono hBW)
  have HAT : Hid (∀ X, Below W.heap.size W X → SAt X (.pointer (some pt)) FP st) := fun X hX => K.keep _ X _ _ (fun _ => False) _ hat (But.of_below hX) (fun _ _ h => h)
  have HRD : Hid (∀ (X : World) (base b1 b2 : Nat) (c : Ct) (qs : List Int) (x : Fl), Below W.heap.size W X → CtAt X base b1 b2 c qs → base ≤ X.heap.size → x.1.size ≤ 1000 → x.2.1.size ≤ 1000 → qs.length ≤ 100 → c.1.length ≤ 10000 → c.2.length ≤ 10000 → Calls Tryz.prog 42 #[ctV b1 b2, .pointer (some pt), flV x] X (ReadCP a X st.obs base b1 b2 c qs x)) := fun X base b1 b2 c qs x hX h h1 h2 h3 h4 h5 h6 =>
    sread2_any K (fun W hW => ⟨(HV W hW).1, (HV W hW).2.1⟩) X (HEM.out X hX) (.pointer (some pt)) FP st (HAT.out X hX) ks base b1 b2 c qs x h h1 h2 h3 h4 h5 h6
  have HFX : Hid (∀ X, Below W.heap.size W X → FlsAt X (.slice vq s.2.2.2.2.2.2.length vc) s.2.2.2.2.2.2) := fun X hX => hx.below hX
  have HCK : Hid (∀ X, Below W.heap.size W X → Calls Tryz.prog 39 #[snV s (.slice vq s.2.2.2.2.2.2.length vc)] X fun e w' => ∃ ev, e = .returned ev ∧ ToldE w' a ev (snapE s) ∧ Below X.heap.size X w') := fun X hX => scheck_any s _ X a (HV X (HEM.out X hX)).2.2 (HFX.out X hX) hl hsh
  have HSH : Hid (Short s.2.2.2.2.2.2) := hsh
  have HRB : Hid (∀ (n : Nat) (x : Fl), (snapE s).1 = 0 → (s.2.2.2.2.2.2.filter (inP lo hi))[n]? = some x → (∀ m y, m < n → (s.2.2.2.2.2.2.filter (inP lo hi))[m]? = some y → (fileR st.obs y).1 = 0) → (fileR st.obs x).1 ≠ 0 → rowsS st.obs s lo hi = ([], (fileR st.obs x).1, some (findF s.2.2.2.2.2.2 x.1).toNat) ∧ 0 ≤ findF s.2.2.2.2.2.2 x.1) := fun n x he hn hm hb => by
    obtain ⟨j, h1, h2⟩ := rows_bad he n x hn hm hb
    rw [find_rise (snap_list he).2 h1]
    exact ⟨h2, by omega⟩
  have HRG : Hid (∀ (ps : List Int), (snapE s).1 = 0 → (∀ x ∈ s.2.2.2.2.2.2.filter (inP lo hi), (fileR st.obs x).1 = 0) → ps.Nodup → (∀ p ∈ (readC st.obs (s.2.2.2.2.2.2.filter (inP lo hi)) ([], [])).1, p.2 ∈ ps) → rowsS st.obs s lo hi = (sortR ((aliveQ (readC st.obs (s.2.2.2.2.2.2.filter (inP lo hi)) ([], [])) ps).filter (inB lo hi)), 0, none)) := fun ps he h hn hq => rows_done he h ps hn hq
  have HRE : Hid ((snapE s).1 ≠ 0 → rowsS st.obs s lo hi = ([], snapE s)) := fun h => by unfold rowsS; rw [if_pos h]
  generalize rowsS st.obs s lo hi = R at HRB HRG HRE ⊢
  have hsn := SnAt.new W s (.slice vq s.2.2.2.2.2.2.length vc)
  have hal : Below W.heap.size W (W.alloc (.cells #[.int .i64 s.1, .int .i64 s.2.1, .int .i64 s.2.2.1, .int .i64 s.2.2.2.1, .int .i64 s.2.2.2.2.1, .string s.2.2.2.2.2.1, .slice vq s.2.2.2.2.2.2.length vc] 25)) := (Below.refl _ _).alloc (Nat.le_refl _) _
  clear hE hat ks hx K HV hBW HEM HAT hsh
  unfold snV at HCK ⊢
  obtain ⟨id, par, seq, day, idx, op, fs⟩ := s
  dsimp only at *
  obtain ⟨L, hL⟩ : ∃ L, fs.length = L := ⟨_, rfl⟩
  have HLE0 : Hid (fs.length = L) := hL
  rw [hL] at hl HFX HCK hsn hal ⊢
  clear hL
  go_enter Tryz.func10, Tryz.ntmps10
  go_upto_region 1 with fail
  have HA : Hid (Below W.heap.size W (W.alloc (.cells #[.int .i64 id, .int .i64 par, .int .i64 seq, .int .i64 day, .int .i64 idx, .string op, .slice vq L vc] 25))) := hal
  have hck := HCK.out _ hal
  clear hal HCK
  generalize W.alloc (.cells #[.int .i64 id, .int .i64 par, .int .i64 seq, .int .i64 day, .int .i64 idx, .string op, .slice vq L vc] 25) = W1 at *
  obtain ⟨sb, hsbe⟩ : ∃ k, W.heap.size = k := ⟨_, rfl⟩
  have HSB : Hid (W.heap.size = sb) := hsbe
  rw [hsbe] at hsn
  rw [hsbe]
  clear hsbe
  obtain ⟨z0, z1, z2, z3, z4, z5, z6⟩ := hsn.cells
  go_wp2_with fail
  refine hck.mono ?_
  rintro e w2 ⟨ev, rfl, ht, hb2⟩
  clear hck z0 z1 z2 z3 z4 z5 z6
  have hB2 : Below W.heap.size W w2 := HA.out.trans (hb2.mono HA.out.size)
  have hsn2 := hsn.below hb2
  clear hsn hb2 HA
  by_cases hs0 : (snapE (id, par, seq, day, idx, op, fs)).1 = 0
  case neg =>
    obtain ⟨t, u, rfl⟩ := ht.bad hs0
    have HT : Hid (ToldE w2 a (.iface t u) R.2 ∧ R.1 = []) := by
      rw [HRE.out hs0]
      exact ⟨ht, rfl⟩
    clear HRB HRG HRE ht hsn2 HFX HRD HSH
    go_wp2
    go_ret2
    exact ⟨⟨_, _, rfl, by rw [HT.out.2]; exact Or.inl ⟨none, 0, rfl, rfl⟩, HT.out.1, hB2⟩, newE_mk (newF_nil _)⟩
  obtain rfl : ev = .nilIface := ht.ok hs0
  clear ht HRE
  have HS0 : Hid ((snapE (id, par, seq, day, idx, op, fs)).1 = 0) := hs0
  clear hs0
  have hnc := newContent_any w2
  go_wp2_with fail
  refine hnc.mono ?_
  rintro e w3 ⟨b1, b2, rfl, hb1, hb2', hl1, hl2, hC3, hb3⟩
  clear hnc
  have hal4 : Below w3.heap.size w3 (w3.alloc (.cells #[.map (some b1), .map (some b2)] 88)) := (Below.refl _ _).alloc (Nat.le_refl _) _
  have hcb4 : (w3.alloc (.cells #[.map (some b1), .map (some b2)] 88)).heap[w3.heap.size]? = some (.cells #[.map (some b1), .map (some b2)] 88 (0, 0)) := heap_alloc_new _ _
  have hb34 : Below w2.heap.size w2 (w3.alloc (.cells #[.map (some b1), .map (some b2)] 88)) := hb3.trans (hal4.mono hb3.size)
  have hB4 : Below W.heap.size W (w3.alloc (.cells #[.map (some b1), .map (some b2)] 88)) := hB2.trans (hb34.mono hB2.size)
  have HC4 : Hid (∀ base, b1 < base → b2 < base → CtAt (w3.alloc (.cells #[.map (some b1), .map (some b2)] 88)) base b1 b2 ([], []) []) := fun base h1 h2 => (hC3 base h1 h2).below hal4
  have hsn4 := hsn2.below hb34
  have HLE : Hid (W.heap.size ≤ b1 ∧ W.heap.size ≤ b2 ∧ b1 < w3.heap.size ∧ b2 < w3.heap.size) := ⟨Nat.le_trans hB2.size hb1, Nat.le_trans hB2.size hb2', hl1, hl2⟩
  clear hC3 hb3 hal4 hb34 hsn2 hB2 hb1 hb2' hl1 hl2
  go_upto_region 7 with fail
  have hsz4 : (w3.alloc (.cells #[.map (some b1), .map (some b2)] 88)).heap.size = w3.heap.size + 1 := by simp
  generalize w3.alloc (.cells #[.map (some b1), .map (some b2)] 88) = w4 at *
  generalize w3.heap.size = cb at *
  have z6 := hsn4.cells.2.2.2.2.2.2
  have hpr := prune_any (.slice vq L vc) fs lo hi w4 (HFX.out w4 hB4) (by rw [HLE0.out]; omega)
  obtain ⟨G, hG⟩ : ∃ G, fs.filter (inP lo hi) = G := ⟨_, rfl⟩
  have HGL : Hid (G.length ≤ L) := by
    show _ ≤ _
    rw [← hG, ← HLE0.out]
    exact List.length_filter_le _ _
  have HGS : Hid (∀ x ∈ G, x.1.size ≤ 30 ∧ x.2.1.size ≤ 30) := fun x hx => by
    rw [← hG] at hx
    exact HSH.out x (List.mem_filter.1 hx).1
  rw [hG] at hpr HRB HRG
  clear hG HSH
  go_wp2_with fail
  refine hpr.mono ?_
  rintro e w5 ⟨v5, rfl, hf5, hb5⟩
  clear hpr z6
  obtain ⟨gq, gc, rfl⟩ := hf5.form
  have hB5 : Below W.heap.size W w5 := hB4.trans (hb5.mono hB4.size)
  have hsn5 := hsn4.below hb5
  have hcb5 := (hb5.block cb (Array.getElem?_eq_some_iff.1 hcb4).1).trans hcb4
  have hC5 : CtAt w5 w5.heap.size b1 b2 ([], []) [] := by
    have h1 := HLE.out
    have h2 := hb5.size
    exact (HC4.out w5.heap.size (by omega) (by omega)).below hb5
  have hcbs : cb < w5.heap.size := (Array.getElem?_eq_some_iff.1 hcb5).1
  have hcbn : cb ≠ b1 ∧ cb ≠ b2 := by
    have h1 := HLE.out
    exact ⟨by omega, by omega⟩
  have hsbs : sb < w5.heap.size := hsn5.lt
  have hsbn : sb ≠ b1 ∧ sb ≠ b2 := hC5.noCell hsn5.cells.1
  have H5 : Hid (SnAt w5 sb (id, par, seq, day, idx, op, fs) (.slice vq L vc) ∧ w5.heap[cb]? = some (.cells #[.map (some b1), .map (some b2)] 88 (0, 0)) ∧ CtAt w5 w5.heap.size b1 b2 ([], []) [] ∧ Below W.heap.size W w5 ∧ FlsAt w5 (.slice gq G.length gc) G) := ⟨hsn5, hcb5, hC5, hB5, hf5⟩
  have HFR : Hid (∀ X, But (OfC w5 w5.heap.size b1 b2) w5 X → SnAt X sb (id, par, seq, day, idx, op, fs) (.slice vq L vc) ∧ X.heap[cb]? = some (.cells #[.map (some b1), .map (some b2)] 88 (0, 0)) ∧ Below W.heap.size W X ∧ FlsAt X (.slice gq G.length gc) G) := fun X hX => by
    obtain ⟨g1, g2, g3, g4, g5⟩ := H5.out
    have h1 := HLE.out
    exact ⟨(ofC_old hX hsbs hsbs hsbn.1 hsbn.2).trans g1, (ofC_old hX hcbs hcbs hcbn.1 hcbn.2).trans g2, g4.trans (ofC_below hX g4.size h1.1 h1.2.1 g4.size), g5.butC hX g3 rfl⟩
  obtain ⟨M, hM⟩ : ∃ M, G.length = M := ⟨_, rfl⟩
  have HM : Hid (G.length = M) := hM
  have hMl : M ≤ L := by rw [← hM]; exact HGL.out
  rw [hM] at HFR ⊢
  clear hM hf5 hb5 hB4 hsn4 hcb4 hsn5 hcb5 hC5 hcbs hcbn hsbs hsbn HC4 hsz4 hB5
  go_wp2
  go_loopw [30] (fun k wr => ∃ (n : Nat) (qs : List Int), n ≤ M ∧ k = .int .i64 n ∧ (∀ m y, m < n → G[m]? = some y → (fileR st.obs y).1 = 0) ∧ CtAt wr w5.heap.size b1 b2 (readC st.obs (G.take n) ([], [])) qs ∧ CtOk n (readC st.obs (G.take n) ([], [])) qs ∧ But (OfC w5 w5.heap.size b1 b2) w5 wr) (fun k _ => M - (intOf k).toNat)
  case atStart => exact ⟨0, [], by omega, rfl, fun m y hm => absurd hm (Nat.not_lt_zero _), by simpa [readC] using H5.out.2.2.1, by simpa [readC] using CtOk.start, But.refl _ _⟩
  case round =>
    obtain ⟨n, qs, hn, rfl, hok, hCn, hOk, hBn⟩ := hrel
    have HOK : Hid (∀ m y, m < n → G[m]? = some y → (fileR st.obs y).1 = 0) := hok
    have HCN : Hid (CtAt wr w5.heap.size b1 b2 (readC st.obs (G.take n) ([], [])) qs ∧ CtOk n (readC st.obs (G.take n) ([], [])) qs ∧ But (OfC w5 w5.heap.size b1 b2) w5 wr) := ⟨hCn, hOk, hBn⟩
    obtain ⟨hsnr, hcbr, hBr, hfr⟩ := HFR.out wr hBn
    have k0 : wr.cell? ⟨cb, 0, none⟩ = some (.map (some b1)) := by rw [cell_of_row _ _ _ _ _ _ hcbr]; rfl
    have k1 : wr.cell? ⟨cb, 1, none⟩ = some (.map (some b2)) := by rw [cell_of_row _ _ _ _ _ _ hcbr]; rfl
    clear hok hCn hOk hBn
    by_cases hlt : n < M
    case neg =>
      obtain rfl : n = M := by omega
      have ht : G.take n = G := List.take_of_length_le (by rw [HM.out]; omega)
      rw [ht] at HCN
      have hgood : ∀ x ∈ G, (fileR st.obs x).1 = 0 := fun x hx => by
        obtain ⟨m, hm, rfl⟩ := List.getElem_of_mem hx
        exact HOK.out m _ (by rw [← HM.out]; exact hm) (List.getElem?_eq_getElem hm)
      have HGD : Hid (∀ x ∈ G, (fileR st.obs x).1 = 0) := hgood
      have h1 := HCN.out.2.1.rows
      have hal := alive_any wr w5.heap.size b1 b2 _ qs HCN.out.1 (fun p hp => by have := HCN.out.2.1.small p hp; omega) (by omega) (by have := HCN.out.2.1.nums; omega)
      have hwi : ∀ (X : World) (u : Value) (ps : List Int), ps.Nodup → (∀ z ∈ qs, z ∈ ps) → RowsAt X u (aliveQ (readC st.obs G ([], [])) ps) → Calls Tryz.prog 12 #[u, .int .i64 lo, .int .i64 hi] X fun e w' => ∃ v', e = .returned v' ∧ RowsAt w' v' ((aliveQ (readC st.obs G ([], [])) ps).filter (inB lo hi)) ∧ ((aliveQ (readC st.obs G ([], [])) ps).filter (inB lo hi)).length ≤ 20000 ∧ R = (sortR ((aliveQ (readC st.obs G ([], [])) ps).filter (inB lo hi)), 0, none) ∧ Below X.heap.size X w' := fun X u ps hn hq hu => by
        have hall : ∀ p ∈ (readC st.obs G ([], [])).1, p.2 ∈ ps := fun p hp => by
          obtain ⟨D, hv, hG⟩ := HCN.out.1.rows
          exact hq _ (hG.all p hp)
        have hlen : (aliveQ (readC st.obs G ([], [])) ps).length ≤ 4000 := by
          have := (alive_perm _ ps hn hall).length_eq
          rw [this, List.length_map]
          exact Nat.le_trans (List.length_filter_le _ _) (by omega)
        have hR := HRG.out ps HS0.out HGD.out hn hall
        exact (within_any u _ lo hi X hu (by omega)).mono fun e w' ⟨v', he, hr, hb⟩ => ⟨v', he, hr, Nat.le_trans (List.length_filter_le _ _) (by omega), hR, hb⟩
      have HWI : Hid _ := hwi
      clear hwi hgood ht HRB HRG HRD HFX HOK h1 hsnr hcbr hfr
      go_wp2_with fail
      refine hal.mono ?_
      rintro e w6 ⟨v6, ps, rfl, hnd, hall, hr6, hb6⟩
      clear hal k0 k1
      have hwi := HWI.out w6 v6 ps hnd hall hr6
      obtain ⟨q6, c6, rfl⟩ := hr6.form
      clear HWI hnd hall hr6 HCN
      generalize (aliveQ (readC st.obs G ([], [])) ps).filter (inB lo hi) = ys at hwi
      generalize (aliveQ (readC st.obs G ([], [])) ps).length = al at *
      go_wp2_with fail
      refine hwi.mono ?_
      rintro e w7 ⟨v7, rfl, hr7, hl7, hR7, hb7⟩
      clear hwi
      have hso := sortN_any v7 ys w7 hr7 hl7
      obtain ⟨q7, c7, rfl⟩ := hr7.form
      have HR7 : Hid (R = (sortR ys, 0, none)) := hR7
      have hb67 : Below w6.heap.size w6 w7 := hb7
      have hB7 : Below W.heap.size W w7 := (hBr.trans (hb6.mono hBr.size)).trans (hb7.mono (Nat.le_trans hBr.size hb6.size))
      clear hR7 hr7 hb7 hb6
      generalize ys.length = yl at *
      go_wp2_with fail
      refine hso.mono ?_
      rintro e w8 ⟨v8, rfl, hr8, hb8, hnw8⟩
      clear hso
      obtain ⟨q8, c8, rfl⟩ := hr8.form
      have HNW : Hid (NewF W (.slice q8 (sortR ys).length c8)) := NewF.up (w := W) (w' := w7) hnw8 hB7.size
      clear hnw8
      have HEND : Hid (RowsAt w8 (.slice q8 (sortR ys).length c8) R.1 ∧ ToldE w8 a .nilIface R.2 ∧ Below W.heap.size W w8) := by
        rw [HR7.out]
        exact ⟨hr8, rfl, hB7.trans (hb8.mono hB7.size)⟩
      clear hr8
      generalize (sortR ys).length = sl at *
      go_wp2
      go_ret2
      exact ⟨⟨_, _, rfl, HEND.out.1, HEND.out.2.1, HEND.out.2.2⟩, newE_mk HNW.out⟩
    have hltx : n < G.length := by rw [HM.out]; exact hlt
    obtain ⟨bq, oq, hq, hc⟩ := hfr.cells (fun e => by rw [e] at hltx; simp at hltx)
    subst hq
    obtain ⟨c0, c1, c2, c3, c4, c5⟩ := hc n hltx
    obtain ⟨s1, s2⟩ := HGS.out G[n] (List.getElem_mem _)
    have HXN : Hid (G[n]? = some G[n] ∧ G.take (n + 1) = G.take n ++ [G[n]]) := ⟨List.getElem?_eq_getElem hltx, List.take_succ_eq_append_getElem hltx⟩
    generalize G[n] = x at c0 c1 c2 c3 c4 c5 s1 s2 HXN
    have hx5 := FlAt.new wr x
    have hb6 : Below wr.heap.size wr (wr.alloc (.cells #[.string x.1, .string x.2.1, .int .i64 x.2.2.1, .int .i64 x.2.2.2.1, .int .i64 x.2.2.2.2.1, .int .i64 x.2.2.2.2.2] 63)) := (Below.refl _ _).alloc (Nat.le_refl _) _
    have hiL : (n : Int) < (M : Int) := by omega
    have hi00 : (0 : Int) ≤ (n : Int) := by omega
    have hB6 : Below W.heap.size W (wr.alloc (.cells #[.string x.1, .string x.2.1, .int .i64 x.2.2.1, .int .i64 x.2.2.2.1, .int .i64 x.2.2.2.2.1, .int .i64 x.2.2.2.2.2] 63)) := hBr.trans (hb6.mono hBr.size)
    have hC6 := HCN.out.1.below hb6
    have hBB6 : But (OfC w5 w5.heap.size b1 b2) w5 (wr.alloc (.cells #[.string x.1, .string x.2.1, .int .i64 x.2.2.1, .int .i64 x.2.2.2.1, .int .i64 x.2.2.2.2.1, .int .i64 x.2.2.2.2.2] 63)) := ofC_trans HCN.out.2.2 (But.of_below hb6)
    have m0 := below_keep hb6 k0
    have m1 := below_keep hb6 k1
    clear hc hltx hsnr hcbr hfr hBr
    go_upto_region 10 with fail
    generalize wr.alloc (.cells #[.string x.1, .string x.2.1, .int .i64 x.2.2.1, .int .i64 x.2.2.2.1, .int .i64 x.2.2.2.2.1, .int .i64 x.2.2.2.2.2] 63) = w6 at *
    generalize wr.heap.size = xb at *
    clear c0 c1 c2 c3 c4 c5 k0 k1 hb6
    obtain ⟨d0, d1, d2, d3, d4, d5, -⟩ := hx5.cells
    have h1 := HCN.out.2.1.rows
    have h2 := HCN.out.2.1.keys
    have h3 := HCN.out.2.1.nums
    have hrd := HRD.out w6 w5.heap.size b1 b2 _ qs x hB6 hC6 hBB6.size (by omega) (by omega) (by omega) (by omega) (by omega)
    unfold flV ctV at hrd
    have HC6 : Hid (CtAt w6 w5.heap.size b1 b2 (readC st.obs (G.take n) ([], [])) qs) := hC6
    have HB6 : Hid (But (OfC w5 w5.heap.size b1 b2) w5 w6 ∧ Below W.heap.size W w6) := ⟨hBB6, hB6⟩
    have HX6 : Hid (FlAt w6 xb x) := hx5
    clear hC6 hBB6 hB6 hx5 h1 h2 h3
    by_cases hfx : (fileR st.obs x).1 = 0
    case pos =>
      have HFX0 : Hid ((fileR st.obs x).1 = 0) := hfx
      clear hfx
      go_wp2_with fail
      refine hrd.mono ?_
      intro e w7 h7
      obtain ⟨-, rfl, hC7, hB7⟩ : (fileR st.obs x).1 = 0 ∧ e = .returned .nilIface ∧ CtAt w7 w5.heap.size b1 b2 (takeC x (fileR st.obs x).2 (readC st.obs (G.take n) ([], []))) (takeQ x qs) ∧ But (OfC w6 w5.heap.size b1 b2) w6 w7 := by
        rcases h7 with h7 | h7
        · exact absurd HFX0.out h7.1
        · exact h7
      have HNX : Hid ((∀ m y, m < n + 1 → G[m]? = some y → (fileR st.obs y).1 = 0) ∧ CtAt w7 w5.heap.size b1 b2 (readC st.obs (G.take (n + 1)) ([], [])) (takeQ x qs) ∧ CtOk (n + 1) (readC st.obs (G.take (n + 1)) ([], [])) (takeQ x qs) ∧ But (OfC w5 w5.heap.size b1 b2) w5 w7) := by
        obtain ⟨g1, g2⟩ := HXN.out
        rw [g2, readC_snoc]
        refine ⟨fun m y hm hy => ?_, hC7, HCN.out.2.1.step HFX0.out, ofC_trans HB6.out.1 hB7⟩
        by_cases e : m = n
        · subst e
          rw [g1] at hy
          rw [← Option.some.inj hy]
          exact HFX0.out
        · exact HOK.out m y (by omega) hy
      clear hrd d0 d1 d2 d3 d4 d5 m0 m1 hC7 hB7 h7 HCN HC6 HX6 HB6
      go_wp2
      go_roundw
      case rel => exact ⟨n + 1, takeQ x qs, by omega, by go_num, HNX.out.1, HNX.out.2.1, HNX.out.2.2.1, HNX.out.2.2.2⟩
      case measure => simp [intOf]; omega
    case neg =>
      obtain ⟨hRR, hfi0⟩ := HRB.out n x HS0.out HXN.out.1 HOK.out hfx
      have HRR : Hid (R = ([], (fileR st.obs x).1, some (findF fs x.1).toNat) ∧ 0 ≤ findF fs x.1) := ⟨hRR, hfi0⟩
      obtain ⟨ec, hec⟩ : ∃ c, (fileR st.obs x).1 = c + 1 := ⟨(fileR st.obs x).1 - 1, by omega⟩
      have HEC : Hid ((fileR st.obs x).1 = ec + 1) := hec
      clear hRR hfi0 hfx hec
      go_wp2_with fail
      refine hrd.mono ?_
      intro e w7 h7
      obtain ⟨rfl, hb7⟩ : e = .returned (.iface 327 (.pointer (some (a ec)))) ∧ Below w6.heap.size w6 w7 := by
        rcases h7 with h7 | h7
        · refine ⟨?_, h7.2.2⟩
          rw [h7.2.1, HEC.out]
          rfl
        · exact absurd h7.1 (by rw [HEC.out]; omega)
      have hB7 : Below W.heap.size W w7 := HB6.out.2.trans (hb7.mono HB6.out.2.size)
      have hBB7 : But (OfC w5 w5.heap.size b1 b2) w5 w7 := ofC_trans HB6.out.1 (But.of_below hb7)
      have hx7 := HX6.out.below hb7
      have z6 := (HFR.out w7 hBB7).1.cells.2.2.2.2.2.2
      obtain ⟨y0, -⟩ := hx7.cells
      have hfd := find_any (.slice vq L vc) fs x.1 w7 (HFX.out w7 hB7) (by rw [HLE0.out]; omega)
      clear hrd d0 d1 d2 d3 d4 d5 m0 m1 h7 HCN HC6 HX6 HB6 hb7 hBB7 hx7 HFR H5 HRD HFX HXN HOK HRB HRG
      generalize findF fs x.1 = fi at *
      go_wp2_with fail
      refine hfd.mono ?_
      rintro e w8 ⟨rfl, hb8⟩
      clear hfd z6 y0
      have hB8 : Below W.heap.size W w8 := hB7.trans (hb8.mono hB7.size)
      have HEND : Hid (R.1 = [] ∧ ToldE (w8.alloc (.cells #[.int .i64 fi, .iface 327 (.pointer (some (a ec)))] 94)) a (.iface 92 (.pointer (some ⟨w8.heap.size, 0, none⟩))) R.2 ∧ Below W.heap.size W (w8.alloc (.cells #[.int .i64 fi, .iface 327 (.pointer (some (a ec)))] 94))) := by
        rw [HRR.out.1]
        refine ⟨rfl, ⟨by rw [HEC.out]; omega, w8.heap.size, rfl, ?_, ?_⟩, hB8.alloc hB8.size _⟩
        · rw [Int.toNat_of_nonneg HRR.out.2]; simp
        · rw [HEC.out]; simp [errV]
      clear hB8 hB7
      go_wp2
      go_ret2
      exact ⟨⟨_, _, rfl, by rw [HEND.out.1]; exact Or.inl ⟨none, 0, rfl, rfl⟩, HEND.out.2.1, HEND.out.2.2⟩, newE_mk (newF_nil _)⟩
theorem srows_any (K : StoreK a B EM SAt) (HV : ∀ W, EM W → EnvF W a ∧ Hand W ∧ EnvL W a) (W : World) (v : Value) (FP : Nat → Prop) (st : St) (s : Sn) (vf : Value) (lo hi : Int) (hE : EM W) (hat : SAt W v FP st) (ks : Keeps st) (hx : FlsAt W vf s.2.2.2.2.2.2) (hl : s.2.2.2.2.2.2.length ≤ 100) (hsh : Short s.2.2.2.2.2.2) :
    Calls Tryz.prog 10 #[v, snV s vf, .int .i64 lo, .int .i64 hi] W (RowsCP a W (rowsS st.obs s lo hi)) :=
  (srowsN_any K HV W v FP st s vf lo hi hE hat ks hx hl hsh).mono fun _ _ h => h.1
end
end Go.Proofs.YtdhkdjlgmbejnaaGreatDoor
