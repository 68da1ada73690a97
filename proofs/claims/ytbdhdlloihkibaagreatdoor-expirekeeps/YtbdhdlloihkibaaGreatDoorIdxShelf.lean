/-
  The contracts of the library that this seat takes, in plain words.
-/
import Derived.Test.YtbdhdlloihkibaaGreatDoorLaw2
import Derived.Test.YtbdhdlloihkibaaGreatDoorExpBin
import Derived.Test.YtbdhdlloihkibaaGreatDoorStoMeth2
import Derived.Shelf.Strings.Search3
namespace Go.Proofs.YtbdhdlloihkibaaGreatDoor
open Go.RowKit Go.Extern.Stop Go.Stop Go.Extern Go.Sort Go.Shelf Go.Lib Go.Maps

set_option maxRecDepth 100000 in
set_option maxHeartbeats 2000000 in
theorem orph1_any (x : ByteArray) (hx : x.size ≤ maxLen) (rb db sb ab : Nat) (rv : Value) (us : List ByteArray) (age : Int) {W : World} {b : Nat} {mo : Option Nat} {q : ByteArray → Nat} {s : St} (hs : SIn W b mo q s) (K : Keeps s) (hA : Aged s) (c7 : W.cell? ⟨rb, 0, none⟩ = some rv) (ht : TxsAt W rv us) (hr : SortS us) (hl : us.length ≤ 20000) (c8 : W.cell? ⟨db, 0, none⟩ = some (.int .i64 s.day)) (c3 : W.cell? ⟨sb, 0, none⟩ = some (.pointer (some ⟨b, 0, none⟩))) (c5 : W.cell? ⟨ab, 0, none⟩ = some (.int .i64 age)) :
    FnGives Tryz.prog 54 #[.pointer (some ⟨rb, 0, none⟩), .pointer (some ⟨db, 0, none⟩), .pointer (some ⟨sb, 0, none⟩), .pointer (some ⟨ab, 0, none⟩)] #[.string x] (.bool (stayB s us age x)) W := by
  show Calls Tryz.prog 54 #[.string x, .pointer (some ⟨rb, 0, none⟩), .pointer (some ⟨db, 0, none⟩), .pointer (some ⟨sb, 0, none⟩), .pointer (some ⟨ab, 0, none⟩)] W _
  have hsr := search_any rv us x W ht hl hr
  have hbo : ∀ W', Below W.heap.size W W' → Calls Tryz.prog 24 #[.pointer (some ⟨b, 0, none⟩), .string x] W' fun e w' => e = .returned (.int .i64 (bornO s.obs x)) ∧ w' = W' := fun W' hb => sborn_any (hs.keep (But.of_below (P := fun _ => False) hb) (fun _ _ h => h)) x hx
  obtain ⟨b1, b2⟩ := born_aged hA x
  obtain ⟨d1, d2⟩ : 0 ≤ s.day ∧ s.day ≤ 100000 := ⟨K.day0, K.day1⟩
  unfold stayB
  obtain ⟨q1, cap, rfl⟩ := ht.form
  generalize bornO s.obs x = BO at *
  generalize s.day = DY at *
  generalize us.length = UL at *
  cases hM : inT us x
  case true =>
    rw [hM] at hsr
    clear hs K hA ht hr hbo hx
    go_enter Tryz.func54, Tryz.ntmps54
    go_wp2_with fail
    refine hsr.mono ?_
    rintro e w1 ⟨n, rfl, rfl⟩
    clear hsr
    go_wp2
    go_quiet (fail)
    go_wp2
    go_ret
    exact ⟨rfl, nq, rfl⟩
  case false =>
    rw [hM] at hsr
    have HBO : Hid _ := hbo
    clear hs K hA ht hr hx hbo
    go_enter Tryz.func54, Tryz.ntmps54
    go_wp2_with fail
    refine hsr.mono ?_
    rintro e w1 ⟨n, rfl, rfl⟩
    clear hsr
    go_wp2
    go_quiet (first | (go_at_call 24; exact Calls.quiet_of_same (HBO.out _ (below_drewN (Below.refl _ _) _))))
    go_wp2
    go_ret
    exact ⟨rfl, nq, rfl⟩

theorem delS_none (g : Nat) (lb : Array Value) (w : World) : Calls Tryz.prog 53 #[.slice none 0 0, .func (.func g) #[] lb] w fun e w' => e = .returned (.slice none 0 0) ∧ w' = w := by
  have hi := Tryz.slices_IndexFunc_empty (α := ByteArray) none 0 (.func (.func g) #[] lb) w
  go_enter Tryz.func53, Tryz.ntmps53
  go_wp2_with fail
  refine hi.mono ?_
  rintro e w1 ⟨rfl, rfl⟩
  go_wp2
  go_ret
  exact ⟨rfl, rfl⟩

theorem cloneS_own (v : Value) (ts : List ByteArray) (w : World) (h : TxsAt w v ts) (hl : ts.length ≤ 20000) :
    Calls Tryz.prog 52 #[v] w fun e w' => ∃ v', e = .returned v' ∧ w'.ownsRow w.heap.size 9 1 v' ts.length (ts.map Value.string) ∧ Below w.heap.size w w' := by
  rcases h with ⟨p, c, rfl, rfl⟩ | ⟨b, o, cap, rfl, hc⟩
  · cases p with
    | none => exact (Tryz.slices_Clone_string_nil 0 c w).mono fun e w' ⟨he, hw⟩ => ⟨_, he, World.ownsRow_nil _ _ _ _, by subst hw; exact Below.refl _ _⟩
    | some a => exact (Tryz.slices_Clone_string_zero a c w).mono fun e w' ⟨v', he, ho, _, hb⟩ => ⟨v', he, ho, hb⟩
  · refine (Tryz.slices_Clone_string b o ts.length cap ts w (Nat.le_refl _) (by omega) (fun j hj => by rw [List.getD_eq_getElem?_getD, List.getElem?_eq_getElem hj]; exact hc j hj)).mono fun e w' ⟨v', he, ho, _, hb⟩ => ⟨v', he, ?_, hb⟩
    rw [List.take_length] at ho
    exact ho

theorem but_sortW {α : Type} [Inhabited α] {enc : α → Value} {w : World} {g n : Nat} {dk : Array α} {os : Array Obj} : But (fun k => k = g) w (sortWorld enc w g 0 n dk os) :=
  (but_putRow (q := n)).trans (But.of_below (P := fun _ => False) (below_grow os)) (fun _ h _ => h.elim)

theorem sorted_mem {us ts : List ByteArray} (h : us.map txL = sortT (ts.map txL)) (x : ByteArray) : x ∈ us ↔ x ∈ ts := by
  have h1 : txL x ∈ us.map txL ↔ txL x ∈ ts.map txL := by rw [h]; exact (sortT_perm _).mem_iff
  have h2 : ∀ l : List ByteArray, txL x ∈ l.map txL ↔ x ∈ l := fun l => by
    rw [List.mem_map]
    exact ⟨fun ⟨y, hy, e⟩ => txL_inj e ▸ hy, fun hy => ⟨x, hy, rfl⟩⟩
  rw [h2, h2] at h1
  exact h1
theorem sorted_S {us ts : List ByteArray} (h : us.map txL = sortT (ts.map txL)) : SortS us := by
  have h1 := sortT_sorted (ts.map txL)
  rw [← h, List.pairwise_map] at h1
  exact h1.imp fun hab => by
    rw [ltS_lt]
    exact decide_eq_false hab
theorem sorted_len {us ts : List ByteArray} (h : us.map txL = sortT (ts.map txL)) : us.length = ts.length := by
  have := congrArg List.length h
  rw [List.length_map, sortT_len, List.length_map] at this
  exact this

abbrev Nm := { x : ByteArray // x.size ≤ maxLen }
instance : Inhabited Nm := ⟨⟨⟨#[]⟩, by decide⟩⟩
def encN (x : Nm) : Value := .string x.1
def nmsOf (ts : List ByteArray) (h : ∀ t ∈ ts, t.size ≤ maxLen) : List Nm := ts.pmap (fun x hx => ⟨x, hx⟩) h
theorem nms_val (ts : List ByteArray) (h : ∀ t ∈ ts, t.size ≤ maxLen) : (nmsOf ts h).map (fun x => x.1) = ts := by
  unfold nmsOf
  rw [List.map_pmap]
  simp
theorem nms_enc (zs : List Nm) : zs.map encN = (zs.map fun x => x.1).map Value.string := by
  rw [List.map_map]
  rfl

theorem delS_own {B : Nat} {w : World} {v : Value} {ts : List ByteArray} (ho : w.ownsRow B 9 1 v ts.length (ts.map Value.string)) (hB : B ≤ w.heap.size) (hsz : ∀ t ∈ ts, t.size ≤ maxLen) (hl : ts.length ≤ 20000) (g : Nat) (lb : Array Value) (eg : ∀ args w, (callFunc g args).run Tryz.prog w = .ok (.enter g args) w) (p : ByteArray → Bool)
    (hp : ∀ W, But (fun k => v.ownBlock = some k) w W → ∀ x : ByteArray, x.size ≤ maxLen → FnGives Tryz.prog g lb #[.string x] (.bool (p x)) W) :
    Calls Tryz.prog 53 #[v, .func (.func g) #[] lb] w fun e w' => ∃ v', e = .returned v' ∧ w'.ownsRow B 9 1 v' (ts.filter fun x => !p x).length ((ts.filter fun x => !p x).map Value.string) ∧ Below B w w' := by
  by_cases hv : v = .slice none 0 0
  · have h0 : ts = [] := by
      rcases ho.2 with ⟨_, h0⟩ | ⟨g, cap, cur, e, _⟩
      · exact List.length_eq_zero_iff.1 h0
      · rw [hv] at e; cases e
    subst hv h0
    refine (delS_none g lb w).mono ?_
    rintro e w' ⟨rfl, rfl⟩
    exact ⟨_, rfl, ho, Below.refl _ _⟩
  · have hzs := nms_val ts hsz
    obtain ⟨zs, hz0⟩ : ∃ zs, nmsOf ts hsz = zs := ⟨_, rfl⟩
    rw [hz0] at hzs
    have ho' : w.ownsRow B 9 1 v ts.length (zs.map encN) := by rw [nms_enc, hzs]; exact ho
    obtain ⟨gb, cap, rfl, hbg, hlt, hn, hm, hlen, hH⟩ := holds_of_ownsRow ho' hv
    have hdel := Tryz.slices_DeleteFunc encN (fun _ => rfl) (fun x => p x.1) g lb eg ⟨⟨#[]⟩, by decide⟩ Tryz.zeroValue9 gb 0 cap zs.toArray w
      (fun W x hb => hp W (But.of_below hb) x.1 x.2)
      (fun n os dk x _ => hp _ (but_sortW.mono fun k hk => by rw [hk]; rfl) x.1 x.2)
      hH (by simp [hlen]; omega) (by simp [hlen]; omega)
    simp only [List.size_toArray, hlen] at hdel
    refine hdel.mono ?_
    rintro e w' ⟨rfl, q, rfl⟩
    have hks : (zs.filter fun x => !p x.1).map (fun x => x.1) = ts.filter fun x => !p x := by
      rw [← hzs, List.filter_map]
      rfl
    have hkl : (zs.filter fun x => !p x.1).length ≤ ts.length := by rw [← hlen]; exact List.length_filter_le _ _
    have h1 := ownsRow_putRow (q := q) (k := (zs.filter fun x => !p x.1).length) (ys := (zs.filter fun x => !p x.1) ++ List.replicate (ts.length - (zs.filter fun x => !p x.1).length) ⟨⟨#[]⟩, by decide⟩) ho' (by simp; omega) hkl
    rw [List.take_left', nms_enc, hks] at h1
    · have e1 : (zs.filter fun x => !p x.1).length = (ts.filter fun x => !p x).length := by rw [← hks, List.length_map]
      rw [e1] at h1 ⊢
      exact ⟨_, rfl, h1, below_putRow (Below.refl _ _) hbg⟩
    · rfl

theorem name_size {s : St} (K : Keeps s) : ∀ t ∈ (s.obs.map fun o => o.1), t.size ≤ maxLen := fun t ht => by
  obtain ⟨o, ho, rfl⟩ := List.mem_map.1 ht
  have := K.names o ho
  simp only [objB, Bool.and_eq_true, decide_eq_true_eq] at this
  rw [← size_list]
  unfold maxLen
  omega

set_option maxRecDepth 100000 in
set_option maxHeartbeats 4000000 in
theorem orphans_any {w : World} {b : Nat} {mo : Option Nat} {q : ByteArray → Nat} {s : St} (hs : SIn w b mo q s) (K : Keeps s) (hA : Aged s) (v : Value) (needed : List ByteArray) (age : Int) (hN : TxsAt w v needed) (hl : needed.length ≤ 20000) :
    Calls Tryz.prog 18 #[.pointer (some ⟨b, 0, none⟩), v, .int .i64 age] w fun e w' => ∃ v', e = .returned v' ∧ w'.ownsRow w.heap.size 9 1 v' (orphL s needed age).length ((orphL s needed age).map Value.string) ∧ Below w.heap.size w w' := by
  have HS : Hid (SIn w b mo q s) := hs
  have HK : Hid (Keeps s) := K
  have HA : Hid (Aged s) := hA
  have HTN : Hid (∀ W, Below w.heap.size w W → TxsAt W v needed) := fun W hb => hN.below hb
  have eg : ∀ args w, (callFunc 54 args).run Tryz.prog w = .ok (.enter 54 args) w := enters_of Tryz.func54 (by kernel_rfl) rfl
  have HB : Hid (b < w.heap.size) := hs.block.lt
  obtain ⟨NQ, NC, rfl⟩ := hN.form
  obtain ⟨NL, hNL⟩ : ∃ n, needed.length = n := ⟨_, rfl⟩
  rw [hNL] at HTN hl ⊢
  have HNL : Hid (needed.length = NL) := hNL
  clear hs K hA hN hNL
  have a1 : (w.alloc (.cells #[.pointer (some ⟨b, 0, none⟩)] 37)).cell? ⟨w.heap.size, 0, none⟩ = some (.pointer (some ⟨b, 0, none⟩)) := by rw [cell_of_row _ _ _ _ _ _ (heap_alloc_new _ _)]; rfl
  have b1 : Below w.heap.size w (w.alloc (.cells #[.pointer (some ⟨b, 0, none⟩)] 37)) := (Below.refl _ _).alloc (Nat.le_refl _) _
  have s1 : (w.alloc (.cells #[.pointer (some ⟨b, 0, none⟩)] 37)).heap.size = w.heap.size + 1 := by simp
  have a2 : ((w.alloc (.cells #[.pointer (some ⟨b, 0, none⟩)] 37)).alloc (.cells #[.int .i64 age] 3)).cell? ⟨w.heap.size + 1, 0, none⟩ = some (.int .i64 age) := by rw [← s1, cell_of_row _ _ _ _ _ _ (heap_alloc_new _ _)]; rfl
  have b2 : Below (w.alloc (.cells #[.pointer (some ⟨b, 0, none⟩)] 37)).heap.size (w.alloc (.cells #[.pointer (some ⟨b, 0, none⟩)] 37)) ((w.alloc (.cells #[.pointer (some ⟨b, 0, none⟩)] 37)).alloc (.cells #[.int .i64 age] 3)) := (Below.refl _ _).alloc (Nat.le_refl _) _
  have c3 := below_keep b2 a1
  have hBB := b1.trans (b2.mono b1.size)
  clear a1 b1 s1 b2
  go_enter Tryz.func18, Tryz.ntmps18
  go_upto_region 1 with fail
  generalize (w.alloc (.cells #[.pointer (some ⟨b, 0, none⟩)] 37)).alloc (.cells #[.int .i64 age] 3) = WB at a2 c3 hBB ⊢
  have h1B : w.heap.size + 1 < WB.heap.size := cell_lt a2
  go_wp2_with fail
  refine (cloneS_own _ needed WB (HTN.out WB hBB) (by rw [HNL.out]; omega)).mono ?_
  rintro e w1 ⟨v1, rfl, ho1, hb1⟩
  obtain ⟨q1, c1, hv1⟩ := (txs_of_own ho1).form
  rw [HNL.out] at hv1
  subst hv1
  have HOW : Hid (∀ k, (Value.slice q1 NL c1).ownBlock = some k → WB.heap.size ≤ k ∧ k < w1.heap.size) := fun k hk => ⟨(own_blk ho1 hk).1, (own_blk ho1 hk).2.1⟩
  have hB1 : Below w.heap.size w w1 := hBB.trans (hb1.mono hBB.size)
  have c31 := below_keep hb1 c3
  have c51 := below_keep hb1 a2
  have hWs : WB.heap.size ≤ w1.heap.size := hb1.size
  have a7 : (w1.alloc (.cells #[.slice q1 NL c1] 24)).cell? ⟨w1.heap.size, 0, none⟩ = some (.slice q1 NL c1) := by rw [cell_of_row _ _ _ _ _ _ (heap_alloc_new _ _)]; rfl
  have b2 : Below w1.heap.size w1 (w1.alloc (.cells #[.slice q1 NL c1] 24)) := (Below.refl _ _).alloc (Nat.le_refl _) _
  have hB2 := hB1.trans (b2.mono hB1.size)
  have c32 := below_keep b2 c31
  have c52 := below_keep b2 c51
  have HO2 : Hid ((w1.alloc (.cells #[.slice q1 NL c1] 24)).ownsRow WB.heap.size 9 1 (.slice q1 NL c1) needed.length (needed.map Value.string)) := own_but (P := fun _ => False) ho1 (But.of_below b2) (fun _ _ h => h)
  clear ho1 hb1 c31 c51 c3 a2 b2 HTN hBB
  go_upto_region 4 with fail
  generalize w1.alloc (.cells #[.slice q1 NL c1] 24) = w2 at a7 hB2 c32 c52 HO2 ⊢
  have hrb : w1.heap.size < w2.heap.size := cell_lt a7
  generalize w1.heap.size = rb at a7 HOW hWs hrb ⊢
  have hso := sortS_own HO2.out (by rw [HNL.out]; omega)
  go_wp2_with fail
  refine hso.mono ?_
  rintro e w3 ⟨rfl, us, hus, ho3, hbut3⟩
  have HUS : Hid (us.map txL = sortT (needed.map txL)) := hus
  have HO3 : Hid (w3.ownsRow WB.heap.size 9 1 (.slice q1 NL c1) us.length (us.map Value.string)) := ho3
  have hB3 : Below w.heap.size w w3 := hB2.trans (hbut3.below hB2.size (fun k hk => by have := (HOW.out k hk).1; omega))
  have c33 := hbut3.keep (fun e => by have := (HOW.out _ e).1; omega) c32
  have c53 := hbut3.keep (fun e => by have := (HOW.out _ e).1; omega) c52
  have c73 := hbut3.keep (fun e => by have := (HOW.out _ e).2; omega) a7
  have hsz23 : w2.heap.size ≤ w3.heap.size := hbut3.size
  have HS3 : Hid (SIn w3 b mo q s) := HS.out.keep (But.of_below (P := fun _ => False) hB3) (fun _ _ h => h)
  have hday := sday_c HS3.out.block
  clear hso hus ho3 hbut3 c32 c52 a7 HO2 hB2
  go_wp2_with fail
  refine hday.mono ?_
  rintro e w4 ⟨rfl, hw4⟩
  rw [hw4]
  clear hday hw4
  have a8 : (w3.alloc (.cells #[.int .i64 s.day] 3)).cell? ⟨w3.heap.size, 0, none⟩ = some (.int .i64 s.day) := by rw [cell_of_row _ _ _ _ _ _ (heap_alloc_new _ _)]; rfl
  have b4 : Below w3.heap.size w3 (w3.alloc (.cells #[.int .i64 s.day] 3)) := (Below.refl _ _).alloc (Nat.le_refl _) _
  have hB4 := hB3.trans (b4.mono hB3.size)
  have c34 := below_keep b4 c33
  have c54 := below_keep b4 c53
  have c74 := below_keep b4 c73
  have HO4 : Hid ((w3.alloc (.cells #[.int .i64 s.day] 3)).ownsRow WB.heap.size 9 1 (.slice q1 NL c1) us.length (us.map Value.string)) := own_but (P := fun _ => False) HO3.out (But.of_below b4) (fun _ _ h => h)
  clear c33 c53 c73 HO3 b4 hB3 HS3
  go_upto_region 6 with fail
  generalize w3.alloc (.cells #[.int .i64 s.day] 3) = w4 at a8 hB4 c34 c54 c74 HO4 ⊢
  have hdb : w3.heap.size < w4.heap.size := cell_lt a8
  generalize w3.heap.size = db at a8 hsz23 hdb ⊢
  have HS4 : Hid (SIn w4 b mo q s) := HS.out.keep (But.of_below (P := fun _ => False) hB4) (fun _ _ h => h)
  have hna := snamesN_any HS4.out HK.out
  go_wp2_with fail
  refine hna.mono ?_
  rintro e w5 ⟨v5, rfl, ho5, hb5⟩
  have hB5 : Below w.heap.size w w5 := hB4.trans (hb5.mono hB4.size)
  have HV5 : Hid (∀ k, v5.ownBlock = some k → w4.heap.size ≤ k) := fun k hk => (own_blk ho5 hk).1
  have h4w : w.heap.size ≤ w4.heap.size := hB4.size
  have hdel := delS_own ho5 hb5.size (name_size HK.out) (by rw [List.length_map]; have := HK.out.many; omega) 54 #[.pointer (some ⟨rb, 0, none⟩), .pointer (some ⟨db, 0, none⟩), .pointer (some ⟨w.heap.size, 0, none⟩), .pointer (some ⟨w.heap.size + 1, 0, none⟩)] eg (stayB s us age) (fun W hW x hx =>
    orph1_any x hx rb db w.heap.size (w.heap.size + 1) (.slice q1 NL c1) us age
      (HS.out.keep ((But.of_below (P := fun k => v5.ownBlock = some k) hB5).trans hW (fun _ h _ => h)) (fun k hk hown => by have h1 := HS.out.lt hk; have h2 := HV5.out k hown; omega))
      HK.out HA.out
      (hW.keep (fun e => by have := HV5.out _ e; omega) (below_keep hb5 c74))
      (txs_of_own (own_but (own_but (P := fun _ => False) HO4.out (But.of_below hb5) (fun _ _ h => h)) hW (fun k hk e => by have h1 := (HOW.out k hk).2; have h2 := HV5.out k e; omega)))
      (sorted_S HUS.out) (by rw [sorted_len HUS.out, HNL.out]; omega)
      (hW.keep (fun e => by have := HV5.out _ e; omega) (below_keep hb5 a8))
      (hW.keep (fun e => by have := HV5.out _ e; omega) (below_keep hb5 c34))
      (hW.keep (fun e => by have := HV5.out _ e; omega) (below_keep hb5 c54)))
  rw [orph_names HK.out (sorted_mem HUS.out) age] at hdel
  clear hna ho5 a8 c34 c54 c74 HO4 HS4
  go_wp2_with fail
  refine hdel.mono ?_
  rintro e w6 ⟨v6, rfl, ho6, hb6⟩
  have HE : Hid (w6.ownsRow w.heap.size 9 1 v6 (orphL s needed age).length ((orphL s needed age).map Value.string)) := World.ownsRow.mono ho6 h4w
  have hB6 : Below w.heap.size w w6 := hB5.trans (hb6.mono h4w)
  clear hdel ho6 hb6
  go_wp2
  go_ret
  exact ⟨_, rfl, HE.out, hB6⟩
theorem orphans_none (v : Value) (age : Int) (w : World) : Calls Tryz.prog 18 #[.pointer none, v, .int .i64 age] w fun e w' => e = .returned (.slice none 0 0) ∧ Below w.heap.size w w' := by
  have b1 : Below w.heap.size w (w.alloc (.cells #[.pointer none] 37)) := (Below.refl _ _).alloc (Nat.le_refl _) _
  have b2 : Below w.heap.size w ((w.alloc (.cells #[.pointer none] 37)).alloc (.cells #[.int .i64 age] 3)) := b1.alloc b1.size _
  clear b1
  go_enter Tryz.func18, Tryz.ntmps18
  go_wp2
  go_ret
  exact ⟨rfl, b2⟩
end Go.Proofs.YtbdhdlloihkibaaGreatDoor
namespace Go.Proofs
open Go.Shelf
def Tryz.indexIt_ren : Go.Shelf.Ren := ⟨fun | 143 => 131 | 219 => 133 | 217 => 134 | 225 => 135 | 224 => 136 | 267 => 137 | 266 => 138 | 314 => 139 | n => n, fun | 9 => 9 | 3 => 3 | 4 => 4 | 5 => 5 | 46 => 105 | 146 => 199 | 51 => 123 | n => n, fun | 1 => 18 | n => n⟩
theorem Tryz.indexIt : Go.Proofs.Lays.n143 Tryz.prog Tryz.indexIt_ren := {
  mixed := by kernel_rfl
  f143 := Tryz.func131.trans (congrArg some (by kernel_rfl))
  f217 := Tryz.func134.trans (congrArg some (by kernel_rfl))
  f219 := Tryz.func133.trans (congrArg some (by kernel_rfl))
  f224 := Tryz.func136.trans (congrArg some (by kernel_rfl))
  f225 := Tryz.func135.trans (congrArg some (by kernel_rfl))
  f266 := Tryz.func138.trans (congrArg some (by kernel_rfl))
  f267 := Tryz.func137.trans (congrArg some (by kernel_rfl))
  f314 := Tryz.func139.trans (congrArg some (by kernel_rfl))
  t3 := Tryz.underlying3
  a3 := Tryz.isAgg3
  z3 := Tryz.sizeOf3
  v3 := Tryz.zeroValue3
  t4 := Tryz.underlying4
  a4 := Tryz.isAgg4
  z4 := Tryz.sizeOf4
  v4 := Tryz.zeroValue4
  t5 := Tryz.underlying5
  a5 := Tryz.isAgg5
  z5 := Tryz.sizeOf5
  v5 := Tryz.zeroValue5
  t9 := Tryz.underlying9
  a9 := Tryz.isAgg9
  z9 := Tryz.sizeOf9
  v9 := Tryz.zeroValue9
  t46 := Tryz.underlying105
  a46 := Tryz.isAgg105
  z46 := Tryz.sizeOf105
  v46 := Tryz.zeroValue105
  t51 := Tryz.underlying123
  a51 := Tryz.isAgg123
  z51 := Tryz.sizeOf123
  v51 := Tryz.zeroValue123
  t146 := Tryz.underlying199
  a146 := Tryz.isAgg199
  z146 := Tryz.sizeOf199
  v146 := Tryz.zeroValue199
  g1 := by kernel_rfl }
end Go.Proofs
