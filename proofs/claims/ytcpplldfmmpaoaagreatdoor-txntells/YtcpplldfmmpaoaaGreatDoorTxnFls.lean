/-
  The contracts of (*Txn).rewrites, op, seqOf and files.
-/
import Derived.Shelf.SlSortCmp.NoneTotal
import Derived.Ground.SlsfProg
import Derived.Test.YtcpplldfmmpaoaaGreatDoorTxnGr
namespace Go.Proofs
open Go.Shelf
def Tryz.sortFile_ren : Go.Shelf.Ren := ⟨fun | 6 => 63 | 15 => 79 | 14 => 78 | 28 => 102 | 29 => 103 | 20 => 94 | 21 => 95 | 22 => 96 | 23 => 97 | 24 => 98 | 25 => 99 | 26 => 100 | 27 => 101 | 46 => 112 | 47 => 113 | 48 => 114 | 49 => 115 | 50 => 116 | 57 => 128 | n => n, fun | 22 => 22 | 24 => 37 | 25 => 98 | 3 => 3 | 39 => 115 | 0 => 0 | 53 => 144 | 55 => 146 | 4 => 4 | 46 => 138 | 45 => 137 | 50 => 110 | 5 => 5 | 9 => 9 | 66 => 164 | 70 => 168 | 76 => 180 | 77 => 80 | n => n, fun | n => n⟩
theorem Tryz.sortFile : Go.Proofs.SlLaysF0.n6 Tryz.prog Tryz.sortFile_ren := {
  mixed := by kernel_rfl
  f6 := ⟨Tryz.f63.name, by decide, Tryz.func63.trans (congrArg some (by kernel_rfl))⟩
  f14 := ⟨Tryz.f78.name, by decide, Tryz.func78.trans (congrArg some (by kernel_rfl))⟩
  f15 := Tryz.func79.trans (congrArg some (by kernel_rfl))
  f20 := ⟨Tryz.f94.name, by decide, Tryz.func94.trans (congrArg some (by kernel_rfl))⟩
  f21 := ⟨Tryz.f95.name, by decide, Tryz.func95.trans (congrArg some (by kernel_rfl))⟩
  f22 := ⟨Tryz.f96.name, by decide, Tryz.func96.trans (congrArg some (by kernel_rfl))⟩
  f23 := ⟨Tryz.f97.name, by decide, Tryz.func97.trans (congrArg some (by kernel_rfl))⟩
  f24 := ⟨Tryz.f98.name, by decide, Tryz.func98.trans (congrArg some (by kernel_rfl))⟩
  f25 := ⟨Tryz.f99.name, by decide, Tryz.func99.trans (congrArg some (by kernel_rfl))⟩
  f26 := ⟨Tryz.f100.name, by decide, Tryz.func100.trans (congrArg some (by kernel_rfl))⟩
  f27 := ⟨Tryz.f101.name, by decide, Tryz.func101.trans (congrArg some (by kernel_rfl))⟩
  f28 := Tryz.func102.trans (congrArg some (by kernel_rfl))
  f29 := Tryz.func103.trans (congrArg some (by kernel_rfl))
  f46 := ⟨Tryz.f112.name, by decide, Tryz.func112.trans (congrArg some (by kernel_rfl))⟩
  f47 := Tryz.func113.trans (congrArg some (by kernel_rfl))
  f48 := Tryz.func114.trans (congrArg some (by kernel_rfl))
  f49 := ⟨Tryz.f115.name, by decide, Tryz.func115.trans (congrArg some (by kernel_rfl))⟩
  f50 := ⟨Tryz.f116.name, by decide, Tryz.func116.trans (congrArg some (by kernel_rfl))⟩
  f57 := ⟨Tryz.f128.name, by decide, Tryz.func128.trans (congrArg some (by kernel_rfl))⟩
  t0 := Tryz.underlying0
  a0 := Tryz.isAgg0
  z0 := Tryz.sizeOf0
  v0 := Tryz.zeroValue0
  t3 := Tryz.underlying3
  a3 := Tryz.isAgg3
  z3 := Tryz.sizeOf3
  v3 := Tryz.zeroValue3
  t4 := Tryz.underlying4
  a4 := Tryz.isAgg4
  z4 := Tryz.sizeOf4
  v4 := Tryz.zeroValue4
  t5 := Tryz.underlying5
  a5 := Tryz.isAgg5
  z5 := Tryz.sizeOf5
  v5 := Tryz.zeroValue5
  t9 := Tryz.underlying9
  a9 := Tryz.isAgg9
  z9 := Tryz.sizeOf9
  v9 := Tryz.zeroValue9
  t22 := Tryz.underlying22
  a22 := Tryz.isAgg22
  z22 := Tryz.sizeOf22
  v22 := Tryz.zeroValue22
  t25 := Tryz.underlying98
  a25 := Tryz.isAgg98
  z25 := Tryz.sizeOf98
  v25 := Tryz.zeroValue98
  t39 := Tryz.underlying115
  a39 := Tryz.isAgg115
  z39 := Tryz.sizeOf115
  v39 := Tryz.zeroValue115
  t45 := Tryz.underlying137
  a45 := Tryz.isAgg137
  z45 := Tryz.sizeOf137
  v45 := Tryz.zeroValue137
  t46 := Tryz.underlying138
  a46 := Tryz.isAgg138
  z46 := Tryz.sizeOf138
  v46 := Tryz.zeroValue138
  t50 := Tryz.underlying110
  a50 := Tryz.isAgg110
  z50 := Tryz.sizeOf110
  v50 := Tryz.zeroValue110
  t53 := Tryz.underlying144
  a53 := Tryz.isAgg144
  z53 := Tryz.sizeOf144
  v53 := Tryz.zeroValue144
  t55 := Tryz.underlying146
  a55 := Tryz.isAgg146
  z55 := Tryz.sizeOf146
  v55 := Tryz.zeroValue146
  t66 := Tryz.underlying164
  a66 := Tryz.isAgg164
  z66 := Tryz.sizeOf164
  v66 := Tryz.zeroValue164
  t70 := Tryz.underlying168
  a70 := Tryz.isAgg168
  z70 := Tryz.sizeOf168
  v70 := Tryz.zeroValue168
  t76 := Tryz.underlying180
  a76 := Tryz.isAgg180
  z76 := Tryz.sizeOf180
  v76 := Tryz.zeroValue180
  t77 := Tryz.underlying80
  a77 := Tryz.isAgg80
  z77 := Tryz.sizeOf80
  v77 := Tryz.zeroValue80 }
end Go.Proofs
namespace Go.Proofs.YtcpplldfmmpaoaaGreatDoor
open Go.RowKit Go.Extern.Stop Go.Stop Go.Extern Go.Sort Go.Shelf Go.Lib

abbrev InF (zs : List Fl) := {f : Fl // f ∈ zs}
def encI {zs : List Fl} (x : InF zs) : List Value := encF x.1
def cfI {zs : List Fl} (x y : InF zs) : Int := Lib.compareInt (fk x.1) (fk y.1)

theorem ltI {zs : List Fl} (x y : InF zs) : ltOf cfI x y = decide (fk x.1 < fk y.1) := by
  unfold ltOf cfI
  rw [decide_eq_decide]
  exact cmpI_lt _ _
theorem swoI (zs : List Fl) : SWO (ltOf (cfI (zs := zs))) where
  irrefl x := by rw [ltI]; simp
  trans x y z h1 h2 := by
    rw [ltI, decide_eq_true_eq] at *
    omega
  ntrans x y z h1 h2 := by
    rw [ltI, decide_eq_false_iff_not] at *
    omega
theorem totI {zs : List Fl} (hd : zs.Pairwise fun f g => fk f ≠ fk g) (x y : InF zs) (h1 : ltOf cfI x y = false) (h2 : ltOf cfI y x = false) : x = y := by
  rw [ltI, decide_eq_false_iff_not] at h1 h2
  have e : fk x.1 = fk y.1 := by omega
  obtain ⟨i, hi, ex⟩ := List.mem_iff_getElem.1 x.2
  obtain ⟨j, hj, ey⟩ := List.mem_iff_getElem.1 y.2
  have hij : i = j := by
    rcases Nat.lt_trichotomy i j with h | h | h
    · exact absurd (by rw [ex, ey]; exact e) (List.pairwise_iff_getElem.1 hd i j hi hj h)
    · exact h
    · exact absurd (by rw [ex, ey]; exact e.symm) (List.pairwise_iff_getElem.1 hd j i hj hi h)
  subst hij
  exact Subtype.ext (ex.symm.trans ey)

theorem encI_len {zs : List Fl} (x : InF zs) : (encI x).length = 6 := rfl
theorem encI_one {zs : List Fl} (x : InF zs) : ∀ u ∈ encI x, u.oneCell' = true := encF_one x.1

theorem flatI {zs : List Fl} [Inhabited (InF zs)] (ds : List (InF zs)) : flatK encI 6 ds.toArray = (flatF (ds.map (·.1))).toArray := by
  refine ext_get! (by simp [flatF_len]) fun t ht => ?_
  simp only [size_flatK, List.size_toArray] at ht
  rw [get_flatK _ _ _ _ (by simpa using ht)]
  have hj : t / 6 < ds.length := by omega
  have hj2 : t / 6 < (ds.map (·.1)).length := by simpa using hj
  have := flatF_get (ds.map (·.1)) (t / 6) (t % 6) hj2 (by omega)
  rw [show t / 6 * 6 + t % 6 = t by omega] at this
  simp only [List.getElem!_toArray, List.getElem!_eq_getElem?_getD, this]
  rw [List.getElem?_eq_getElem hj]
  simp only [List.getElem_map, Option.getD_some]
  rfl

theorem holdsI_of_own {zs : List Fl} [Inhabited (InF zs)] {w : World} {base : Nat} {v : Value} {n : Nat} {ds : List (InF zs)} (h : w.ownsRow base 37 6 v n (flatF (ds.map (·.1)))) (hv : v ≠ .slice none 0 0) :
    ∃ g cap, v = .slice (some ⟨g, 0, none⟩) ds.length cap ∧ ds.length ≤ cap ∧ base ≤ g ∧ g < w.heap.size ∧ HoldsK encI 6 w g 0 ds.toArray := by
  obtain ⟨hl, h⟩ := h
  have hn : n = ds.length := by rw [flatF_len, List.length_map] at hl; omega
  subst hn
  rcases h with ⟨e, _⟩ | ⟨g, cap, cur, rfl, hb, hg, hcp, _, _, ht⟩
  · exact absurd e hv
  · refine ⟨g, cap, rfl, hcp, hb, lt_of_block hg, ?_⟩
    unfold HoldsK
    rw [flatI]
    intro j hj
    have hj' : j < ds.length * 6 := by simpa [flatF_len] using hj
    refine ⟨?_, by simp [World.frozen?, hg]⟩
    have e1 : (cur.toList.take (ds.length * 6))[j]? = (flatF (ds.map (·.1)))[j]? := by rw [ht]
    rw [List.getElem?_take, if_pos hj', Array.getElem?_toList] at e1
    simp only [World.cell?, hg, Nat.zero_add]
    simp only [Option.isSome_none, Bool.false_eq_true, if_false]
    rw [e1]
    have hj2 : j < (flatF (ds.map (·.1))).length := by rw [flatF_len, List.length_map]; exact hj'
    simp [List.getElem?_eq_getElem hj2]

theorem flCells_of_holdsI {zs : List Fl} [Inhabited (InF zs)] {w : World} {g : Nat} {ds : List (InF zs)} (h : HoldsK encI 6 w g 0 ds.toArray) : FlCells w g 0 (ds.map (·.1)) := by
  refine flCells_of fun t u hu => ?_
  have ht : t < (flatF (ds.map (·.1))).length := by
    rcases Nat.lt_or_ge t (flatF (ds.map (·.1))).length with h' | h'
    · exact h'
    · rw [List.getElem?_eq_none h'] at hu; cases hu
  unfold HoldsK at h
  rw [flatI] at h
  have := (h t (by simpa using ht)).1
  rw [this]
  rw [List.getElem?_eq_getElem ht] at hu
  simpa [List.getElem?_eq_getElem ht] using hu

theorem sortI_up {zs : List Fl} {ds : List (InF zs)} (hn : (ds.map (·.1)).Pairwise fun f g => fk f ≠ fk g) : UpF ((ds.mergeSort fun x y => !(ltOf cfI) y x).map (·.1)) ∧ ((ds.mergeSort fun x y => !(ltOf cfI) y x).map (·.1)).Perm (ds.map (·.1)) := by
  have hp : (ds.mergeSort fun x y => !(ltOf cfI) y x).Perm ds := List.mergeSort_perm _ _
  have hs := List.pairwise_mergeSort (le := fun x y : InF zs => !(ltOf cfI) y x) (fun a b c h1 h2 => by
    simp only [ltI, Bool.not_eq_true', decide_eq_false_iff_not] at *
    omega) (fun a b => by
    simp only [ltI, Bool.or_eq_true, Bool.not_eq_true', decide_eq_false_iff_not]
    omega) ds
  have hp2 := hp.map (·.1)
  refine ⟨?_, hp2⟩
  have hn2 : ((ds.mergeSort fun x y => !(ltOf cfI) y x).map (·.1)).Pairwise fun f g => fk f ≠ fk g := (hp2.pairwise_iff (fun {a b} h => fun e => h e.symm)).2 hn
  have hs2 : ((ds.mergeSort fun x y => !(ltOf cfI) y x).map (·.1)).Pairwise fun f g => ¬ fk g < fk f := List.pairwise_map.2 (hs.imp fun {a b} h => by
    simpa only [ltI, Bool.not_eq_true', decide_eq_false_iff_not] using h)
  exact (hs2.and hn2).imp fun {a b} h => by
    have h1 := h.1
    have h2 := h.2
    omega

theorem envN_sort {zs : List Fl} [Inhabited (InF zs)] {w0 w : World} {a : Nat → Addr} (h : EnvN w0 a) (hb : Below w0.heap.size w0 w) {g : Nat} (hg : w0.heap.size ≤ g) (m : Nat) (os : Array Obj) (dk : Array (InF zs)) : EnvN (sortWorldK encI 6 w g 0 m dk os) a := by
  have h1 : Below w0.heap.size w0 (putRowK encI 6 (Sort.ahead w m) g 0 dk) := below_putRow hb hg
  exact h.below (h1.trans ((below_grow os).mono h1.size))

theorem sortZ_any (zs : List Fl) (z0 : InF zs) (hz : ∀ f ∈ zs, pathO f.1.data.toList ≠ none) (hd : zs.Pairwise fun f g => fk f ≠ fk g) (ds : List (InF zs)) (hn : (ds.map (·.1)).Pairwise fun f g => fk f ≠ fk g) (v : Value) (w0 w : World) (a : Nat → Addr) (hE : EnvN w0 a) (hb : Below w0.heap.size w0 w)
    (h : w.ownsRow w0.heap.size 37 6 v ds.length (flatF (ds.map (·.1)))) (hv : v ≠ .slice none 0 0) (hl : ds.length ≤ 20000) :
    Calls Tryz.prog 63 #[v, .func (.func 64) #[] #[]] w fun e w' => e = .returned (.tuple #[]) ∧ ∃ ys, ys.Perm (ds.map (·.1)) ∧ UpF ys ∧ FlsAt w' v ys ∧ Below w0.heap.size w0 w' := by
  letI : Inhabited (InF zs) := ⟨z0⟩
  obtain ⟨g, cap, rfl, hcp, hbg, hlt, hH⟩ := holdsI_of_own h hv
  have eg : ∀ args w, (callFunc 64 args).run Tryz.prog w = .ok (.enter 64 args) w := enters_of Tryz.func64 (by kernel_rfl) rfl
  have hcm : CmpLays Tryz.prog 64 #[] (encI (zs := zs)) 6 cfI g 0 ds.toArray.size w := fun m os dk _ x y => (forder_g x.1 y.1 _ a (envN_sort hE hb hbg m os dk) (hz x.1 x.2) (hz y.1 y.2)).mono fun e w' ⟨he, hg⟩ => ⟨he, hg.form⟩
  have hcon := AnyQ.slices_SortFunc_total Tryz.sortFile 6 Tryz.isAgg37 Tryz.sizeOf37 encI encI_len encI_one cfI (swoI zs) 64 #[] g 0 cap ds.toArray w eg hcm hH hlt (by simp; omega) (totI hd)
  change Calls Tryz.prog 63 _ _ _ at hcon
  rw [List.size_toArray] at hcon
  obtain ⟨u1, u2⟩ := sortI_up hn
  have hlen : (ds.mergeSort fun x y => !(ltOf cfI) y x).length = ds.length := (List.mergeSort_perm _ _).length_eq
  refine hcon.mono fun e w' ⟨he, n, os, hw⟩ => ⟨he, _, u2, u1, ?_, ?_⟩
  · subst hw
    refine Or.inr ⟨g, 0, cap, by rw [List.length_map, hlen], by rw [List.length_map, hlen]; exact hcp, flCells_of_holdsI ?_⟩
    exact holdsK_sortWorldK encI 6 w g 0 n ds.toArray _ os hlt hH (by simp [hlen])
  · subst hw
    have h1 : Below w0.heap.size w0 (putRowK encI 6 (Sort.ahead w n) g 0 (ds.toArray.toList.mergeSort fun x y => !(ltOf cfI) y x).toArray) := below_putRow hb hbg
    exact h1.trans ((below_grow os).mono h1.size)

theorem sortF_any (v : Value) (xs : List Fl) (w0 w : World) (a : Nat → Addr) (hE : EnvN w0 a) (hb : Below w0.heap.size w0 w) (h : w.ownsRow w0.heap.size 37 6 v xs.length (flatF xs)) (hl : xs.length ≤ 20000)
    (hz : ∀ f ∈ xs, pathO f.1.data.toList ≠ none) (hd : xs.Pairwise fun f g => fk f ≠ fk g) :
    Calls Tryz.prog 63 #[v, .func (.func 64) #[] #[]] w fun e w' => e = .returned (.tuple #[]) ∧ ∃ ys, ys.Perm xs ∧ UpF ys ∧ FlsAt w' v ys ∧ Below w0.heap.size w0 w' := by
  by_cases hv : v = .slice none 0 0
  · subst hv
    have hx : xs = [] := by
      rcases h.2 with ⟨_, hn⟩ | ⟨g, cap, cur, e, _⟩
      · exact List.length_eq_zero_iff.1 hn
      · cases e
    subst hx
    have hcon := AnyF.slices_SortFunc_none Tryz.sortFile none 0 (.func (.func 64) #[] #[]) w
    change Calls Tryz.prog 63 _ _ _ at hcon
    refine hcon.mono fun e w' ⟨he, hw⟩ => ⟨he, [], List.Perm.refl _, List.Pairwise.nil, Or.inl ⟨none, 0, rfl, fun _ => rfl, rfl⟩, ?_⟩
    subst hw; exact hb
  · cases xs with
    | nil =>
      have hg : pathO (⟨#[100, 97, 116, 97, 47, 49]⟩ : ByteArray).data.toList ≠ none := by
        have hn : numO [49] = some 1 := by
          have h1 : itoa 1 = [49] := by
            have h : decDigits 1 = [49] := by rw [decDigits, dif_pos (by decide)]; rfl
            simp [itoa, h]
          rw [← h1]; exact numO_itoa 1 (by decide)
        have hp : pathN [49] = some 1 := by unfold pathN; rw [hn]; rfl
        have h := path_of false [49]
        rw [hp] at h
        have e : (⟨#[100, 97, 116, 97, 47, 49]⟩ : ByteArray).data.toList = kindL false ++ 47 :: [49] := rfl
        rw [e, h]
        simp
      exact sortZ_any [(⟨#[100, 97, 116, 97, 47, 49]⟩, ⟨#[]⟩, 0, 0, 0, 0)] ⟨_, List.mem_singleton.2 rfl⟩ (fun f hf => by rw [List.mem_singleton] at hf; subst hf; exact hg) (by simp) [] (by simp) v w0 w a hE hb h hv (by simp)
    | cons x r =>
      have e : ((x :: r).attach).map (·.1) = x :: r := List.attach_map_subtype_val _
      have hcon := sortZ_any (x :: r) ⟨x, List.mem_cons_self⟩ hz hd (x :: r).attach (by rw [e]; exact hd) v w0 w a hE hb (by rw [e, List.length_attach]; exact h) hv (by rw [List.length_attach]; exact hl)
      rw [e] at hcon
      exact hcon
end Go.Proofs.YtcpplldfmmpaoaaGreatDoor
namespace Go.Proofs.YtcpplldfmmpaoaaGreatDoor
open Go.RowKit Go.Extern.Stop Go.Stop Go.Extern Go.Sort Go.Shelf Go.Lib

set_option maxRecDepth 100000 in
set_option maxHeartbeats 1000000 in
theorem rewrites_any (T : TypeId) (tb : Nat) (vb va vr : Value) (s : Sn) (rs : List ByteArray) (w : World) (hc : TxC T w tb s vb va vr) (hr : ∃ q c, vr = .slice q rs.length c) :
    Calls Tryz.prog 58 #[.pointer (some ⟨tb, 0, none⟩)] w fun e w' => e = .returned (.bool (decide (0 < rs.length))) ∧ w' = w := by
  obtain ⟨q, c, rfl⟩ := hr
  have h8 := hc.cells.2.2.2
  have hd : decide (((rs.length : Nat) : Int) > 0) = decide (0 < rs.length) := by rw [decide_eq_decide]; omega
  generalize rs.length = L at h8 hd ⊢
  generalize decide (0 < L) = R at hd ⊢
  clear hc
  go_enter Tryz.func58, Tryz.ntmps58
  go_wp2
  go_ret
  exact ⟨by rw [← hd]; simp, rfl⟩

theorem gone_part {f : Fl} (h : fileE f = 0) : goneP f.1 = decide (f.2.1.data.toList = [45]) := by
  obtain ⟨_, _, g, n, hp, hg⟩ := file_kind h
  unfold goneP
  rw [hp]
  dsimp only
  cases g
  · exact (decide_eq_false (fun e => by have := hg.2 e; cases this)).symm
  · exact (decide_eq_true (hg.1 rfl)).symm

set_option maxRecDepth 100000 in
set_option maxHeartbeats 1000000 in
theorem op_any (B tb : Nat) (vb va vr : Value) (t : Tx) (w : World) (a : Nat → Addr) (h : EnvN w a) (hin : TxIn 66 B w tb vb va vr t) (hok : ∀ f ∈ t.2.1, fileE f = 0) (hla : t.2.1.length ≤ 1000) :
    Calls Tryz.prog 32 #[.pointer (some ⟨tb, 0, none⟩)] w fun e w' => e = .returned (.string (tOp t)) ∧ Below w.heap.size w w' := by
  have eg : ∀ args w, (callFunc 59 args).run Tryz.prog w = .ok (.enter 59 args) w := enters_of Tryz.func59 (by kernel_rfl) rfl
  have hrw := rewrites_any 66 tb vb va vr t.1 t.2.2 w hin.cells (own_form hin.rems)
  have hcn := containsG_any 59 #[] (fun f => decide (f.2.1.data.toList = [45])) va t.2.1 w (flsAt_of_own hin.adds).1 (by omega) eg (fun f hf W hW => by
    have hz := ok_sizes (hok f hf)
    have h' := isGone_any f W a (h.below hW) (by omega)
    rw [gone_part (hok f hf)] at h'
    exact h')
  have hga : (t.2.1.any fun f => decide (f.2.1.data.toList = [45])) = goneAny t := rfl
  rw [hga] at hcn
  have h7 := hin.cells.cells.2.2.1
  obtain ⟨qa, ca, hva⟩ := own_form hin.adds
  unfold tOp
  generalize goneAny t = GA at hcn ⊢
  generalize t.2.2.length = LR at hrw ⊢
  generalize t.2.1.length = LA at hva
  subst hva
  clear hin hok hga
  obtain ⟨R, hR⟩ : ∃ R, (if 0 < LR then bytesOf kRewrite else if GA = true then bytesOf kDelete else bytesOf kAppend) = R := ⟨_, rfl⟩
  rw [hR]
  have HR : Hid ((if 0 < LR then bytesOf kRewrite else if GA = true then bytesOf kDelete else bytesOf kAppend) = R) := hR
  clear hR
  go_enter Tryz.func32, Tryz.ntmps32
  go_wp2_with fail
  refine hrw.mono ?_
  rintro e w1 ⟨rfl, rfl⟩
  clear hrw
  by_cases hL : 0 < LR
  · rw [decide_eq_true hL]
    go_wp2
    go_ret
    exact ⟨by rw [← HR.out, if_pos hL]; rfl, Below.refl _ _⟩
  · rw [decide_eq_false hL]
    go_wp2_with fail
    refine hcn.mono ?_
    rintro e w2 ⟨rfl, hb2⟩
    clear hcn
    cases GA with
    | true =>
      go_wp2
      go_ret
      exact ⟨by rw [← HR.out, if_neg hL]; rfl, hb2⟩
    | false =>
      go_wp2
      go_ret
      exact ⟨by rw [← HR.out, if_neg hL]; rfl, hb2⟩

set_option maxRecDepth 100000 in
set_option maxHeartbeats 1000000 in
theorem seqOf_any (B tb : Nat) (vb va vr : Value) (t : Tx) (now : Sn) (f : Fl) (w : World) (a : Nat → Addr) (h : EnvN w a) (hin : TxIn 66 B w tb vb va vr t) (hok : fileE f = 0) :
    Calls Tryz.prog 62 #[.pointer (some ⟨tb, 0, none⟩), flV f, .int .i64 (now.2.2.1 + 1)] w fun e w' => e = .returned (.int .i64 (tSeq t now f)) ∧ Below w.heap.size w w' := by
  have hal : Below w.heap.size w (w.alloc (.cells #[.string f.1, .string f.2.1, .int .i64 f.2.2.1, .int .i64 f.2.2.2.1, .int .i64 f.2.2.2.2.1, .int .i64 f.2.2.2.2.2] 37)) := (Below.refl _ _).alloc (Nat.le_refl _) _
  have hfl := FlAt.new w f
  have hrw := rewrites_any 66 tb vb va vr t.1 t.2.2 (w.alloc (.cells #[.string f.1, .string f.2.1, .int .i64 f.2.2.1, .int .i64 f.2.2.2.1, .int .i64 f.2.2.2.2.1, .int .i64 f.2.2.2.2.2] 37)) (hin.below hal).cells (own_form hin.rems)
  have hz := ok_sizes hok
  have hig := isGone_any f (w.alloc (.cells #[.string f.1, .string f.2.1, .int .i64 f.2.2.1, .int .i64 f.2.2.2.1, .int .i64 f.2.2.2.2.1, .int .i64 f.2.2.2.2.2] 37)) a (h.below hal) (by omega)
  rw [gone_part hok] at hig
  have HTC : Hid (∀ W, Below w.heap.size w W → TxC 66 W tb t.1 vb va vr) := fun W hb => (hin.below hb).cells
  unfold tSeq
  unfold flV at hig ⊢
  generalize now.2.2.1 + 1 = NS
  generalize t.2.2.length = LR at hrw ⊢
  clear hin hok hz h
  obtain ⟨fp, fq, fn, flo, fhi, fseq⟩ := f
  dsimp only at hal hfl hrw hig ⊢
  obtain ⟨r0, r1, r2, r3, r4, r5, -⟩ := hfl.cells
  dsimp only at r0 r1 r2 r3 r4 r5
  obtain ⟨R, hR⟩ : ∃ R, (if 0 < LR ∧ fq.data.toList ≠ [45] then t.1.2.2.1 else NS) = R := ⟨_, rfl⟩
  rw [hR]
  have HR : Hid ((if 0 < LR ∧ fq.data.toList ≠ [45] then t.1.2.2.1 else NS) = R) := hR
  clear hfl hR
  go_enter Tryz.func62, Tryz.ntmps62
  go_upto_region 1 with fail
  generalize w.alloc (.cells #[.string fp, .string fq, .int .i64 fn, .int .i64 flo, .int .i64 fhi, .int .i64 fseq] 37) = WA at *
  by_cases hL : 0 < LR
  · rw [decide_eq_true hL] at hrw
    by_cases hp : fq.data.toList = [45]
    · rw [decide_eq_true hp] at hig
      go_wp2_with (first
        | (go_at_call 58; with_reducible refine hrw.mono ?_; rintro e w1 ⟨rfl, rfl⟩)
        | (go_at_call 59; with_reducible refine hig.mono ?_; rintro e w2 ⟨rfl, hb2⟩))
      go_ret
      exact ⟨by rw [← HR.out, if_neg (fun e => e.2 hp)]; rfl, hal.trans (hb2.mono hal.size)⟩
    · rw [decide_eq_false hp] at hig
      go_upto_region 2 with (first
        | (go_at_call 58; with_reducible refine hrw.mono ?_; rintro e w1 ⟨rfl, rfl⟩)
        | (go_at_call 59; with_reducible refine hig.mono ?_; rintro e w2 ⟨rfl, hb2⟩))
      have hB2 := hal.trans (hb2.mono hal.size)
      have h2 := (HTC.out w2 hB2).cells.1
      go_wp2
      go_ret
      exact ⟨by rw [← HR.out, if_pos ⟨hL, hp⟩]; rfl, hB2⟩
  · rw [decide_eq_false hL] at hrw
    clear hig
    go_wp2_with (go_at_call 58; with_reducible refine hrw.mono ?_; rintro e w1 ⟨rfl, rfl⟩)
    go_ret
    exact ⟨by rw [← HR.out, if_neg (fun e => hL e.1)]; rfl, hal⟩

set_option maxRecDepth 100000 in
set_option maxHeartbeats 1000000 in
theorem files1_any (B tb xb : Nat) (vb va vr : Value) (t : Tx) (f : Fl) (w : World) (hin : TxIn 66 B w tb vb va vr t) (hlr : t.2.2.length ≤ 1000) (hxb : w.cell? ⟨xb, 0, none⟩ = some (.pointer (some ⟨tb, 0, none⟩))) :
    Calls Tryz.prog 61 #[flV f, .pointer (some ⟨xb, 0, none⟩)] w fun e w' => e = .returned (.bool (inT t.2.2 f.1)) ∧ Below w.heap.size w w' := by
  have hal : Below w.heap.size w (w.alloc (.cells #[.string f.1, .string f.2.1, .int .i64 f.2.2.1, .int .i64 f.2.2.2.1, .int .i64 f.2.2.2.2.1, .int .i64 f.2.2.2.2.2] 37)) := (Below.refl _ _).alloc (Nat.le_refl _) _
  have z0 := (FlAt.new w f).cells.1
  have hct := fun W (hb : Below w.heap.size w W) => (containsT_any vr t.2.2 f.1 W ((tsAt_own hin.rems).below hb) (by omega)).mono (R' := fun e w' => e = .returned (.bool (inT t.2.2 f.1)) ∧ Below W.heap.size W w') fun e w' ⟨he, hw⟩ => ⟨he, by subst hw; exact Below.refl _ _⟩
  have h8 := (hin.below hal).cells.cells.2.2.2
  have hx1 := below_keep hal hxb
  obtain ⟨qr, cr, hvr⟩ := own_form hin.rems
  generalize inT t.2.2 f.1 = R at hct ⊢
  generalize t.2.2.length = LR at hvr
  subst hvr
  clear hin hlr hxb
  unfold flV
  obtain ⟨fp, fq, fn, flo, fhi, fseq⟩ := f
  dsimp only at hal z0 hct h8 hx1 ⊢
  go_enter Tryz.func61, Tryz.ntmps61
  go_upto_region 1 with fail
  generalize w.alloc (.cells #[.string fp, .string fq, .int .i64 fn, .int .i64 flo, .int .i64 fhi, .int .i64 fseq] 37) = WA at *
  have hbs : Below WA.heap.size WA WA := Below.refl _ _
  go_region_held3 (fun w' => w'.cell? ⟨xb, 0, none⟩ = some (.pointer (some ⟨tb, 0, none⟩)) ∧ w'.cell? ⟨tb, 8, none⟩ = some (.slice qr LR cr) ∧ w'.cell? ⟨w.heap.size, 0, none⟩ = some (.string fp) ∧ Below WA.heap.size WA w')
    (first
      | (go_split_ands; with_reducible exact ⟨below_keep hbX (by assumption), below_keep hbX (by assumption), below_keep hbX (by assumption), Below.trans (by assumption) (hbX.mono (Below.size (by assumption)))⟩)
      | (go_split_ands; exact ⟨by go_keep, by go_keep, by go_keep, by assumption⟩)
      | (go_split_ands; exact ⟨by go_keep, by go_keep, by go_keep, Below.drew (by assumption)⟩))
    (first
      | (go_at_call 30; with_reducible refine (hct _ (by go_split_ands; exact hal.trans (Below.mono (by assumption) hal.size))).mono ?_; rintro e wX ⟨rfl, hbX⟩))
  go_split_ands
  have hbX2 : Below WA.heap.size WA wX := by assumption
  go_wp2
  go_ret
  exact ⟨rfl, hal.trans (hbX2.mono hal.size)⟩
end Go.Proofs.YtcpplldfmmpaoaaGreatDoor
