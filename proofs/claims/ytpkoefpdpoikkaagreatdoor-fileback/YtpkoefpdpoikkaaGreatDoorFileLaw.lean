/-
  The contracts of the statements' own LongFile, and what '==' and '!=' give on what is known of a file.
-/
import Derived.Test.YtpkoefpdpoikkaaGreatDoorAs
namespace Go.Proofs.YtpkoefpdpoikkaaGreatDoor
open Go.RowKit Go.Extern.Stop Go.Stop Go.Extern

def Hand (W : World) : Prop := W.cell? ⟨12, 0, none⟩ = some (.iface 247 (.agg #[.pointer (some ⟨21, 29, none⟩)]))
theorem lt_of_cell {W : World} {p : Addr} {v : Value} (h : W.cell? p = some v) : p.block < W.heap.size := by
  rcases Nat.lt_or_ge p.block W.heap.size with h' | h'
  · exact h'
  · simp [World.cell?, Array.getElem?_eq_none h'] at h

theorem Hand.below {W W' : World} (h : Hand W) (hb : Below W.heap.size W W') : Hand W' := (hb.cell (lt_of_cell h)).trans h
theorem as_miss_below (e t : Addr) (w : World) (h : Hand w) :
    Calls Tryz.prog 129 #[.iface 289 (.pointer (some e)), .iface 169 (.pointer (some t))] w fun ev w' => ev = .returned (.bool false) ∧ Below w.heap.size w w' := by
  refine (as_miss e t w h).mono fun ev w' ⟨he, hw⟩ => ⟨he, ?_⟩
  subst hw
  exact (((Below.refl _ _).alloc (Nat.le_refl _) _).alloc (by simp) _).alloc (by simp; omega) _

theorem as_hit_below (e : Addr) (w : World) (h : Hand w) :
    Calls Tryz.prog 129 #[.iface 108 (.pointer (some e)), .iface 169 (.pointer (some ⟨w.heap.size, 0, none⟩))] (w.alloc (.cells #[.pointer none] 108)) fun ev w' => ev = .returned (.bool true) ∧ Below w.heap.size w w' ∧ w'.cell? ⟨w.heap.size, 0, none⟩ = some (.pointer (some e)) := by
  have hb0 : Below w.heap.size w (w.alloc (.cells #[.pointer none] 108)) := (Below.refl _ _).alloc (Nat.le_refl _) _
  refine (as_hit e ⟨w.heap.size, 0, none⟩ (.pointer none) _ (h.below hb0) (by simp) (by simp)).mono fun ev w' ⟨he, hw⟩ => ⟨he, ?_, ?_⟩
  · subst hw
    exact ((((hb0.alloc (by simp) _).alloc (by simp; omega) _).alloc (by simp; omega) _).alloc (by simp; omega) _).setCell (by simp) _
  · subst hw
    refine World.cell?_setCell_same (u := .pointer none) _ _ _ ?_
    rw [World.cell?_alloc_lt _ _ ⟨w.heap.size, 0, none⟩ (by simp; omega), World.cell?_alloc_lt _ _ ⟨w.heap.size, 0, none⟩ (by simp; omega), World.cell?_alloc_lt _ _ ⟨w.heap.size, 0, none⟩ (by simp; omega), World.cell?_alloc_lt _ _ ⟨w.heap.size, 0, none⟩ (by simp)]
    simp

end Go.Proofs.YtpkoefpdpoikkaaGreatDoor
namespace Go.Proofs.YtpkoefpdpoikkaaGreatDoor
open Go.RowKit Go.Extern.Stop Go.Stop Go.Extern Go.Sort Go.Shelf Go.Lib

def FKPost (w : World) (a : Nat → Addr) (D : List Int × Nat) (e : Ending) (w' : World) : Prop :=
  Below w.heap.size w w' ∧ ((D.2 = 0 ∧ ∃ v, e = .returned (.tuple #[v, .nilIface]) ∧ KeysAt w' v D.1) ∨
    (D.2 ≠ 0 ∧ ∃ ev, e = .returned (.tuple #[.slice none 0 0, ev]) ∧ (ev = errV a D.2 ∨ ∃ fb, ev = .iface 108 (.pointer (some ⟨fb, 0, none⟩)) ∧ w'.cell? ⟨fb, 1, none⟩ = some (errV a D.2))))

set_option maxRecDepth 100000 in
set_option maxHeartbeats 4000000 in
theorem fkeys_gone (s : ByteArray) (w : World) (a : Nat → Addr) (h : EnvD0 w a) (hs : s.size ≤ maxLen) :
    Calls Tryz.prog 73 #[.string (bytesOf (kindL true)), .string s] w fun e w' => FKPost w a (keysF true s.data.toList) e w' := by
  have hrd := gone_any s w a h hs
  have eK : keysF true s.data.toList = ((goneO s.data.toList).1, (goneO s.data.toList).2.1) := rfl
  rw [eK]
  generalize goneO s.data.toList = D at hrd ⊢
  have d1 := eqB_of (s := bytesOf (kindL true)) (l := [103, 111, 110, 101]) (by rw [bytes_data]; rfl)
  generalize bytesOf (kindL true) = kB at d1 ⊢
  clear eK
  go_enter Tryz.func73, Tryz.ntmps73
  go_wp2_with fail
  refine hrd.mono ?_
  rintro e w1 ⟨hb1, hres⟩
  clear hrd
  rcases hres with ⟨h0, v, rfl, hv, _⟩ | ⟨h0, h1, h2, rfl⟩ | ⟨h0, h1, at_, h2, fb, rfl, c0, c1⟩
  · have HV : Hid (KeysAt w1 v D.1) := hv
    clear hv
    go_wp2
    go_ret2
    exact ⟨hb1, Or.inl ⟨h0, v, rfl, HV.out⟩⟩
  · obtain ⟨E, hE⟩ : ∃ E, D.2.1 = E + 1 := ⟨D.2.1 - 1, by omega⟩
    have HE : Hid (D.2.1 = E + 1) := hE
    rw [hE]
    simp only [errV]
    clear hE
    go_wp2
    go_ret2
    exact ⟨hb1, Or.inr ⟨h0, _, rfl, Or.inl (by dsimp only; rw [HE.out]; rfl)⟩⟩
  · have C1 : Hid (w1.cell? ⟨fb, 1, none⟩ = some (errV a D.2.1)) := c1
    clear c0 c1
    go_wp2
    go_ret2
    exact ⟨hb1, Or.inr ⟨h0, _, rfl, Or.inr ⟨fb, rfl, C1.out⟩⟩⟩

theorem rd_le (l : List UInt8) : (readO l).2 ≤ 12 := by
  unfold readO
  split
  · split
    · split
      · exact Nat.zero_le _
      · dsimp only
        unfold rowE
        split
        · split <;> omega
        · omega
    · exact (by decide : (1 : Nat) ≤ 12)
  · exact (by decide : (1 : Nat) ≤ 12)

theorem keysR_len (xs : List Rw) : (keysR xs).length = xs.length := by simp [keysG]
theorem keysR_get (xs : List Rw) (j : Nat) (h : j < xs.length) (h' : j < (keysR xs).length) : (keysR xs)[j] = xs[j].2.1 := by simp [keysG, dataK]

set_option maxRecDepth 100000 in
set_option maxHeartbeats 8000000 in
theorem fkeys_data (s : ByteArray) (w : World) (a : Nat → Addr) (h : EnvD w a) (hs : s.size ≤ maxLen) :
    Calls Tryz.prog 73 #[.string (bytesOf (kindL false)), .string s] w fun e w' => FKPost w a (keysF false s.data.toList) e w' := by
  have hrd := data_any s w a h hs
  have hle := (readG_le dataK rd_le s.data.toList).2
  have eK : keysF false s.data.toList = (keysR (dataO s.data.toList).1, (dataO s.data.toList).2.1) := rfl
  have e0 : dataO s.data.toList = readG dataK s.data.toList := rfl
  rw [eK]
  rw [← e0] at hle
  generalize dataO s.data.toList = D at hrd hle ⊢
  have d1 := neB_of (s := bytesOf (kindL false)) (l := [103, 111, 110, 101]) (by rw [bytes_data]; decide)
  generalize bytesOf (kindL false) = kB at d1 ⊢
  clear eK e0
  go_enter Tryz.func73, Tryz.ntmps73
  go_wp2_with fail
  refine hrd.mono ?_
  rintro e w1 ⟨hb1, hres⟩
  clear hrd
  rcases hres with ⟨h0, v, rfl, hv⟩ | ⟨h0, h1, h2, rfl⟩ | ⟨h0, h1, at_, h2, fb, rfl, c0, c1⟩
  · obtain ⟨q, cap, rfl⟩ := hv.form
    obtain ⟨xs, d2⟩ := D
    dsimp only at h0 hv hle ⊢
    obtain ⟨L, hL⟩ : ∃ L, xs.length = L := ⟨_, rfl⟩
    have HV : Hid (RowsAt w1 (.slice q xs.length cap) xs) := hv
    have HX : Hid (xs.length = L) := hL
    have H0 : Hid (d2.1 = 0) := h0
    rw [hL] at hle ⊢
    clear hv hL h0
    have hmk := fun W => run_make_row' (P := Tryz.prog) 93 3 (.int .i64 0) 8 Tryz.underlying93 Tryz.numsInfo rfl .i64 .i64 L (by omega) (by omega) W
    have hal : Below w1.heap.size w1 (w1.alloc (.cells (madeCells #[.int .i64 0] L) 3)) := (Below.refl _ _).alloc (Nat.le_refl _) _
    have hblk := heap_alloc_new w1 (.cells (madeCells #[.int .i64 0] L) 3)
    have MD : Hid (∀ j, j < L → (madeCells #[.int .i64 0] L)[j]? = some (.int .i64 0)) := fun j hj => made_get _ _ _ hj
    go_wp2
    go_loopw [30] (fun k wr => ∃ (n : Nat) (arr : Array Value), n ≤ L ∧ k = .int .i64 n ∧ Below w1.heap.size w1 wr ∧ wr.heap[w1.heap.size]? = some (.cells arr 3 (0, 0)) ∧ (∀ j, j < L → ∃ u, arr[j]? = some u) ∧ ∀ j (h : j < xs.length), j < n → arr[j]? = some (.int .i64 xs[j].2.1)) (fun k _ => L - (intOf k).toNat)
    case atStart => exact ⟨0, _, by omega, rfl, hal, hblk, fun j hj => ⟨_, MD.out j hj⟩, fun j h h' => absurd h' (Nat.not_lt_zero _)⟩
    case round =>
      clear hal hblk hmk
      obtain ⟨n, arr, hn, rfl, hb, hbk, har, hgo⟩ := hrel
      have HB : Hid (wr.heap[w1.heap.size]? = some (.cells arr 3 (0, 0))) := hbk
      have HAR : Hid (∀ j, j < L → ∃ u, arr[j]? = some u) := har
      have HGO : Hid (∀ j (h : j < xs.length), j < n → arr[j]? = some (.int .i64 xs[j].2.1)) := hgo
      clear hbk har hgo
      by_cases hlt : n < L
      · have hltx : n < xs.length := by rw [HX.out]; exact hlt
        have hi : (n : Int) < (L : Int) := by omega
        have hi0 : (0 : Int) ≤ (n : Int) := by omega
        have hvv := HV.out
        rcases hvv with ⟨p, c, e, rfl⟩ | ⟨b, o, cp, e, hc⟩
        · simp at hltx
        · simp only [Value.slice.injEq] at e
          obtain ⟨rfl, _, rfl⟩ := e
          obtain ⟨c0, c1, c2⟩ := hc n hltx
          have c0' := below_keep hb c0
          have c1' := below_keep hb c1
          have c2' := below_keep hb c2
          have HXN : Hid (∃ x, xs[n] = x) := ⟨_, rfl⟩
          generalize hxn : xs[n] = x at c0' c1' c2'
          have HXE : Hid (xs[n] = x) := hxn
          clear hxn c0 c1 c2 hc HXN
          obtain ⟨xp, xk, xv⟩ := x
          dsimp only at c0' c1' c2'
          have hba : Below wr.heap.size wr (wr.alloc (.cells #[.string xp, .int .i64 xk, .int .i64 xv] 41)) := (Below.refl _ _).alloc (Nat.le_refl _) _
          have hbA : Below w1.heap.size w1 (wr.alloc (.cells #[.string xp, .int .i64 xk, .int .i64 xv] 41)) := hb.trans (hba.mono hb.size)
          have hbk3 : (wr.alloc (.cells #[.string xp, .int .i64 xk, .int .i64 xv] 41)).heap[w1.heap.size]? = some (.cells arr 3 (0, 0)) := (hba.block _ (lt_of_block HB.out)).trans HB.out
          obtain ⟨u, hu⟩ := HAR.out n hlt
          have hcu : (wr.alloc (.cells #[.string xp, .int .i64 xk, .int .i64 xv] 41)).cell? ⟨w1.heap.size, n, none⟩ = some u := by rw [cell_of_row _ _ _ _ _ _ hbk3]; exact hu
          have hfz : (wr.alloc (.cells #[.string xp, .int .i64 xk, .int .i64 xv] 41)).frozen? ⟨w1.heap.size, n, none⟩ = false := frozen_of_row _ _ _ _ _ hbk3
          have HSET : Hid (((wr.alloc (.cells #[.string xp, .int .i64 xk, .int .i64 xv] 41)).setCell ⟨w1.heap.size, n, none⟩ (.int .i64 xk)).heap[w1.heap.size]? = some (.cells (arr.setIfInBounds n (.int .i64 xk)) 3 (0, 0))) := heap_setCell_same _ w1.heap.size n arr 3 (.int .i64 xk) hbk3
          have HN : Hid (n < arr.size) := by
            show n < arr.size
            rcases Nat.lt_or_ge n arr.size with h' | h'
            · exact h'
            · rw [Array.getElem?_eq_none h'] at hu; cases hu
          have hB4 : Below w1.heap.size w1 ((wr.alloc (.cells #[.string xp, .int .i64 xk, .int .i64 xv] 41)).setCell ⟨w1.heap.size, n, none⟩ (.int .i64 xk)) := hbA.setCell (Nat.le_refl _) _
          have hm3 : ((n : Int) * 3).toNat = n * 3 := by omega
          clear hbk3 hu hba
          go_wp2
          go_roundw
          case rel =>
            refine ⟨n + 1, _, by omega, by go_num, hB4, HSET.out, fun j hj => ?_, fun j hj hjn => ?_⟩
            · rw [Array.getElem?_setIfInBounds]
              split
              · rw [if_pos HN.out]; exact ⟨_, rfl⟩
              · exact HAR.out j hj
            · rw [Array.getElem?_setIfInBounds]
              split
              · rename_i e
                subst e
                rw [if_pos HN.out, HXE.out]
              · rename_i e
                exact HGO.out j hj (by omega)
          case measure => simp [intOf]; omega
      · obtain rfl : n = L := by omega
        go_wp2
        go_ret2
        refine ⟨hb1.trans (hb.mono hb1.size), Or.inl ⟨H0.out, _, rfl, Or.inr ⟨w1.heap.size, 0, n, by rw [keysR_len, HX.out]; rfl, fun j hj => ?_⟩⟩⟩
        have hj' : j < xs.length := by rw [keysR_len] at hj; exact hj
        rw [Nat.zero_add, cell_of_row _ _ _ _ _ _ HB.out, HGO.out j hj' (by rw [← HX.out]; exact hj'), keysR_get _ _ hj' hj]
  · obtain ⟨E, hE⟩ : ∃ E, D.2.1 = E + 1 := ⟨D.2.1 - 1, by omega⟩
    have HE : Hid (D.2.1 = E + 1) := hE
    rw [hE]
    simp only [errV]
    clear hE
    go_wp2
    go_ret2
    exact ⟨hb1, Or.inr ⟨h0, _, rfl, Or.inl (by dsimp only; rw [HE.out]; rfl)⟩⟩
  · have C1 : Hid (w1.cell? ⟨fb, 1, none⟩ = some (errV a D.2.1)) := c1
    clear c0 c1
    go_wp2
    go_ret2
    exact ⟨hb1, Or.inr ⟨h0, _, rfl, Or.inr ⟨fb, rfl, C1.out⟩⟩⟩

theorem bare_err (n : Nat) (w : World) (a : Nat → Addr) (h : Hand w) :
    Calls Tryz.prog 74 #[errV a (n + 1)] w fun e w' => e = .returned (errV a (n + 1)) ∧ Below w.heap.size w w' := by
  have hb0 : Below w.heap.size w (w.alloc (.cells #[.pointer none] 108)) := (Below.refl _ _).alloc (Nat.le_refl _) _
  have hm := as_miss_below (a n) ⟨w.heap.size, 0, none⟩ _ (h.below hb0)
  simp only [errV]
  go_enter Tryz.func74, Tryz.ntmps74
  go_wp2_with fail
  refine hm.mono ?_
  rintro e w1 ⟨rfl, hb1⟩
  clear hm
  have hB1 : Below w.heap.size w w1 := hb0.trans (hb1.mono hb0.size)
  go_wp2
  go_ret
  exact ⟨rfl, hB1⟩

theorem bare_fault (fb : Nat) (n : Nat) (w : World) (a : Nat → Addr) (h : Hand w) (hc : w.cell? ⟨fb, 1, none⟩ = some (errV a (n + 1))) :
    Calls Tryz.prog 74 #[.iface 108 (.pointer (some ⟨fb, 0, none⟩))] w fun e w' => e = .returned (errV a (n + 1)) ∧ Below w.heap.size w w' := by
  have hm := as_hit_below ⟨fb, 0, none⟩ w h
  simp only [errV] at hc ⊢
  go_enter Tryz.func74, Tryz.ntmps74
  go_wp2_with fail
  refine hm.mono ?_
  rintro e w1 ⟨rfl, hb1, ht⟩
  clear hm
  have hc1 := below_keep hb1 hc
  go_wp2
  go_ret
  exact ⟨rfl, hb1⟩
end Go.Proofs.YtpkoefpdpoikkaaGreatDoor
namespace Go.Proofs.YtpkoefpdpoikkaaGreatDoor
open Go.RowKit Go.Extern.Stop Go.Stop Go.Extern Go.Sort Go.Shelf Go.Lib

theorem fkeys_any (g : Bool) (s : ByteArray) (w : World) (a : Nat → Addr) (h : EnvD w a) (hs : s.size ≤ maxLen) :
    Calls Tryz.prog 73 #[.string (bytesOf (kindL g)), .string s] w fun e w' => FKPost w a (keysF g s.data.toList) e w' := by
  cases g
  · exact fkeys_data s w a h hs
  · exact fkeys_gone s w a h.weak hs

theorem bare_any (E : Nat) (ev : Value) (w : World) (a : Nat → Addr) (h : Hand w) (hv : ev = errV a (E + 1) ∨ ∃ fb, ev = .iface 108 (.pointer (some ⟨fb, 0, none⟩)) ∧ w.cell? ⟨fb, 1, none⟩ = some (errV a (E + 1))) :
    Calls Tryz.prog 74 #[ev] w fun e w' => e = .returned (errV a (E + 1)) ∧ Below w.heap.size w w' := by
  rcases hv with rfl | ⟨fb, rfl, hc⟩
  · exact bare_err E w a h
  · exact bare_fault fb E w a h hc

theorem minmax_any (b o cap : Nat) (zs : List Int) (w : World) (hne : zs ≠ []) (hl : zs.length ≤ 100000) (hc : ∀ j (h : j < zs.length), w.cell? ⟨b, o + j, none⟩ = some (.int .i64 zs[j])) :
    Calls Tryz.prog 75 #[.slice (some ⟨b, o, none⟩) zs.length cap] w (fun e w' => e = .returned (.int .i64 (endsZ zs).1) ∧ w' = w) ∧
    Calls Tryz.prog 76 #[.slice (some ⟨b, o, none⟩) zs.length cap] w (fun e w' => e = .returned (.int .i64 (endsZ zs).2) ∧ w' = w) := by
  have hp : 0 < zs.length := List.length_pos_iff.2 hne
  have hc' : ∀ j, j < zs.length → w.cell? ⟨b, o + j, none⟩ = some (.int .i64 (zs.getD j 0)) := fun j hj => by
    rw [hc j hj]; simp [List.getD, hj]
  have h1 := Tryz.slices_Min_int b o zs.length cap zs w hp (Nat.le_refl _) (by omega) hc'
  have h2 := Tryz.slices_Max_int b o zs.length cap zs w hp (Nat.le_refl _) (by omega) hc'
  rw [List.take_length, (min_ends hne).1] at h1
  rw [List.take_length, (min_ends hne).2] at h2
  exact ⟨h1, h2⟩

theorem ofF_none {p q : ByteArray} {s : List UInt8} {seq : Int} (h : pathO p.data.toList = none) : ofF p q s seq = (zeroF, 5) := by unfold ofF; rw [h]
theorem ofF_some {p q : ByteArray} {s : List UInt8} {seq : Int} {g : Bool} {n : Int} (h : pathO p.data.toList = some (g, n)) : ofF p q s seq = if (keysF g s).2 = 0 then chkF (p, q, (keysF g s).1.length, (endsZ (keysF g s).1).1, (endsZ (keysF g s).1).2, seq) else (zeroF, (keysF g s).2) := by unfold ofF; rw [h]

theorem goneO_le (s : List UInt8) : (goneO s).1.length ≤ 40 := (readG_le goneK (fun l => by
  show (keyO l).2 ≤ 12
  unfold keyO
  split
  · exact (by decide : (1 : Nat) ≤ 12)
  · split
    · exact Nat.zero_le _
    · exact (by decide : (2 : Nat) ≤ 12)) s).2

theorem keysF_len (g : Bool) (s : List UInt8) : (keysF g s).1.length ≤ 40 := by
  cases g
  · show (keysR (dataO s).1).length ≤ 40
    rw [keysR_len]
    exact (readG_le dataK rd_le s).2
  · exact goneO_le s

set_option maxRecDepth 100000 in
set_option maxHeartbeats 8000000 in
theorem fof_any (p q s : ByteArray) (seq : Int) (w : World) (a : Nat → Addr) (h : EnvF w a) (hEr : ∀ g n, pathO p.data.toList = some (g, n) → (keysF g s.data.toList).2 ≠ 0 → Hand w) (h1 : p.size ≤ 100000) (h2 : q.size ≤ 100000) (hs : s.size ≤ maxLen) :
    Calls Tryz.prog 18 #[.string p, .string q, .string s, .int .i64 seq] w fun e w' => e = .returned (.tuple #[flV (ofF p q s.data.toList seq).1, errV a (ofF p q s.data.toList seq).2]) ∧ Below w.heap.size w w' := by
  have hal : Below w.heap.size w (w.alloc (.cells #[.string ⟨#[]⟩, .string ⟨#[]⟩, .int .i64 0, .int .i64 0, .int .i64 0, .int .i64 0] 23)) := (Below.refl _ _).alloc (Nat.le_refl _) _
  have hfz : FlAt (w.alloc (.cells #[.string ⟨#[]⟩, .string ⟨#[]⟩, .int .i64 0, .int .i64 0, .int .i64 0, .int .i64 0] 23)) w.heap.size zeroF := FlAt.new w zeroF
  have hnm := fnumber_any p _ a (h.below hal).data.env h1
  generalize hR : ofF p q s.data.toList seq = R
  have HR : Hid (ofF p q s.data.toList seq = R) := hR
  clear hR
  have zero : ∀ W, FlAt W w.heap.size zeroF → (W.cell? ⟨w.heap.size, 0, none⟩ = some (.string ⟨#[]⟩) ∧ W.cell? ⟨w.heap.size, 1, none⟩ = some (.string ⟨#[]⟩) ∧ W.cell? ⟨w.heap.size, 2, none⟩ = some (.int .i64 0) ∧ W.cell? ⟨w.heap.size, 3, none⟩ = some (.int .i64 0) ∧ W.cell? ⟨w.heap.size, 4, none⟩ = some (.int .i64 0) ∧ W.cell? ⟨w.heap.size, 5, none⟩ = some (.int .i64 0) ∧ ∀ o, W.frozen? ⟨w.heap.size, o, none⟩ = false) := fun W hW => hW.cells
  have ZERO : Hid (∀ W, FlAt W w.heap.size zeroF → (W.cell? ⟨w.heap.size, 0, none⟩ = some (.string ⟨#[]⟩) ∧ W.cell? ⟨w.heap.size, 1, none⟩ = some (.string ⟨#[]⟩) ∧ W.cell? ⟨w.heap.size, 2, none⟩ = some (.int .i64 0) ∧ W.cell? ⟨w.heap.size, 3, none⟩ = some (.int .i64 0) ∧ W.cell? ⟨w.heap.size, 4, none⟩ = some (.int .i64 0) ∧ W.cell? ⟨w.heap.size, 5, none⟩ = some (.int .i64 0) ∧ ∀ o, W.frozen? ⟨w.heap.size, o, none⟩ = false)) := zero
  clear zero
  go_enter Tryz.func18, Tryz.ntmps18
  go_wp2_with fail
  generalize w.alloc (.cells #[.string ⟨#[]⟩, .string ⟨#[]⟩, .int .i64 0, .int .i64 0, .int .i64 0, .int .i64 0] 23) = WA at hal hfz hnm ⊢
  refine hnm.mono ?_
  rintro e w1 ⟨rfl, hb1⟩
  clear hnm
  have hB1 : Below w.heap.size w w1 := hal.trans (hb1.mono hal.size)
  have hfz1 := hfz.below hb1
  have HF1 : Hid (FlAt w1 w.heap.size zeroF) := hfz1
  clear hfz hb1 hal hfz1
  cases hp : pathO p.data.toList with
  | none =>
    have hRR := HR.out
    rw [ofF_none hp] at hRR
    subst hRR
    rw [pathR_none hp]
    simp only [errV, bytesOf]
    obtain ⟨y0, y1, y2, y3, y4, y5, yf⟩ := ZERO.out w1 HF1.out
    have s0 := setCell_self y0
    have s1 := setCell_self y1
    have s2 := setCell_self y2
    have s3 := setCell_self y3
    have s4 := setCell_self y4
    have s5 := setCell_self y5
    clear hp
    go_wp2
    exact bodyPost_ret (v := .tuple #[.agg #[.string ⟨#[]⟩, .string ⟨#[]⟩, .int .i64 0, .int .i64 0, .int .i64 0, .int .i64 0], .iface 289 (.pointer (some (a 4)))]) (by simp [results, Tryz.results18, go_sem, y0, y1, y2, y3, y4, y5]) rfl ⟨rfl, hB1⟩
  | some gn =>
    obtain ⟨g, k⟩ := gn
    have hRR := HR.out
    rw [ofF_some hp] at hRR
    rw [pathR_some hp]
    have hkf := fkeys_any g s w1 a (h.below hB1).data hs
    have hkl := keysF_len g s.data.toList
    have hEr2 := hEr g k hp
    clear hEr hp
    simp only [errV]
    generalize keysF g s.data.toList = K at hRR hkf hkl hEr2
    obtain ⟨zs, E⟩ := K
    dsimp only at hRR hkl hEr2
    go_wp2_with fail
    refine hkf.mono ?_
    rintro e w2 ⟨hb2, hres⟩
    clear hkf
    have hB2 : Below w.heap.size w w2 := hB1.trans (hb2.mono hB1.size)
    have HF2 : Hid (FlAt w2 w.heap.size zeroF) := HF1.out.below hb2
    dsimp only at hres
    rcases hres with ⟨h0, v, rfl, hv⟩ | ⟨h0, ev, rfl, hev⟩
    · rw [if_pos h0] at hRR
      obtain ⟨L, hL⟩ : ∃ L, zs.length = L := ⟨_, rfl⟩
      have HL : Hid (zs.length = L) := hL
      obtain ⟨vq, vc, rfl⟩ := hv.form
      rw [hL] at hRR hkl ⊢
      clear h0 hEr2 hL
      have hba : Below w2.heap.size w2 (w2.alloc (.cells #[.string p, .string q, .int .i64 L, .int .i64 0, .int .i64 0, .int .i64 seq] 23)) := (Below.refl _ _).alloc (Nat.le_refl _) _
      have hfA := FlAt.new w2 (p, q, (L : Int), 0, 0, seq)
      have hzA := HF2.out.below hba
      dsimp only at hfA
      have hBA : Below w.heap.size w (w2.alloc (.cells #[.string p, .string q, .int .i64 L, .int .i64 0, .int .i64 0, .int .i64 seq] 23)) := hB2.trans (hba.mono hB2.size)
      by_cases hz : zs = []
      · subst hz
        have hL0 : L = 0 := by rw [← HL.out]; rfl
        subst hL0
        have e0 : endsZ [] = (0, 0) := rfl
        rw [e0] at hRR
        dsimp only at hRR
        have hck := checked_any (p, q, ((0 : Nat) : Int), 0, 0, seq) _ a (h.below hBA).lean h1 h2
        rw [hRR] at hck
        unfold flV at hck
        dsimp only at hck
        obtain ⟨x0, x1, x2, x3, x4, x5, _⟩ := hfA.cells
        dsimp only at x0 x1 x2 x3 x4 x5
        obtain ⟨⟨rp, rq, rn, rlo, rhi, rseq⟩, rE⟩ := R
        dsimp only at hck
        have HZA : Hid (FlAt (w2.alloc (.cells #[.string p, .string q, .int .i64 ((0 : Nat) : Int), .int .i64 0, .int .i64 0, .int .i64 seq] 23)) w.heap.size zeroF) := hzA
        clear hRR hv hba hfA hzA HL hkl e0
        go_wp2_with fail
        generalize w2.alloc (.cells #[.string p, .string q, .int .i64 ((0 : Nat) : Int), .int .i64 0, .int .i64 0, .int .i64 seq] 23) = WF at hck hBA x0 x1 x2 x3 x4 x5 HZA ⊢
        refine hck.mono ?_
        rintro e w5 ⟨rfl, hb5⟩
        clear hck x0 x1 x2 x3 x4 x5
        have hB5 : Below w.heap.size w w5 := hBA.trans (hb5.mono hBA.size)
        have hz5 := HZA.out.below hb5
        obtain ⟨y0, y1, y2, y3, y4, y5, yf⟩ := ZERO.out w5 hz5
        obtain ⟨z0, z1, z2, z3, z4, z5, _⟩ := (hz5.set (rp, rq, rn, rlo, rhi, rseq)).cells
        have hB6 := flSet_below (f := (rp, rq, rn, rlo, rhi, rseq)) hB5 (Nat.le_refl w.heap.size)
        unfold flSet at z0 z1 z2 z3 z4 z5 hB6
        dsimp only at z0 z1 z2 z3 z4 z5 hB6
        clear hz5
        go_wp2
        exact bodyPost_ret (v := .tuple #[.agg #[.string rp, .string rq, .int .i64 rn, .int .i64 rlo, .int .i64 rhi, .int .i64 rseq], errV a rE]) (by simp [results, Tryz.results18, go_sem, z0, z1, z2, z3, z4, z5]) rfl ⟨rfl, hB6⟩
      · have hLp : 0 < L := by rw [← HL.out]; exact List.length_pos_iff.2 hz
        obtain ⟨b, o, cap, hve, hc⟩ : ∃ b o cap, Value.slice vq zs.length vc = .slice (some ⟨b, o, none⟩) zs.length cap ∧ ∀ j (h : j < zs.length), w2.cell? ⟨b, o + j, none⟩ = some (.int .i64 zs[j]) := by
          rcases hv with ⟨_, _, _, e⟩ | hv
          · exact absurd e hz
          · exact hv
        simp only [Value.slice.injEq, true_and] at hve
        obtain ⟨rfl, rfl⟩ := hve
        obtain ⟨hmi, hma⟩ := minmax_any b o vc zs (w2.alloc (.cells #[.string p, .string q, .int .i64 L, .int .i64 0, .int .i64 0, .int .i64 seq] 23)) hz (by rw [HL.out]; omega) (fun j hj => below_keep hba (hc j hj))
        rw [HL.out] at hmi hma
        generalize (endsZ zs).1 = lo at hmi hRR
        generalize (endsZ zs).2 = hi at hma hRR
        have hi0 : (0 : Int) < (L : Int) := by omega
        obtain ⟨x0, x1, x2, x3, x4, x5, xf⟩ := hfA.cells
        dsimp only at x0 x1 x2 x3 x4 x5
        have hfB := FlAt.new w2 (p, q, (L : Int), lo, hi, seq)
        dsimp only at hfB
        have hbb : Below w2.heap.size w2 (w2.alloc (.cells #[.string p, .string q, .int .i64 L, .int .i64 lo, .int .i64 hi, .int .i64 seq] 23)) := (Below.refl _ _).alloc (Nat.le_refl _) _
        have hzB := HF2.out.below hbb
        have hBB : Below w.heap.size w (w2.alloc (.cells #[.string p, .string q, .int .i64 L, .int .i64 lo, .int .i64 hi, .int .i64 seq] 23)) := hB2.trans (hbb.mono hB2.size)
        have hck := checked_any (p, q, (L : Int), lo, hi, seq) _ a (h.below hBB).lean h1 h2
        rw [hRR] at hck
        unfold flV at hck
        dsimp only at hck
        obtain ⟨g0, g1, g2, g3, g4, g5, _⟩ := hfB.cells
        dsimp only at g0 g1 g2 g3 g4 g5
        obtain ⟨⟨rp, rq, rn, rlo, rhi, rseq⟩, rE⟩ := R
        dsimp only at hck
        have HZB : Hid (FlAt (w2.alloc (.cells #[.string p, .string q, .int .i64 L, .int .i64 lo, .int .i64 hi, .int .i64 seq] 23)) w.heap.size zeroF) := hzB
        clear hRR hv hba hfA hzA hfB hzB hkl hc hz hbb
        go_wp2_with fail
        refine hmi.mono ?_
        rintro e w3 ⟨rfl, hw3⟩
        rw [hw3]
        clear hmi hw3
        go_wp2_with fail
        refine hma.mono ?_
        rintro e w4 ⟨rfl, hw4⟩
        rw [hw4]
        clear hma hw4
        go_wp2_with fail
        refine hck.mono ?_
        rintro e w5 ⟨rfl, hb5⟩
        have hB5 : Below w.heap.size w w5 := hBB.trans (hb5.mono hBB.size)
        have hz5 := HZB.out.below hb5
        clear hck x0 x1 x2 x3 x4 x5 g0 g1 g2 g3 g4 g5 HZB
        obtain ⟨y0, y1, y2, y3, y4, y5, yf⟩ := ZERO.out w5 hz5
        obtain ⟨z0, z1, z2, z3, z4, z5, _⟩ := (hz5.set (rp, rq, rn, rlo, rhi, rseq)).cells
        have hB6 := flSet_below (f := (rp, rq, rn, rlo, rhi, rseq)) hB5 (Nat.le_refl w.heap.size)
        unfold flSet at z0 z1 z2 z3 z4 z5 hB6
        dsimp only at z0 z1 z2 z3 z4 z5 hB6
        clear hz5 hb5
        go_wp2
        exact bodyPost_ret (v := .tuple #[.agg #[.string rp, .string rq, .int .i64 rn, .int .i64 rlo, .int .i64 rhi, .int .i64 rseq], errV a rE]) (by simp [results, Tryz.results18, go_sem, z0, z1, z2, z3, z4, z5]) rfl ⟨rfl, hB6⟩
    · rw [if_neg h0] at hRR
      subst hRR
      obtain ⟨j, rfl⟩ : ∃ j, E = j + 1 := ⟨E - 1, by omega⟩
      have hbr := bare_any j ev w2 a ((hEr2 h0).below hB2) hev
      have hnil : ∃ ty pv, ev = .iface ty pv := by
        rcases hev with rfl | ⟨fb, rfl, _⟩
        · exact ⟨_, _, rfl⟩
        · exact ⟨_, _, rfl⟩
      obtain ⟨ty, pv, rfl⟩ := hnil
      simp only [errV, bytesOf] at hbr ⊢
      clear hEr2 hev h0
      go_wp2_with fail
      refine hbr.mono ?_
      rintro e w3 ⟨rfl, hb3⟩
      clear hbr
      have hB3 : Below w.heap.size w w3 := hB2.trans (hb3.mono hB2.size)
      obtain ⟨y0, y1, y2, y3, y4, y5, yf⟩ := ZERO.out w3 (HF2.out.below hb3)
      have s0 := setCell_self y0
      have s1 := setCell_self y1
      have s2 := setCell_self y2
      have s3 := setCell_self y3
      have s4 := setCell_self y4
      have s5 := setCell_self y5
      go_wp2
      exact bodyPost_ret (v := .tuple #[.agg #[.string ⟨#[]⟩, .string ⟨#[]⟩, .int .i64 0, .int .i64 0, .int .i64 0, .int .i64 0], .iface 289 (.pointer (some (a j)))]) (by simp [results, Tryz.results18, go_sem, y0, y1, y2, y3, y4, y5]) rfl ⟨rfl, hB3⟩
end Go.Proofs.YtpkoefpdpoikkaaGreatDoor
namespace Go.Proofs.YtpkoefpdpoikkaaGreatDoor
open Go.RowKit Go.Extern.Stop Go.Stop Go.Extern Go.Sort Go.Shelf Go.Lib

theorem neqF (f : Fl) (w : World) : (binOp .neq 23 (flV f) (flV f)).run Tryz.prog w = .ok (.bool false) w := by
  have u3 := Tryz.underlying3
  have u9 := Tryz.underlying9
  have a3 := Tryz.isAgg3
  have z3 := Tryz.sizeOf3
  have a9 := Tryz.isAgg9
  have z9 := Tryz.sizeOf9
  have hS : Tryz.prog.underlying 23 = some (.struct (Tryz.prog.fieldsOf 23)) := by kernel_rfl
  have hp : Tryz.prog.stoodInHeld 23 = false := by kernel_rfl
  obtain ⟨p, q, n, lo, hi, seq⟩ := f
  unfold flV
  dsimp only
  rw [run_neq_struct, show (10000 : Nat) = 9999 + 1 from rfl, run_equalIn_agg w 9999 23 _ _ hS hp]
  simp only [Program.fieldsOf, Tryz.underlying23]
  go_simp

theorem guardF : GuardAt Tryz.prog 23 flV := GuardAt.agg _ (by kernel_rfl)

def longFB (f : Fl) : Bool := decide (30 < f.1.size) || decide (30 < f.2.1.size)

theorem longFile_any (f : Fl) (w : World) (h1 : f.1.size ≤ maxLen) (h2 : f.2.1.size ≤ maxLen) :
    Calls Tryz.prog 10 #[flV f] w fun e w' => e = .returned (.int .i64 (if longFB f then 1 else 0)) ∧ Below w.heap.size w w' := by
  have hal : Below w.heap.size w (w.alloc (.cells #[.string f.1, .string f.2.1, .int .i64 f.2.2.1, .int .i64 f.2.2.2.1, .int .i64 f.2.2.2.2.1, .int .i64 f.2.2.2.2.2] 23)) := (Below.refl _ _).alloc (Nat.le_refl _) _
  have hfl := FlAt.new w f
  unfold maxLen at h1 h2
  obtain ⟨p, q, n, lo, hi, seq⟩ := f
  unfold flV longFB
  dsimp only at h1 h2 hal hfl ⊢
  by_cases hp : 30 < p.size
  · have e : (decide (30 < p.size) || decide (30 < q.size)) = true := by simp [hp]
    rw [e, if_pos rfl]
    clear e
    go_enter Tryz.func10, Tryz.ntmps10
    go_wp2
    go_ret
    exact ⟨rfl, hal⟩
  · by_cases hq : 30 < q.size
    · have e : (decide (30 < p.size) || decide (30 < q.size)) = true := by simp [hq]
      rw [e, if_pos rfl]
      clear e
      go_enter Tryz.func10, Tryz.ntmps10
      go_wp2
      go_ret
      exact ⟨rfl, hal⟩
    · have e : (decide (30 < p.size) || decide (30 < q.size)) = false := by simp [hp, hq]
      rw [e, if_neg (by simp)]
      clear e
      go_enter Tryz.func10, Tryz.ntmps10
      go_wp2
      go_ret
      exact ⟨rfl, hal⟩
end Go.Proofs.YtpkoefpdpoikkaaGreatDoor
