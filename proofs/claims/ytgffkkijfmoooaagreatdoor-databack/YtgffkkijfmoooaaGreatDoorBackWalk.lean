/-
  The walk of DataBack: whatever rows, place and byte: true; what was there is as it was.
-/
import Derived.Test.YtgffkkijfmoooaaGreatDoorDataFile
import Derived.Laws.IdiomStrings
namespace Go.Proofs.YtgffkkijfmoooaaGreatDoor
open Go.RowKit Go.Extern.Stop Go.Stop Go.Extern Go.Sort Go.Shelf Go.Lib

/-- The row that dated writes. -/
def dRow : Rw := (⟨#[97]⟩, 1, 2)
theorem dRow_ok : rowE dRow = 0 := by decide
theorem sort_one (x : Rw) : sortR [x] = [x] := List.perm_singleton.1 (sortR_perm [x])
theorem sum_nine : sumL [49, 50, 51, 52, 53, 54, 55, 56, 57] = 3421780262 := by decide +kernel
theorem bytes_list (l : List UInt8) : (bytesOf l).data.toList = l := by simp [bytesOf]

theorem slice_form {W : World} {base : Nat} {e : TypeId} {size : Nat} {v : Value} {n : Nat} {xs : List Value} (h : W.ownsRow base e size v n xs) : ∃ q c, v = .slice q n c := by
  rcases h.2 with ⟨rfl, rfl⟩ | ⟨g, cap, cur, rfl, _⟩
  · exact ⟨_, _, rfl⟩
  · exact ⟨_, _, rfl⟩

theorem firstBad (xs : List Rw) : ∃ m, m ≤ xs.length ∧ (∀ i (h : i < xs.length), i < m → rowE xs[i] = 0) ∧ ∀ (h : m < xs.length), rowE xs[m] ≠ 0 := by
  induction xs with
  | nil => exact ⟨0, Nat.le_refl _, fun i h => absurd h (by simp), fun h => absurd h (by simp)⟩
  | cons x xs ih =>
    by_cases h0 : rowE x = 0
    · obtain ⟨m, hm, hg, he⟩ := ih
      refine ⟨m + 1, by simp; exact hm, fun i h hi => ?_, fun h => ?_⟩
      · cases i with
        | zero => exact h0
        | succ i => exact hg i (by simpa using h) (by omega)
      · exact he (by simpa using h)
    · exact ⟨0, Nat.zero_le _, fun i _ hi => absurd hi (by omega), fun _ => h0⟩

/-- A text's bytes, one of them another, and a text again. -/
theorem set_byte (s : ByteArray) (n : Nat) (hn : n < s.size) (c : UInt8) (w : World) : ∃ (C : Nat) (W1 : World) (v0 : Value),
    (convert 9 69 (.string s)).run Tryz.prog w = .ok (.slice (some ⟨w.heap.size, 0, none⟩) s.size C) W1 ∧ W1.cell? ⟨w.heap.size, n, none⟩ = some v0 ∧ W1.frozen? ⟨w.heap.size, n, none⟩ = false ∧
    (convert 69 9 (.slice (some ⟨w.heap.size, 0, none⟩) s.size C)).run Tryz.prog (W1.setCell ⟨w.heap.size, n, none⟩ (.int .u8 c.toNat)) = .ok (.string (bytesOf (s.data.toList.set n c))) (W1.setCell ⟨w.heap.size, n, none⟩ (.int .u8 c.toNat)) ∧
    Below w.heap.size w (W1.setCell ⟨w.heap.size, n, none⟩ (.int .u8 c.toNat)) := by
  have hconv := run_bytes_of_string (P := Tryz.prog) w 9 69 5 s Tryz.underlying9 Tryz.underlying69 Tryz.underlying5
  have hnd : n < s.data.size := hn
  generalize grownCap w s.size 0 5 = C at hconv
  have hsz : n < (bytesRow s C).size := by simp [bytesRow]; omega
  have hcell : ∀ j (hj : j < s.data.size), (w.drew.alloc (.cells (bytesRow s C) 5 ((bytesRow s C).size, (bytesRow s C).size + 1))).cell? ⟨w.heap.size, j, none⟩ = some (.int .u8 (s.data[j].toNat : Int)) := fun j hj => by
    have := World.cell?_alloc_mark w.drew (bytesRow s C) 5 ((bytesRow s C).size, (bytesRow s C).size + 1) j
    rw [bytesRow_at s C j hj] at this
    exact this
  have hz : (w.drew.alloc (.cells (bytesRow s C) 5 ((bytesRow s C).size, (bytesRow s C).size + 1))).frozen? ⟨w.heap.size, n, none⟩ = false := by
    have := World.frozen?_alloc_mark w.drew (bytesRow s C) 5 (bytesRow s C).size ((bytesRow s C).size + 1) n
    refine Eq.trans this ?_
    simp
    omega
  have hlow : Below w.heap.size w (w.drew.alloc (.cells (bytesRow s C) 5 ((bytesRow s C).size, (bytesRow s C).size + 1))) := (Below.refl w.heap.size w).drew.alloc (Nat.le_refl _) _
  generalize w.drew.alloc (.cells (bytesRow s C) 5 ((bytesRow s C).size, (bytesRow s C).size + 1)) = W1 at hconv hcell hz hlow
  refine ⟨C, W1, _, hconv, hcell n hnd, hz, ?_, hlow.setCell (Nat.le_refl _) _⟩
  have hlen : (s.data.toList.set n c).length = s.size := by rw [List.length_set, size_list]
  have := run_convert_bytes_back (P := Tryz.prog) (W1.setCell ⟨w.heap.size, n, none⟩ (.int .u8 c.toNat)) 69 9 5 ⟨w.heap.size, 0, none⟩ C (s.data.toList.set n c) Tryz.underlying69 Tryz.underlying5 Tryz.underlying9 (fun j hj => by
    rw [hlen] at hj
    have hjd : j < s.data.size := hj
    rw [add_plain]
    by_cases e : j = n
    · subst e
      have := World.cell?_setCell_same W1 ⟨w.heap.size, j, none⟩ (.int .u8 (c.toNat : Int)) (hcell j hjd)
      simpa using this
    · rw [World.cell?_setCell_other _ _ _ _ (by simp)]
      have := hcell j hjd
      simp only [Nat.zero_add]
      rw [this, List.getElem_set_ne (by omega)]
      simp)
  rw [hlen] at this
  exact this

set_option maxRecDepth 100000 in
set_option maxHeartbeats 2000000 in
theorem dated_any (w : World) (a : Nat → Addr) (h : EnvD w a) :
    Calls Tryz.prog 38 #[] w fun e w' => e = .returned (.bool true) ∧ Below w.heap.size w w' := by
  have hal : Below w.heap.size w (w.alloc (.cells #[.string ⟨#[97]⟩, .int .i64 1, .int .i64 2] 30)) := (Below.refl _ _).alloc (Nat.le_refl _) _
  have hr : RowsAt (w.alloc (.cells #[.string ⟨#[97]⟩, .int .i64 1, .int .i64 2] 30)) (.slice (some ⟨w.heap.size, 0, none⟩) [dRow].length 1) [dRow] := by
    refine .inr ⟨w.heap.size, 0, 1, rfl, fun i hi => ?_⟩
    obtain rfl : i = 0 := by simpa using hi
    refine ⟨?_, ?_, ?_⟩ <;> simp [dRow]
  have hmk : Calls Tryz.prog 39 #[.slice (some ⟨w.heap.size, 0, none⟩) 1 1] (w.alloc (.cells #[.string ⟨#[97]⟩, .int .i64 1, .int .i64 2] 30)) fun e w' => e = .returned (.tuple #[.string (bytesOf (fileOf [dRow])), .nilIface]) ∧ Below (w.alloc (.cells #[.string ⟨#[97]⟩, .int .i64 1, .int .i64 2] 30)).heap.size (w.alloc (.cells #[.string ⟨#[97]⟩, .int .i64 1, .int .i64 2] 30)) w' := by
    refine (make_any (some ⟨w.heap.size, 0, none⟩) 1 [dRow] _ a (h.below hal) hr (by decide) (by intro x hx; rw [List.mem_singleton.1 hx]; decide) 1 (Nat.le_refl _) (fun i hi _ => by
      obtain rfl : i = 0 := by simpa using hi
      exact dRow_ok) (fun h => absurd h (by simp))).mono ?_
    rintro e w' (⟨_, h1, h2⟩ | ⟨h1, _⟩)
    · rw [sort_one] at h1
      exact ⟨h1, h2⟩
    · exact absurd h1 (by simp)
  have hok : ∀ x ∈ [dRow], rowE x = 0 := fun x hx => by rw [List.mem_singleton.1 hx]; exact dRow_ok
  have hfl := file_len [dRow] hok (by decide)
  have hrd := fun W (hW : EnvD W a) => data_any (bytesOf (fileOf [dRow])) W a hW (by rw [bytes_len]; unfold maxLen; omega)
  have hfr := file_read [dRow] hok (by decide) (List.pairwise_singleton _ _)
  simp only [bytes_list, hfr] at hrd
  have hsu := fun W => sum_any ⟨#[49, 50, 51, 52, 53, 54, 55, 56, 57]⟩ W (by decide)
  simp only [sum_nine] at hsu
  generalize bytesOf (fileOf [dRow]) = S at hmk hrd
  clear hfl hfr hok hr
  go_enter Tryz.func38, Tryz.ntmps38
  go_wp2_with fail
  refine hmk.mono ?_
  rintro e w1 ⟨rfl, hb1⟩
  have hB1 : Below w.heap.size w w1 := hal.trans (hb1.mono hal.size)
  have hr1 := hrd w1 (h.below hB1)
  clear hmk hrd hb1 hal
  go_wp2_with fail
  refine hr1.mono ?_
  rintro e w2 ⟨hb2, hp⟩
  clear hr1
  obtain ⟨v, rfl, hv⟩ : ∃ v, e = .returned (.tuple #[v, .nilIface]) ∧ RowsAt w2 v [dRow] := by
    rcases hp with ⟨_, h1⟩ | ⟨h1, _⟩ | ⟨h1, _⟩
    · exact h1
    · exact absurd rfl h1
    · exact absurd rfl h1
  clear hp
  obtain ⟨p, c, hvf⟩ := hv.form
  have hl1 : [dRow].length = 1 := rfl
  rw [hl1] at hvf
  subst hvf
  clear hv hl1
  have hB2 : Below w.heap.size w w2 := hB1.trans (hb2.mono hB1.size)
  have hs2 := hsu w2
  clear hsu
  go_wp2_with fail
  refine hs2.mono ?_
  rintro e w3 ⟨rfl, hb3⟩
  clear hs2
  go_wp2
  go_ret
  exact ⟨rfl, hB2.trans (hb3.mono hB2.size)⟩

set_option maxRecDepth 100000 in
set_option maxHeartbeats 4000000 in
theorem dataBack_any (q : Option Addr) (c : Nat) (xs : List Rw) (at_ : Int) (b : UInt8) (w : World) (a : Nat → Addr) (h : EnvD w a) (hx : RowsAt w (.slice q xs.length c) xs) (hlx : xs.length ≤ maxLen) (ha0 : -9223372036854775808 ≤ at_) (ha : at_ ≤ 9223372036854775807) :
    Calls Tryz.prog 7 #[.slice q xs.length c, .int .i64 at_, .int .u8 b.toNat] w fun e w' => e = .returned (.bool true) ∧ Below w.heap.size w w' := by
  have hda := dated_any w a h
  have hlong := fun W (hW : Below w.heap.size w W) => longRows_any (.slice q xs.length c) xs 45 W (hx.below hW) hlx (by omega)
  cases hlb : longB 45 xs
  case true =>
    rw [longN_yes hlb] at hlong
    generalize xs.length = L at hx hlx hlong ⊢
    unfold maxLen at hlx
    clear hlb hx
    go_enter Tryz.func7, Tryz.ntmps7
    go_wp2_with fail
    refine hda.mono ?_
    rintro e w1 ⟨rfl, hb1⟩
    have hl1 := hlong w1 hb1
    clear hlong hda
    go_wp2_with fail
    refine hl1.mono ?_
    rintro e w2 ⟨rfl, rfl⟩
    clear hl1
    go_wp2
    go_ret
    exact ⟨rfl, hb1⟩
  case false =>
  rw [longN_no hlb] at hlong
  have hl45 : xs.length ≤ 45 := by have := longB_len hlb; omega
  have HP : Hid (∀ x ∈ xs, x.1.size ≤ 30) := longB_part hlb
  by_cases hneg : at_ < 0
  · generalize xs.length = L at hx hlx hlong hl45 ⊢
    clear hlb hx hlx HP
    go_enter Tryz.func7, Tryz.ntmps7
    go_wp2_with fail
    refine hda.mono ?_
    rintro e w1 ⟨rfl, hb1⟩
    have hl1 := hlong w1 hb1
    clear hlong hda
    go_wp2_with fail
    refine hl1.mono ?_
    rintro e w2 ⟨rfl, rfl⟩
    clear hl1
    go_wp2
    go_ret
    exact ⟨rfl, hb1⟩
  obtain ⟨n, rfl⟩ : ∃ n : Nat, at_ = (n : Int) := ⟨at_.toNat, by omega⟩
  have hn0 : (0 : Int) ≤ (n : Int) := by omega
  have hnn : ¬ (n : Int) < 0 := by omega
  have how := fun W (hW : Below w.heap.size w W) => ownRows_any (.slice q xs.length c) xs W (hx.below hW) (by omega)
  have hmf := fun W (q3 : Option Addr) (c3 : Nat) (hW : EnvD W a) (hm : 40 < xs.length) => make_full q3 xs.length c3 W a hW hm (by unfold maxLen; omega)
  obtain ⟨m, hm, hgood, hend⟩ := firstBad xs
  have hmk := fun W (q3 : Option Addr) (c3 : Nat) (hW : EnvD W a) (hr : RowsAt W (.slice q3 xs.length c3) xs) (hl : xs.length ≤ 40) => (make_any q3 c3 xs W a hW hr hl HP.out m hm hgood hend).mono fun e w' hp => show (m = xs.length ∧ e = .returned (.tuple #[.string (bytesOf (fileOf (sortR xs))), .nilIface]) ∧ Below W.heap.size W w') ∨ (∃ fb, e = .returned (.tuple #[.string ⟨#[]⟩, .iface 93 (.pointer (some ⟨fb, 0, none⟩))]) ∧ Below W.heap.size W w') by
    rcases hp with h1 | ⟨_, fb, h1, _, _, h2⟩
    · exact .inl h1
    · exact .inr ⟨fb, h1, h2⟩
  have hall : m = xs.length → ∀ x ∈ xs, rowE x = 0 := fun e x hxm => by
    obtain ⟨i, hi, e'⟩ := List.mem_iff_getElem.1 hxm
    rw [← e']
    exact hgood i hi (by omega)
  have hsl : (sortR xs).length = xs.length := (sortR_perm xs).length_eq
  have HF : Hid (m = xs.length → xs.length ≤ 40 → (fileOf (sortR xs)).length ≤ 1400 ∧ dataO (fileOf (sortR xs)) = (sortR xs, 0, none) ∧ ∀ (i : Nat) (c : UInt8) (hi : i < (fileOf (sortR xs)).length), (fileOf (sortR xs))[i] ≠ c → (dataO ((fileOf (sortR xs)).set i c)).2.1 ≠ 0) := fun e h40 => by
    have h1 := sort_ok (hall e)
    exact ⟨file_len _ h1 (by omega), file_read _ h1 (by omega) (sort_rise xs), fun i c hi hc => file_parts _ h1 (by omega) (sort_rise xs) i c hi hc⟩
  have hso := fun W (hr : RowsAt W (.slice q xs.length c) xs) => sort_any (.slice q xs.length c) xs W hr (by omega)
  have hsm := fun W (v v' : Value) (h1 : RowsAt W v (sortR xs)) (h2 : RowsAt W v' (sortR xs)) => sameRows_any v v' (sortR xs) (sortR xs) W h1 h2 (by omega) (by omega)
  simp only [decide_true] at hsm
  generalize hL : xs.length = L at hx hlong hl45 how hmf hmk hso ⊢
  have HL : Hid (xs.length = L) := hL
  clear hlx hlb hgood hend hall hm hL hneg ha0
  go_enter Tryz.func7, Tryz.ntmps7
  go_wp2_with fail
  refine hda.mono ?_
  rintro e w1 ⟨rfl, hb1⟩
  have hl1 := hlong w1 hb1
  clear hlong hda
  go_wp2_with fail
  refine hl1.mono ?_
  rintro e w2 ⟨rfl, rfl⟩
  have ho1 := how w2 hb1
  clear hl1 how
  go_wp2_with fail
  refine ho1.mono ?_
  rintro e w3 ⟨v3, rfl, ho3, hb3⟩
  clear ho1
  have hr3 := (rowsAt_of_own ho3).1
  obtain ⟨q3, c3, rfl⟩ := slice_form ho3
  clear ho3
  have hB3 : Below w.heap.size w w3 := hb1.trans (hb3.mono hb1.size)
  by_cases h40 : 40 < L
  · have hf3 := hmf w3 q3 c3 (h.below hB3) h40
    clear hmf hmk hso hsm hr3
    simp only [errV] at hf3
    go_wp2_with fail
    refine hf3.mono ?_
    rintro e w4 ⟨rfl, hb4⟩
    clear hf3
    go_wp2
    go_ret
    exact ⟨rfl, hB3.trans (hb4.mono hB3.size)⟩
  have hk3 := hmk w3 q3 c3 (h.below hB3) hr3 (by omega)
  clear hmk hmf hr3
  go_wp2_with fail
  refine hk3.mono ?_
  rintro e w4 hp
  clear hk3
  rcases hp with ⟨hme, rfl, hb4⟩ | ⟨fb, rfl, hb4⟩
  case inr =>
    have hB4 : Below w.heap.size w w4 := hB3.trans (hb4.mono hB3.size)
    clear hso hsm
    go_wp2
    go_ret
    exact ⟨rfl, hB4⟩
  have hB4 : Below w.heap.size w w4 := hB3.trans (hb4.mono hB3.size)
  obtain ⟨hfl, hfr, hfp⟩ := HF.out (by rw [HL.out]; exact hme) (by rw [HL.out]; omega)
  have hrd := fun W (l : List UInt8) (hl : l.length ≤ 1400) (hW : EnvD W a) => data_any (bytesOf l) W a hW (by rw [bytes_len]; unfold maxLen; omega)
  simp only [bytes_list] at hrd
  have hr4 := hrd w4 _ hfl (h.below hB4)
  rw [hfr] at hr4
  clear hfr
  have HR5 : Hid (∀ W n b, EnvD W a → (hn : n < (fileOf (sortR xs)).length) → (fileOf (sortR xs))[n] ≠ b → Calls Tryz.prog 40 #[.string (bytesOf ((fileOf (sortR xs)).set n b))] W fun e w' => ∃ ev p, e = .returned (.tuple #[.slice none 0 0, .iface ev p]) ∧ Below W.heap.size W w') := fun W n b hW hn hnb => by
    have h1 := hfp n b hn hnb
    refine (hrd W ((fileOf (sortR xs)).set n b) (by rw [List.length_set]; exact hfl) hW).mono ?_
    rintro e w' ⟨hb, hp⟩
    rcases hp with ⟨h2, _⟩ | ⟨_, _, _, rfl⟩ | ⟨_, _, _, _, fb, rfl, _⟩
    · exact absurd h2 h1
    · obtain ⟨k, hk⟩ : ∃ k, (dataO ((fileOf (sortR xs)).set n b)).2.1 = k + 1 := ⟨_, (Nat.succ_pred_eq_of_ne_zero h1).symm⟩
      rw [hk]
      exact ⟨_, _, rfl, hb⟩
    · exact ⟨_, _, rfl, hb⟩
  clear hrd hfp
  obtain ⟨S, hS⟩ : ∃ S, bytesOf (fileOf (sortR xs)) = S := ⟨_, rfl⟩
  have HSL : Hid (fileOf (sortR xs) = S.data.toList) := by show _ = _; rw [← hS, bytes_list]
  rw [hS] at hr4 ⊢
  have hSs : S.size ≤ 1400 := by rw [← size_list, ← HSL.out]; exact hfl
  clear hS hfl
  go_wp2_with fail
  refine hr4.mono ?_
  rintro e w5 ⟨hb5, hp⟩
  clear hr4
  obtain ⟨v5, rfl, hv5⟩ : ∃ v, e = .returned (.tuple #[v, .nilIface]) ∧ RowsAt w5 v (sortR xs) := by
    rcases hp with ⟨_, h1⟩ | ⟨h1, _⟩ | ⟨h1, _⟩
    · exact h1
    · exact absurd rfl h1
    · exact absurd rfl h1
  clear hp
  have hB5 : Below w.heap.size w w5 := hB4.trans (hb5.mono hB4.size)
  obtain ⟨p5, c5, hv5f⟩ := hv5.form
  rw [hsl, HL.out] at hv5f
  subst hv5f
  have hs5 := hso w5 (hx.below hB5)
  clear hso
  go_wp2_with fail
  refine hs5.mono ?_
  rintro e w6 ⟨v6, rfl, hv6, hb6⟩
  clear hs5
  have hB6 : Below w.heap.size w w6 := hB5.trans (hb6.mono hB5.size)
  obtain ⟨p6, c6, hv6f⟩ := hv6.form
  rw [hsl, HL.out] at hv6f
  subst hv6f
  have hm6 := hsm w6 _ _ (hv5.below hb6) hv6
  clear hsm hv5 hv6
  go_wp2_with fail
  refine hm6.mono ?_
  rintro e w7 ⟨rfl, hb7⟩
  clear hm6
  have hB7 : Below w.heap.size w w7 := hB6.trans (hb7.mono hB6.size)
  clear hb1 hb3 hb4 hb5 hb6 hb7 hB3 hB4 hB5 hB6
  by_cases hlen : n < S.size
  case neg =>
    have hge : (S.size : Int) ≤ (n : Int) := by omega
    go_wp2
    go_ret
    exact ⟨rfl, hB7⟩
  have hlt : (n : Int) < (S.size : Int) := by omega
  have hnge : ¬ (S.size : Int) ≤ (n : Int) := by omega
  by_cases hsame : S[n] = b
  · subst hsame
    go_wp2
    go_ret
    exact ⟨rfl, hB7⟩
  have hbn : ¬ ((S[n].toNat : Int) = (b.toNat : Int)) := fun e => hsame (UInt8.toNat_inj.1 (by omega))
  obtain ⟨C, W1, v0, hcv, hcell, hfz, hbk, hbw⟩ := set_byte S n hlen b w7
  have hB8 : Below w.heap.size w (W1.setCell ⟨w7.heap.size, n, none⟩ (.int .u8 b.toNat)) := hB7.trans (hbw.mono hB7.size)
  have hr5 := HR5.out _ n b (h.below hB8) (by rw [HSL.out, size_list]; exact hlen) (by
    have := HSL.out
    intro e
    apply hsame
    rw [← e]
    simp only [this]
    rfl)
  rw [HSL.out] at hr5
  generalize bytesOf (S.data.toList.set n b) = S' at hbk hr5
  clear hbw
  go_wp2_with fail
  refine hr5.mono ?_
  rintro e w9 ⟨ev, ep, rfl, hb9⟩
  clear hr5 hcv hbk
  go_wp2
  go_ret
  exact ⟨rfl, hB8.trans (hb9.mono hB8.size)⟩
end Go.Proofs.YtgffkkijfmoooaaGreatDoor
