/-
  The walk of FileBack: whatever is known, whatever rows: true; what was there is as it was.
-/
import Derived.Test.YtpkoefpdpoikkaaGreatDoorBackWalk
namespace Go.Proofs.YtpkoefpdpoikkaaGreatDoor
open Go.RowKit Go.Extern.Stop Go.Stop Go.Extern Go.Sort Go.Shelf Go.Lib

theorem of_sorted {p q : ByteArray} {n lo hi seq : Int} {xs : List Rw} {k : Int} (hf : fileE (p, q, n, lo, hi, seq) = 0) (hp : pathO p.data.toList = some (false, k)) (hok : ∀ x ∈ xs, rowE x = 0) (hne : xs ≠ []) (h40 : xs.length ≤ 40) :
    ofF p q (fileOf (sortR xs)) seq = ((p, q, (xs.length : Int), (endsZ (keysR xs)).1, (endsZ (keysR xs)).2, seq), 0) := by
  have hsl : (sortR xs).length = xs.length := (sortR_perm xs).length_eq
  have hrd := file_read (sortR xs) (sort_ok hok) (by omega) (sort_rise xs)
  have hk : keysF false (fileOf (sortR xs)) = (keysR (sortR xs), 0) := by
    show (keysR (dataO (fileOf (sortR xs))).1, (dataO (fileOf (sortR xs))).2.1) = _
    rw [hrd]
  rw [ofF_some hp, hk, if_pos rfl]
  dsimp only
  rw [keys_perm (sortR_perm xs), keysR_len, hsl]
  have hkn : keysR xs ≠ [] := fun e => hne (by
    have := congrArg List.length e
    rw [keysR_len] at this
    exact List.length_eq_zero_iff.1 this)
  obtain ⟨_, m2, m3⟩ := ends_mem hkn
  have hlh := (m3 _ m2).1
  obtain ⟨i1, i2⟩ := ends_in hok
  have hlen : 1 ≤ xs.length := List.length_pos_iff.2 hne
  obtain ⟨g, k', hp', hq, hb⟩ := file_good hf
  dsimp only at hp' hq
  have e := hp'.symm.trans hp
  simp only [Option.some.injEq, Prod.mk.injEq] at e
  obtain ⟨rfl, rfl⟩ := e
  simp only [bndB, Bool.and_eq_true] at hb
  unfold chkF
  have hE : fileE (p, q, (xs.length : Int), (endsZ (keysR xs)).1, (endsZ (keysR xs)).2, seq) = 0 := by
    unfold fileE
    dsimp only
    rw [hp]
    dsimp only
    rw [if_pos hq, if_pos]
    simp only [bndB, Bool.and_eq_true, decide_eq_true_eq]
    exact ⟨⟨⟨⟨⟨by omega, by omega⟩, i1⟩, i2⟩, hlh⟩, hb.2⟩
  rw [if_pos hE]

def Seen (xs : List Rw) (n : Nat) (l : Int) (x : Bool) : Prop := x = true ↔ ∃ j, ∃ h : j < xs.length, j < n ∧ xs[j].2.1 = l
def Sees (x : Bool) (z l : Int) (x' : Bool) : Prop := x' = true ↔ (x = true ∨ z = l)

theorem seen_zero (xs : List Rw) (l : Int) : Seen xs 0 l false := by simp [Seen]
theorem sees_true (z l : Int) : Sees true z l true := by simp [Sees]
theorem sees_eq (z l : Int) : Sees false z l (z == l) := by simp [Sees]

theorem seen_succ {xs : List Rw} {n : Nat} {l : Int} {x : Bool} (hn : n < xs.length) (h : Seen xs n l x) : ∀ x', Sees x xs[n].2.1 l x' → Seen xs (n + 1) l x' := fun x' hx => by
  unfold Seen Sees at *
  rw [hx, h]
  constructor
  · rintro (⟨j, hj, hjn, e⟩ | e)
    · exact ⟨j, hj, by omega, e⟩
    · exact ⟨n, hn, by omega, e⟩
  · rintro ⟨j, hj, hjn, e⟩
    rcases Nat.lt_or_ge j n with h' | h'
    · exact Or.inl ⟨j, hj, h', e⟩
    · obtain rfl : j = n := by omega
      exact Or.inr e

theorem key_mem {xs : List Rw} {n : Nat} (h : n < xs.length) : xs[n].2.1 ∈ keysR xs := by
  rw [← keysR_get xs n h (by rw [keysR_len]; exact h)]
  exact List.getElem_mem _

theorem seen_all {xs : List Rw} {z : Int} {L : Nat} (hL : xs.length = L) (h : z ∈ keysR xs) {x : Bool} (hs : Seen xs L z x) : x = true := by
  subst hL
  refine hs.2 ?_
  obtain ⟨j, hj, e⟩ := List.mem_iff_getElem.1 h
  have hj' : j < xs.length := by rw [keysR_len] at hj; exact hj
  exact ⟨j, hj', hj', by rw [← keysR_get xs j hj' hj]; exact e⟩

set_option maxRecDepth 100000 in
set_option maxHeartbeats 16000000 in
theorem fileBack_any (f : Fl) (vq : Option Addr) (c : Nat) (xs : List Rw) (w : World) (a : Nat → Addr) (h : EnvF w a) (h1 : f.1.size ≤ maxLen) (h2 : f.2.1.size ≤ maxLen) (hx : RowsAt w (.slice vq xs.length c) xs) (hlx : xs.length ≤ maxLen) :
    Calls Tryz.prog 3 #[flV f, .slice vq xs.length c] w fun e w' => e = .returned (.bool true) ∧ Below w.heap.size w w' := by
  have hal : Below w.heap.size w (w.alloc (.cells #[.string f.1, .string f.2.1, .int .i64 f.2.2.1, .int .i64 f.2.2.2.1, .int .i64 f.2.2.2.2.1, .int .i64 f.2.2.2.2.2] 23)) := (Below.refl _ _).alloc (Nat.le_refl _) _
  have hfl := FlAt.new w f
  have hkn := known_any _ a (h.below hal)
  have hlg := fun W => longFile_any f W h1 h2
  have hlong := fun W (hW : Below w.heap.size w W) => longRows_any (.slice vq xs.length c) xs 45 W (hx.below hW) hlx (by omega)
  unfold maxLen at h1 h2
  have HV : Hid (∀ W, Below w.heap.size w W → EnvF W a) := fun W hW => h.below hW
  have HXS : Hid (∀ W, Below w.heap.size w W → RowsAt W (.slice vq xs.length c) xs) := fun W hW => hx.below hW
  have hck := fun (g1 : f.1.size ≤ 100000) (g2 : f.2.1.size ≤ 100000) W (hW : EnvF W a) => fcheck_any f W a hW.lean g1 g2
  have htx := fun (g1 : f.1.size ≤ 100000) (g2 : f.2.1.size ≤ 100000) W (hW : EnvF W a) => ftext_any f W a hW.lean g1 g2
  have hlb : longFB f = false → f.1.size ≤ 30 ∧ f.2.1.size ≤ 30 := fun e => by
    unfold longFB at e
    simp only [Bool.or_eq_false_iff, decide_eq_false_iff_not] at e
    omega
  generalize longFB f = lb at hlg hlb
  obtain ⟨p, q, n, lo, hi, seq⟩ := f
  unfold flV at *
  dsimp only at *
  clear h hx
  have hln : longN 45 xs = 0 ∨ longN 45 xs = 1 := by unfold longN; split <;> simp
  obtain ⟨L, hL⟩ : ∃ L, xs.length = L := ⟨_, rfl⟩
  have HL : Hid (xs.length = L) := hL
  rw [hL] at hlong hlx ⊢
  unfold maxLen at hlx
  have HLN : Hid (longN 45 xs = 0 → L ≤ 45 ∧ ∀ x ∈ xs, x.1.size ≤ 30) := fun e => by
    have hb : longB 45 xs = false := by
      cases hb : longB 45 xs with
      | false => rfl
      | true => rw [longN_yes hb] at e; cases e
    exact ⟨by have := longB_len hb; rw [hL] at this; omega, longB_part hb⟩
  clear hL
  go_enter Tryz.func3, Tryz.ntmps3
  go_wp2_with fail
  generalize w.alloc (.cells #[.string p, .string q, .int .i64 n, .int .i64 lo, .int .i64 hi, .int .i64 seq] 23) = WA at hal hfl hkn ⊢
  refine hkn.mono ?_
  rintro e w1 ⟨rfl, hb1⟩
  clear hkn
  have hB1 : Below w.heap.size w w1 := hal.trans (hb1.mono hal.size)
  have hfl1 := hfl.below hb1
  clear hfl hb1 hal
  have hl1 := hlg w1
  obtain ⟨x0, x1, x2, x3, x4, x5, -⟩ := hfl1.cells
  dsimp only at x0 x1 x2 x3 x4 x5
  clear hlg
  go_wp2_with fail
  refine hl1.mono ?_
  rintro e w2 ⟨rfl, hb2⟩
  clear hl1 x0 x1 x2 x3 x4 x5
  have hB2 : Below w.heap.size w w2 := hB1.trans (hb2.mono hB1.size)
  have hfl2 := hfl1.below hb2
  clear hfl1 hb2
  have hl2 := hlong w2 hB2
  clear hlong
  cases lb with
  | true =>
    simp only [if_true]
    clear hck htx hlb hfl2 hl2
    go_wp2
    go_ret
    exact ⟨rfl, hB2⟩
  | false =>
    obtain ⟨g1, g2⟩ := hlb rfl
    simp only [Bool.false_eq_true, if_false]
    clear hlb
    go_wp2_with fail
    refine hl2.mono ?_
    rintro e w2' ⟨rfl, hw2⟩
    rw [hw2]
    clear hl2 hw2
    rcases hln with hln | hln
    case inr =>
      rw [hln]
      clear hck htx hfl2
      go_wp2
      go_ret
      exact ⟨rfl, hB2⟩
    rw [hln]
    obtain ⟨hL45, hP⟩ := HLN.out hln
    have HP : Hid (∀ x ∈ xs, x.1.size ≤ 30) := hP
    clear hln HLN hP
    have hck2 := hck (by omega) (by omega) w2 (HV.out w2 hB2)
    have htx2 := htx (by omega) (by omega)
    obtain ⟨x0, x1, x2, x3, x4, x5, -⟩ := hfl2.cells
    dsimp only at x0 x1 x2 x3 x4 x5
    clear hck htx
    have hgood := fun e => @file_good (p, q, n, lo, hi, seq) e
    have hrf := fun e => @readF_text (p, q, n, lo, hi, seq) e
    have hflen := fun e => @fl_len (p, q, n, lo, hi, seq) e
    have HOS := fun (k : Int) (e : fileE (p, q, n, lo, hi, seq) = 0) hp hok hne h40 => @of_sorted p q n lo hi seq xs k e hp hok hne h40
    have HOF : Hid (fileE (p, q, n, lo, hi, seq) = 0 → ∀ k, pathO p.data.toList = some (false, k) → (∀ x ∈ xs, rowE x = 0) → xs ≠ [] → xs.length ≤ 40 → ofF p q (fileOf (sortR xs)) seq = ((p, q, (xs.length : Int), (endsZ (keysR xs)).1, (endsZ (keysR xs)).2, seq), 0)) := fun e k => HOS k e
    clear HOS
    unfold fileB at htx2
    by_cases he : fileE (p, q, n, lo, hi, seq) = 0
    case neg =>
      obtain ⟨j, hj⟩ : ∃ j, fileE (p, q, n, lo, hi, seq) = j + 1 := ⟨fileE (p, q, n, lo, hi, seq) - 1, by omega⟩
      rw [hj] at hck2
      rw [if_neg he] at htx2
      simp only [errV] at hck2
      clear hgood hrf hflen HOF he hj
      go_wp2_with fail
      refine hck2.mono ?_
      rintro e w3 ⟨rfl, hb3⟩
      clear hck2 x0 x1 x2 x3 x4 x5
      have hB3 : Below w.heap.size w w3 := hB2.trans (hb3.mono hB2.size)
      obtain ⟨x0, x1, x2, x3, x4, x5, -⟩ := (hfl2.below hb3).cells
      dsimp only at x0 x1 x2 x3 x4 x5
      have ht3 := htx2 w3 (HV.out w3 hB3)
      clear htx2 hfl2 hb3
      go_wp2_with fail
      refine ht3.mono ?_
      rintro e w4 ⟨rfl, hb4⟩
      clear ht3
      have hem : (bytesOf []).toList.isEmpty = true := by rw [ByteArray.toList_eq]; rfl
      go_wp2
      go_ret
      exact ⟨rfl, hB3.trans (hb4.mono hB3.size)⟩
    rw [he] at hck2
    rw [if_pos he] at htx2
    simp only [errV] at hck2
    obtain ⟨g, k, hp, hq, hbd⟩ := hgood he
    dsimp only at hp
    have hln := hflen he
    have hrt := hrf he
    have hof := HOF.out he
    have HO2 : Hid (∀ k, pathO p.data.toList = some (false, k) → (∀ x ∈ xs, rowE x = 0) → xs ≠ [] → xs.length ≤ 40 → ofF p q (fileOf (sortR xs)) seq = ((p, q, (xs.length : Int), (endsZ (keysR xs)).1, (endsZ (keysR xs)).2, seq), 0)) := hof
    clear hgood hrf hflen HOF hof hq hbd
    go_wp2_with fail
    refine hck2.mono ?_
    rintro e w3 ⟨rfl, hb3⟩
    clear hck2 x0 x1 x2 x3 x4 x5
    have hB3 : Below w.heap.size w w3 := hB2.trans (hb3.mono hB2.size)
    have hfl3 := hfl2.below hb3
    obtain ⟨x0, x1, x2, x3, x4, x5, -⟩ := hfl3.cells
    dsimp only at x0 x1 x2 x3 x4 x5
    have ht3 := htx2 w3 (HV.out w3 hB3)
    have hrd := fun W (hW : EnvF W a) => fread_any (bytesOf (fileL (p, q, n, lo, hi, seq))) W a hW.rd (by rw [bytes_len]; omega)
    rw [bytes_data, hrt] at hrd
    unfold flV at hrd
    dsimp only at hrd
    simp only [errV] at hrd
    generalize bytesOf (fileL (p, q, n, lo, hi, seq)) = TX at ht3 hrd
    clear htx2 hfl2 hb3 hln hrt
    go_wp2_with fail
    refine ht3.mono ?_
    rintro e w4 ⟨rfl, hb4⟩
    clear ht3 x0 x1 x2 x3 x4 x5
    have hB4 : Below w.heap.size w w4 := hB3.trans (hb4.mono hB3.size)
    have hfl4 := hfl3.below hb4
    have hr4 := hrd w4 (HV.out w4 hB4)
    clear hrd hb4 hfl3
    go_wp2_with fail
    refine hr4.mono ?_
    rintro e w5 ⟨rfl, hb5⟩
    clear hr4
    have hB5 : Below w.heap.size w w5 := hB4.trans (hb5.mono hB4.size)
    have hfl5 := hfl4.below hb5
    have hal5 : Below w5.heap.size w5 (w5.alloc (.cells #[.string p, .string q, .int .i64 n, .int .i64 lo, .int .i64 hi, .int .i64 seq] 23)) := (Below.refl _ _).alloc (Nat.le_refl _) _
    have hB6 : Below w.heap.size w (w5.alloc (.cells #[.string p, .string q, .int .i64 n, .int .i64 lo, .int .i64 hi, .int .i64 seq] 23)) := hB5.trans (hal5.mono hB5.size)
    have hfx := FlAt.new w5 (p, q, n, lo, hi, seq)
    dsimp only at hfx
    have hfl6 := hfl5.below hal5
    obtain ⟨x0, x1, x2, x3, x4, x5, -⟩ := hfl6.cells
    obtain ⟨y0, y1, y2, y3, y4, y5, -⟩ := hfx.cells
    dsimp only at x0 x1 x2 x3 x4 x5 y0 y1 y2 y3 y4 y5
    have hnq := fun W => neqF (p, q, n, lo, hi, seq) W
    have hgd : ∀ (bo : BinOp) (a b : Operand) (w : World), Sem.run Tryz.prog (eqGuard bo 23 a b (.agg #[.string p, .string q, .int .i64 n, .int .i64 lo, .int .i64 hi, .int .i64 seq]) (.agg #[.string p, .string q, .int .i64 n, .int .i64 lo, .int .i64 hi, .int .i64 seq])) w = .ok () w := fun bo a b w => guardF bo a b (p, q, n, lo, hi, seq) (p, q, n, lo, hi, seq) w
    unfold flV at hnq
    dsimp only at hnq
    have hnm := fnumber_any p (w5.alloc (.cells #[.string p, .string q, .int .i64 n, .int .i64 lo, .int .i64 hi, .int .i64 seq] 23)) a (HV.out _ hB6).data.env (by omega)
    rw [pathR_some hp] at hnm
    dsimp only at hnm
    simp only [errV] at hnm
    clear hfl4 hfl5 hfx hal5 hb5
    go_wp2_with fail
    generalize w5.alloc (.cells #[.string p, .string q, .int .i64 n, .int .i64 lo, .int .i64 hi, .int .i64 seq] 23) = w6 at hB6 hfl6 hnm ⊢
    refine hnm.mono ?_
    rintro e w7 ⟨rfl, hb7⟩
    clear hnm hnq hgd x0 x1 x2 x3 x4 x5 y0 y1 y2 y3 y4 y5
    have hB7 : Below w.heap.size w w7 := hB6.trans (hb7.mono hB6.size)
    have hfl7 := hfl6.below hb7
    clear hfl6 hb7
    obtain ⟨m, hm, hgood, hend⟩ := firstBad xs
    have hmk := fun W (q3 : Option Addr) (c3 : Nat) (hW : EnvD W a) (hr : RowsAt W (.slice q3 xs.length c3) xs) (hl : xs.length ≤ 40) => (make_any q3 c3 xs W a hW hr hl HP.out m hm hgood hend).mono fun e w' hp => show (m = xs.length ∧ e = .returned (.tuple #[.string (bytesOf (fileOf (sortR xs))), .nilIface]) ∧ Below W.heap.size W w') ∨ (∃ fb, e = .returned (.tuple #[.string ⟨#[]⟩, .iface 108 (.pointer (some ⟨fb, 0, none⟩))]) ∧ Below W.heap.size W w') by
      rcases hp with h1 | ⟨_, fb, h1, _, _, h2⟩
      · exact .inl h1
      · exact .inr ⟨fb, h1, h2⟩
    have HALL : Hid (m = xs.length → ∀ x ∈ xs, rowE x = 0) := fun e x hxm => by
      obtain ⟨i, hi, e'⟩ := List.mem_iff_getElem.1 hxm
      rw [← e']
      exact hgood i hi (by omega)
    have hmf := fun W (q3 : Option Addr) (c3 : Nat) (hW : EnvD W a) (hm : 40 < xs.length) => make_full q3 xs.length c3 W a hW hm (by rw [HL.out]; unfold maxLen; omega)
    have ho7 := ownRows_any (.slice vq xs.length c) xs w7 (HXS.out w7 hB7) (by rw [HL.out]; omega)
    rw [HL.out] at hmk hmf ho7
    obtain ⟨x0, x1, -, -, -, x5, -⟩ := hfl7.cells
    dsimp only at x0 x1 x5
    clear hgood hend hm
    go_wp2_with fail
    refine ho7.mono ?_
    rintro e w8 ⟨v8, rfl, ho8, hb8⟩
    clear ho7
    have hr8 := (rowsAt_of_own ho8).1
    obtain ⟨q3, c3, rfl⟩ := slice_form ho8
    have hB8 : Below w.heap.size w w8 := hB7.trans (hb8.mono hB7.size)
    have hfl8 := hfl7.below hb8
    clear ho8 hfl7 hb8 x0 x1 x5
    by_cases h40 : 40 < L
    · have hf8 := hmf w8 q3 c3 (HV.out w8 hB8).data h40
      clear hmf hmk hr8
      simp only [errV] at hf8
      go_wp2_with fail
      refine hf8.mono ?_
      rintro e w9 ⟨rfl, hb9⟩
      clear hf8
      go_wp2
      go_ret
      exact ⟨rfl, hB8.trans (hb9.mono hB8.size)⟩
    have hk8 := hmk w8 q3 c3 (HV.out w8 hB8).data hr8 (by omega)
    clear hmk hmf hr8
    go_wp2_with fail
    refine hk8.mono ?_
    rintro e w9 hp9
    clear hk8
    rcases hp9 with ⟨hme, rfl, hb9⟩ | ⟨fb, rfl, hb9⟩
    case inr =>
      have hB9 : Below w.heap.size w w9 := hB8.trans (hb9.mono hB8.size)
      go_wp2
      go_ret
      exact ⟨rfl, hB9⟩
    have hB9 : Below w.heap.size w w9 := hB8.trans (hb9.mono hB8.size)
    have hfl9 := hfl8.below hb9
    have hok := HALL.out (by rw [HL.out]; exact hme)
    clear hfl8 hb9 hme HALL
    have hkd : (bytesOf (kindL g)).data.toList = kindL g := bytes_data _
    cases g
    case true =>
      have d1 := neB_of (s := bytesOf (kindL true)) (l := [100, 97, 116, 97]) (by rw [hkd]; decide)
      generalize bytesOf (kindL true) = kB at d1 ⊢
      clear hkd
      go_wp2
      go_ret
      exact ⟨rfl, hB9⟩
    have d1 := eqB_of (s := bytesOf (kindL false)) (l := [100, 97, 116, 97]) (by rw [hkd]; rfl)
    generalize bytesOf (kindL false) = kB at d1 ⊢
    clear hkd
    by_cases hL0 : L = 0
    · subst hL0
      go_wp2
      go_ret
      exact ⟨rfl, hB9⟩
    have hL1 : ¬ (L : Int) = 0 := by omega
    have hne : xs ≠ [] := fun e => hL0 (by rw [← HL.out, e]; rfl)
    have hofe := HO2.out k hp hok hne (by rw [HL.out]; omega)
    have hfln := file_len (sortR xs) (sort_ok hok) (by rw [(sortR_perm xs).length_eq, HL.out]; omega)
    have hkf : (keysF false (fileOf (sortR xs))).2 = 0 := by
      show (dataO (fileOf (sortR xs))).2.1 = 0
      rw [file_read (sortR xs) (sort_ok hok) (by rw [(sortR_perm xs).length_eq, HL.out]; omega) (sort_rise xs)]
    have hof := fof_any p q (bytesOf (fileOf (sortR xs))) seq w9 a (HV.out w9 hB9) (fun g' n' hp' hn' => by
      rw [bytes_data] at hn'
      obtain rfl : false = g' := congrArg Prod.fst (Option.some.inj (hp.symm.trans hp'))
      exact absurd hkf hn') (by omega) (by omega) (by rw [bytes_len]; unfold maxLen; omega)
    rw [bytes_data, hofe, HL.out] at hof
    unfold flV at hof
    dsimp only at hof
    simp only [errV] at hof
    have hkne : keysR xs ≠ [] := fun e => hne (by
      have := congrArg List.length e
      rw [keysR_len] at this
      exact List.length_eq_zero_iff.1 this)
    have HEM : Hid ((endsZ (keysR xs)).1 ∈ keysR xs ∧ (endsZ (keysR xs)).2 ∈ keysR xs ∧ ∀ k ∈ keysR xs, (endsZ (keysR xs)).1 ≤ k ∧ k ≤ (endsZ (keysR xs)).2) := ends_mem hkne
    generalize (endsZ (keysR xs)).1 = lo2 at hof HEM
    generalize (endsZ (keysR xs)).2 = hi2 at hof HEM
    generalize bytesOf (fileOf (sortR xs)) = S at hof ⊢
    obtain ⟨x0, x1, -, -, -, x5, -⟩ := hfl9.cells
    dsimp only at x0 x1 x5
    clear hofe hfln hkf hkne hok HO2
    go_wp2_with fail
    refine hof.mono ?_
    rintro e w10 ⟨rfl, hb10⟩
    clear hof x0 x1 x5
    have hB10 : Below w.heap.size w w10 := hB9.trans (hb10.mono hB9.size)
    have hal10 : Below w10.heap.size w10 (w10.alloc (.cells #[.string p, .string q, .int .i64 L, .int .i64 lo2, .int .i64 hi2, .int .i64 seq] 23)) := (Below.refl _ _).alloc (Nat.le_refl _) _
    have hB11 : Below w.heap.size w (w10.alloc (.cells #[.string p, .string q, .int .i64 L, .int .i64 lo2, .int .i64 hi2, .int .i64 seq] 23)) := hB10.trans (hal10.mono hB10.size)
    have hfy := FlAt.new w10 (p, q, (L : Int), lo2, hi2, seq)
    dsimp only at hfy
    have hfl11 := (hfl9.below hb10).below hal10
    have HYC : Hid (FlAt (w10.alloc (.cells #[.string p, .string q, .int .i64 L, .int .i64 lo2, .int .i64 hi2, .int .i64 seq] 23)) w10.heap.size (p, q, (L : Int), lo2, hi2, seq)) := hfy
    obtain ⟨x0, x1, x2, x3, x4, x5, -⟩ := hfl11.cells
    obtain ⟨y0, y1, y2, y3, y4, y5, -⟩ := hfy.cells
    dsimp only at x0 x1 x2 x3 x4 x5 y0 y1 y2 y3 y4 y5
    clear hfl9 hb10 hal10 hfy hfl11
    go_wp2
    generalize w10.alloc (.cells #[.string p, .string q, .int .i64 L, .int .i64 lo2, .int .i64 hi2, .int .i64 seq] 23) = W0 at hB11 HYC ⊢
    generalize w10.heap.size = BY at HYC ⊢
    clear x0 x1 x2 x3 x4 x5 y0 y1 y2 y3 y4 y5
    have hxs := HXS.out W0 hB11
    obtain ⟨b, o, hve, hc⟩ : ∃ b o, vq = some ⟨b, o, none⟩ ∧ RowCells W0 b o xs := by
      rcases hxs with ⟨_, _, _, e⟩ | ⟨b, o, cap, e, hc⟩
      · exact absurd e hne
      · simp only [Value.slice.injEq] at e
        exact ⟨b, o, e.1, hc⟩
    subst hve
    have HRC : Hid (RowCells W0 b o xs) := hc
    clear hc hxs hne HXS HV HP hB1 hB2 hB3 hB4 hB5 hB6 hB7 hB8 hB9 hB10 g1 g2 h1 h2 he hp d1 hL45 h40 hL0 hL1
    go_loopw [13, 14, 15] (fun bl bm k wr => ∃ (n : Nat) (x y : Bool), n ≤ L ∧ bl = .bool x ∧ bm = .bool y ∧ k = .int .i64 n ∧ Seen xs n lo2 x ∧ Seen xs n hi2 y ∧ Below W0.heap.size W0 wr) (fun _ _ k _ => L - (intOf k).toNat)
    case atStart => exact ⟨0, false, false, by omega, rfl, rfl, rfl, seen_zero _ _, seen_zero _ _, Below.refl _ _⟩
    case round =>
      obtain ⟨n', x, y, hn, rfl, rfl, rfl, hsx, hsy, hb⟩ := hrel
      have HSX : Hid (Seen xs n' lo2 x) := hsx
      have HSY : Hid (Seen xs n' hi2 y) := hsy
      clear hsx hsy
      by_cases hlt : n' < L
      · have hltx : n' < xs.length := by rw [HL.out]; exact hlt
        have HLT : Hid (n' < xs.length) := hltx
        have hi1 : (n' : Int) < (L : Int) := by omega
        have hi0 : (0 : Int) ≤ (n' : Int) := by omega
        obtain ⟨kl, kh⟩ := HEM.out.2.2 _ (key_mem hltx)
        have key : ∀ W, Below W0.heap.size W0 W → (W.cell? ⟨b, o + n' * 3 + 1, none⟩ = some (.int .i64 xs[n'].2.1) ∧ W.cell? ⟨BY, 3, none⟩ = some (.int .i64 lo2) ∧ W.cell? ⟨BY, 4, none⟩ = some (.int .i64 hi2)) := fun W hW => by
          have hcy := (HYC.out.below hW).cells
          exact ⟨below_keep hW (HRC.out n' hltx).2.1, hcy.2.2.2.1, hcy.2.2.2.2.1⟩
        have sx := seen_succ hltx HSX.out
        have sy := seen_succ hltx HSY.out
        generalize xs[n'].2.1 = z at key kl kh sx sy
        have KEY : Hid (∀ W, Below W0.heap.size W0 W → (W.cell? ⟨b, o + n' * 3 + 1, none⟩ = some (.int .i64 z) ∧ W.cell? ⟨BY, 3, none⟩ = some (.int .i64 lo2) ∧ W.cell? ⟨BY, 4, none⟩ = some (.int .i64 hi2))) := key
        have SX : Hid (∀ x', Sees x z lo2 x' → Seen xs (n' + 1) lo2 x') := sx
        have SY : Hid (∀ y', Sees y z hi2 y' → Seen xs (n' + 1) hi2 y') := sy
        have kl' : ¬ z < lo2 := by omega
        have kh' : ¬ hi2 < z := by omega
        clear key sx sy hltx kl kh HSX HSY HLT
        obtain ⟨c1, y3, y4⟩ := KEY.out wr hb
        go_wp2
        go_quiet (fail)
        have hb2 : Below W0.heap.size W0 (wr.drewN nq) := below_drewN hb nq
        generalize wr.drewN nq = wr2 at hb2 ⊢
        clear c1 y3 y4
        obtain ⟨c1, y3, y4⟩ := KEY.out wr2 hb2
        cases x with
        | true =>
          go_wp2
          go_quiet (fail)
          have hb3 : Below W0.heap.size W0 (wr2.drewN nq) := below_drewN hb2 nq
          generalize wr2.drewN nq = wr3 at hb3 ⊢
          clear c1 y3 y4
          obtain ⟨c1, y3, y4⟩ := KEY.out wr3 hb3
          cases y with
          | true =>
            go_wp2
            go_quiet (fail)
            have hb4 : Below W0.heap.size W0 (wr3.drewN nq) := below_drewN hb3 nq
            generalize wr3.drewN nq = wr4 at hb4 ⊢
            go_wp2
            go_roundw
            case rel => exact ⟨n' + 1, _, _, by omega, rfl, rfl, by go_num, SX.out _ (by first | exact sees_true _ _ | exact sees_eq _ _ | (unfold Sees; simp)), SY.out _ (by first | exact sees_true _ _ | exact sees_eq _ _ | (unfold Sees; simp)), hb4⟩
            case measure => simp [intOf]; omega
          | false =>
            go_wp2
            go_quiet (fail)
            have hb4 : Below W0.heap.size W0 (wr3.drewN nq) := below_drewN hb3 nq
            generalize wr3.drewN nq = wr4 at hb4 ⊢
            go_wp2
            go_roundw
            case rel => exact ⟨n' + 1, _, _, by omega, rfl, rfl, by go_num, SX.out _ (by first | exact sees_true _ _ | exact sees_eq _ _ | (unfold Sees; simp)), SY.out _ (by first | exact sees_true _ _ | exact sees_eq _ _ | (unfold Sees; simp)), hb4⟩
            case measure => simp [intOf]; omega
        | false =>
          go_wp2
          go_quiet (fail)
          have hb3 : Below W0.heap.size W0 (wr2.drewN nq) := below_drewN hb2 nq
          generalize wr2.drewN nq = wr3 at hb3 ⊢
          clear c1 y3 y4
          obtain ⟨c1, y3, y4⟩ := KEY.out wr3 hb3
          cases y with
          | true =>
            go_wp2
            go_quiet (fail)
            have hb4 : Below W0.heap.size W0 (wr3.drewN nq) := below_drewN hb3 nq
            generalize wr3.drewN nq = wr4 at hb4 ⊢
            go_wp2
            go_roundw
            case rel => exact ⟨n' + 1, _, _, by omega, rfl, rfl, by go_num, SX.out _ (by first | exact sees_true _ _ | exact sees_eq _ _ | (unfold Sees; simp)), SY.out _ (by first | exact sees_true _ _ | exact sees_eq _ _ | (unfold Sees; simp)), hb4⟩
            case measure => simp [intOf]; omega
          | false =>
            go_wp2
            go_quiet (fail)
            have hb4 : Below W0.heap.size W0 (wr3.drewN nq) := below_drewN hb3 nq
            generalize wr3.drewN nq = wr4 at hb4 ⊢
            go_wp2
            go_roundw
            case rel => exact ⟨n' + 1, _, _, by omega, rfl, rfl, by go_num, SX.out _ (by first | exact sees_true _ _ | exact sees_eq _ _ | (unfold Sees; simp)), SY.out _ (by first | exact sees_true _ _ | exact sees_eq _ _ | (unfold Sees; simp)), hb4⟩
            case measure => simp [intOf]; omega
      · obtain rfl : n' = L := by omega
        have hxt : x = true := seen_all HL.out HEM.out.1 HSX.out
        have hyt : y = true := seen_all HL.out HEM.out.2.1 HSY.out
        subst hxt hyt
        have hBE : Below w.heap.size w wr := hB11.trans (hb.mono hB11.size)
        go_wp2
        go_ret
        exact ⟨rfl, hBE⟩
end Go.Proofs.YtpkoefpdpoikkaaGreatDoor
