/-
  The contracts of the document's own KeysOf, Ends and wholeText.
-/
import Derived.Test.YtpkoefpdpoikkaaGreatDoorFileLaw
import Derived.Laws.Bits128
namespace Go.Proofs.YtpkoefpdpoikkaaGreatDoor
open Go.RowKit Go.Extern.Stop Go.Stop Go.Extern Go.Sort Go.Shelf Go.Lib

theorem dig_one (d : Nat) (h : d < 10) : decDigits d = [UInt8.ofNat (48 + d)] := by rw [decDigits, dif_pos h]
theorem kn_2 : itoa 2 = [50] := by
  have h : decDigits 2 = [50] := dig_one 2 (by decide)
  simp [itoa, h]
theorem kn_m2 : itoa (-2) = [45, 50] := by
  have h : decDigits 2 = [50] := dig_one 2 (by decide)
  simp [itoa, h]
theorem kn_3 : itoa 3 = [51] := by
  have h : decDigits 3 = [51] := dig_one 3 (by decide)
  simp [itoa, h]
theorem kn_5 : itoa 5 = [53] := by
  have h : decDigits 5 = [53] := dig_one 5 (by decide)
  simp [itoa, h]
theorem kn_7 : itoa 7 = [55] := by
  have h : decDigits 7 = [55] := dig_one 7 (by decide)
  simp [itoa, h]

theorem rise_two : riseZ [7, -2] = [-2, 7] := rise_is (by decide) (fun x => by simp only [List.mem_cons, List.not_mem_nil, or_false]; exact Or.comm)

def knF : Fl := (⟨#[103, 111, 110, 101, 47, 51]⟩, ⟨#[45]⟩, 2, -2, 7, 5)

theorem kn_path : pathO knF.1.data.toList = some (true, 3) := by
  have h := path_of true [51]
  have hn : numO [51] = some 3 := by rw [← kn_3]; exact numO_itoa 3 (by decide)
  have hp : pathN [51] = some 3 := by unfold pathN; rw [hn]; rfl
  rw [hp] at h
  exact h

theorem kn_ok : fileE knF = 0 := by
  unfold fileE
  rw [kn_path]
  decide

theorem kn_text : fileL knF = [103, 111, 110, 101, 47, 51, 32, 45, 32, 50, 32, 45, 50, 32, 55, 32, 53] := by
  simp [fileL, knF, kn_2, kn_m2, kn_7, kn_5]

theorem kn_of : ofF knF.1 knF.2.1 (goneF [-2, 7]) 5 = (knF, 0) := by
  have hok : ∀ x ∈ [-2, (7 : Int)], goneK.ok x := by
    intro x hx
    show inNum x = true
    revert x
    decide
  have hfr : goneO (goneF [-2, 7]) = ([-2, 7], 0, none) := fileG_read gone_fine [-2, 7] hok (by decide) (by rw [← rise_two]; exact rise_good _)
  have hk : keysF true (goneF [-2, 7]) = ([-2, 7], 0) := by
    show ((goneO (goneF [-2, 7])).1, (goneO (goneF [-2, 7])).2.1) = _
    rw [hfr]
  rw [ofF_some kn_path, hk, if_pos rfl]
  have e : ((knF.1, knF.2.1, (([-2, 7] : List Int).length : Int), (endsZ [-2, 7]).1, (endsZ [-2, 7]).2, 5) : Fl) = knF := rfl
  show chkF _ = _
  rw [e]
  unfold chkF
  rw [if_pos kn_ok]

set_option maxRecDepth 100000 in
set_option maxHeartbeats 2000000 in
theorem known_any (w : World) (a : Nat → Addr) (h : EnvF w a) :
    Calls Tryz.prog 9 #[] w fun e w' => e = .returned (.bool true) ∧ Below w.heap.size w w' := by
  have hal : Below w.heap.size w (w.alloc (.cells #[.int .i64 7, .int .i64 (-2)] 3)) := (Below.refl _ _).alloc (Nat.le_refl _) _
  have hr : KeysAt (w.alloc (.cells #[.int .i64 7, .int .i64 (-2)] 3)) (.slice (some ⟨w.heap.size, 0, none⟩) 2 2) [7, -2] := by
    refine .inr ⟨w.heap.size, 0, 2, rfl, fun j hj => ?_⟩
    match j, hj with
    | 0, _ => simp
    | 1, _ => simp
  have hmk : Calls Tryz.prog 57 #[.slice (some ⟨w.heap.size, 0, none⟩) 2 2] (w.alloc (.cells #[.int .i64 7, .int .i64 (-2)] 3)) fun e w' => e = .returned (.tuple #[.string (bytesOf (goneF [-2, 7])), .nilIface]) ∧ Below (w.alloc (.cells #[.int .i64 7, .int .i64 (-2)] 3)).heap.size (w.alloc (.cells #[.int .i64 7, .int .i64 (-2)] 3)) w' := by
    refine (gmake_any _ [7, -2] _ a (h.below hal).data.weak hr (by decide) (by rw [rise_two]; decide) 2 (by decide) (fun i hi _ => by
      match i, hi with
      | 0, _ => exact (by decide : inNum 7 = true)
      | 1, _ => exact (by decide : inNum (-2) = true)) (fun h => absurd h (by decide))).mono ?_
    rintro e w' (⟨_, h1, h2⟩ | ⟨h1, _⟩)
    · rw [rise_two] at h1
      exact ⟨h1, h2⟩
    · exact absurd h1 (by decide)
  have hok : ∀ x ∈ [-2, (7 : Int)], goneK.ok x := by
    intro x hx
    show inNum x = true
    revert x
    decide
  have hfl := fileG_len gone_fine [-2, 7] hok (by decide)
  have hof := fun W (hW : EnvF W a) => fof_any knF.1 knF.2.1 (bytesOf (goneF [-2, 7])) 5 W a hW (fun g n hp hne => by
    rw [bytes_data] at hne
    rw [kn_path] at hp
    have e := kn_of
    rw [ofF_some kn_path] at e
    obtain rfl : true = g := congrArg Prod.fst (Option.some.inj hp)
    rw [if_neg hne] at e
    exact absurd (congrArg Prod.snd e) hne) (by decide) (by decide) (by rw [bytes_len]; unfold maxLen; show (fileG goneK [-2, 7]).length ≤ _; omega)
  rw [bytes_data, kn_of] at hof
  have htx := fun W (hW : EnvF W a) => ftext_any knF W a hW.lean (by decide) (by decide)
  have hfb : fileB knF = ⟨#[103, 111, 110, 101, 47, 51, 32, 45, 32, 50, 32, 45, 50, 32, 55, 32, 53]⟩ := by
    unfold fileB
    rw [if_pos kn_ok, kn_text]
    rfl
  rw [hfb] at htx
  simp only [flV, knF, errV] at hof htx
  generalize bytesOf (goneF [-2, 7]) = S at hmk hof
  clear hfl hok hr hfb
  go_enter Tryz.func9, Tryz.ntmps9
  go_wp2_with fail
  refine hmk.mono ?_
  rintro e w1 ⟨rfl, hb1⟩
  have hB1 : Below w.heap.size w w1 := hal.trans (hb1.mono hal.size)
  have hr1 := hof w1 (h.below hB1)
  clear hmk hof hb1 hal
  go_wp2_with fail
  refine hr1.mono ?_
  rintro e w2 ⟨rfl, hb2⟩
  clear hr1
  have hB2 : Below w.heap.size w w2 := hB1.trans (hb2.mono hB1.size)
  have hB3 : Below w.heap.size w (w2.alloc (.cells #[.string ⟨#[103, 111, 110, 101, 47, 51]⟩, .string ⟨#[45]⟩, .int .i64 2, .int .i64 (-2), .int .i64 7, .int .i64 5] 23)) := hB2.alloc hB2.size _
  have ht3 := htx _ (h.below hB3)
  clear htx hb2
  go_wp2_with fail
  refine ht3.mono ?_
  rintro e w4 ⟨rfl, hb4⟩
  clear ht3
  go_wp2
  go_ret
  exact ⟨rfl, hB3.trans (hb4.mono hB3.size)⟩
end Go.Proofs.YtpkoefpdpoikkaaGreatDoor
namespace Go.Proofs.YtpkoefpdpoikkaaGreatDoor
open Go.RowKit Go.Extern.Stop Go.Stop Go.Extern Go.Sort Go.Shelf Go.Lib

theorem i64_xor_nat (a b : Nat) (ha : a < 4294967296) (hb : b < 4294967296) : bits .xor .i64 (a : Int) (b : Int) = ((a ^^^ b : Nat) : Int) := by
  have hx : a ^^^ b < 2 ^ 32 := Nat.xor_lt_two_pow (by omega) (by omega)
  have h1 : (BitVec.ofInt 64 (a : Int)).toNat = a := by
    rw [BitVec.ofInt_natCast, BitVec.toNat_ofNat]; exact Nat.mod_eq_of_lt (by omega)
  have h2 : (BitVec.ofInt 64 (b : Int)).toNat = b := by
    rw [BitVec.ofInt_natCast, BitVec.toNat_ofNat]; exact Nat.mod_eq_of_lt (by omega)
  show IntKind.i64.wrap ((BitVec.ofInt 64 (a : Int) ^^^ BitVec.ofInt 64 (b : Int)).toNat : Int) = _
  rw [BitVec.toNat_xor, h1, h2]
  exact IntWalk.i64_in _ (by omega)

set_option maxRecDepth 100000 in
set_option maxHeartbeats 2000000 in
theorem sumOf_any (s : ByteArray) (w : World) (hs : s.size ≤ maxLen) : Calls Tryz.prog 110 #[.string s] w fun e w' => e = .returned (.int .i64 (sumL s.data.toList : Nat)) ∧ w' = w := by
  unfold maxLen at hs
  go_enter Tryz.func110, Tryz.ntmps110
  go_wp2
  go_loop [3, 4] (fun c k => ∃ n : Nat, n ≤ s.size ∧ k = .int .i64 n ∧ c = .int .i64 (crcL (s.data.toList.take n) : Nat)) (fun _ k => s.size - (intOf k).toNat)
  case atStart => exact ⟨0, Nat.zero_le _, rfl, rfl⟩
  case round =>
    obtain ⟨n, hn, rfl, rfl⟩ := hrel
    have hlt4 := crcL_lt (s.data.toList.take n)
    by_cases hlt : n < s.size
    · have hi : (n : Int) < (s.size : Int) := by omega
      have hi0 : (0 : Int) ≤ (n : Int) := by omega
      have htk : s.data.toList.take (n + 1) = s.data.toList.take n ++ [s[n]] := by
        rw [List.take_succ_eq_append_getElem (by simpa using hlt)]; rfl
      have HN : Hid (crcL (s.data.toList.take (n + 1)) = crcI 8 (crcL (s.data.toList.take n) ^^^ s[n].toNat)) := by
        show _ = _
        rw [htk, crcL_snoc]
        rfl
      clear htk
      generalize crcL (s.data.toList.take n) = C at hlt4 HN ⊢
      have hb256 := s[n].toNat_lt
      have hx0 : bits .xor .i64 (C : Int) (s[n].toNat : Int) = ((C ^^^ s[n].toNat : Nat) : Int) := i64_xor_nat C s[n].toNat hlt4 (by omega)
      have hD : C ^^^ s[n].toNat < 4294967296 := Nat.xor_lt_two_pow (n := 32) hlt4 (by omega)
      have hw0 : IntKind.i64.wrap (s[n].toNat : Int) = (s[n].toNat : Int) := IntWalk.i64_in _ (by omega)
      generalize hDe : C ^^^ s[n].toNat = D at hx0 hD HN
      clear hDe
      go_wp2
      go_loop [3, 5] (fun c j => ∃ m : Nat, m ≤ 8 ∧ j = .int .i64 m ∧ c = .int .i64 (crcI m D : Nat)) (fun _ j => 8 - (intOf j).toNat)
      case atStart => exact ⟨0, by omega, rfl, rfl⟩
      case round =>
        obtain ⟨m, hm, rfl, rfl⟩ := hrel
        by_cases hmlt : m < 8
        · have hmi : (m : Int) < 8 := by omega
          have hcl := crcI_lt m hD
          have HS := crcI_succ m D
          generalize crcI m D = c at hcl HS ⊢
          have HS' : Hid (crcI (m + 1) D = crcF c) := HS
          clear HS
          have htd : (c : Int).tdiv 2 = ((c / 2 : Nat) : Int) := by rw [Int.tdiv_eq_ediv_of_nonneg (by omega)]; omega
          have htm : (c : Int).tmod 2 = ((c % 2 : Nat) : Int) := by rw [Int.tmod_eq_emod_of_nonneg (by omega)]; omega
          by_cases hpar : c % 2 = 1
          · rw [hpar] at htm
            have hx : bits .xor .i64 ((c / 2 : Nat) : Int) 3988292384 = ((c / 2 ^^^ 3988292384 : Nat) : Int) := by
              have := i64_xor_nat (c / 2) 3988292384 (by omega) (by decide)
              simpa using this
            have hw2 : wrap64 ((c / 2 : Nat) : Int) = ((c / 2 : Nat) : Int) := IntWalk.wrap64_in _ (by omega)
            generalize hc2 : c / 2 = c2 at htd hx hw2
            have HC2 : Hid (c / 2 = c2) := hc2
            clear hc2
            go_wp2
            go_round
            case rel => exact ⟨m + 1, by omega, by go_num, by rw [HS'.out]; unfold crcF; rw [if_pos hpar, HC2.out]⟩
            case measure => simp [intOf]; omega
          · rw [show c % 2 = 0 by omega] at htm
            have hw2 : wrap64 ((c / 2 : Nat) : Int) = ((c / 2 : Nat) : Int) := IntWalk.wrap64_in _ (by omega)
            generalize hc2 : c / 2 = c2 at htd hw2
            have HC2 : Hid (c / 2 = c2) := hc2
            clear hc2
            go_wp2
            go_round
            case rel => exact ⟨m + 1, by omega, by go_num, by rw [HS'.out]; unfold crcF; rw [if_neg hpar, HC2.out] <;> (first | rw [hw2] | simp [hw2])⟩
            case measure => simp [intOf]; omega
        · obtain rfl : m = 8 := by omega
          rw [← HN.out]
          go_wp2
          go_round
          case rel => exact ⟨n + 1, by omega, by go_num, rfl⟩
          case measure => simp [intOf]; omega
    · obtain rfl : n = s.size := by omega
      have hta : s.data.toList.take s.size = s.data.toList := List.take_of_length_le (by rw [size_list]; exact Nat.le_refl _)
      rw [hta] at hlt4 ⊢
      have hx : bits .xor .i64 (crcL s.data.toList : Int) 4294967295 = ((sumL s.data.toList : Nat) : Int) := i64_xor_nat _ _ hlt4 (by decide)
      clear hta
      go_wp2
      go_ret
      exact ⟨rfl, rfl⟩
end Go.Proofs.YtpkoefpdpoikkaaGreatDoor
namespace Go.Proofs.YtpkoefpdpoikkaaGreatDoor
open Go.RowKit Go.Extern.Stop Go.Stop Go.Extern Go.Sort Go.Shelf Go.Lib

def encZ (n : Int) : Value := .int .i64 n

theorem keysAt_of_own {w : World} {base : Nat} {v : Value} {zs : List Int} (h : w.ownsRow base 3 1 v zs.length (zs.map encZ)) : KeysAt w v zs := by
  obtain ⟨hl, h⟩ := h
  rcases h with ⟨hv, hn⟩ | ⟨g, cap, cur, rfl, _, hg, hc, _, _, ht⟩
  · have : zs = [] := List.length_eq_zero_iff.1 hn
    subst this
    exact .inl ⟨none, 0, hv, rfl⟩
  · refine .inr ⟨g, 0, cap, rfl, fun j hj => ?_⟩
    have hu : (zs.map encZ)[j]? = some (.int .i64 zs[j]) := by simp [hj, encZ]
    rw [← ht, List.getElem?_take, if_pos (by omega)] at hu
    simp only [World.cell?, hg, Nat.zero_add]
    simpa using hu

set_option maxRecDepth 100000 in
set_option maxHeartbeats 2000000 in
theorem keysOf_any (v : Value) (xs : List Rw) (w : World) (hx : RowsAt w v xs) (hl : xs.length ≤ 20000) :
    Calls Tryz.prog 85 #[v] w fun e w' => ∃ v', e = .returned v' ∧ KeysAt w' v' (keysR xs) ∧ Below w.heap.size w w' := by
  obtain ⟨i0, hi0, hz0, hs0, hby0⟩ := Tryz.numInfo
  obtain ⟨q, cap, rfl⟩ := hx.form
  generalize hL : xs.length = L at hx hl ⊢
  have HX : Hid (xs.length = L) := hL
  clear hL
  go_enter Tryz.func85, Tryz.ntmps85
  go_wp2
  go_loopw [3, 4] (fun out k wr => ∃ n : Nat, n ≤ L ∧ k = .int .i64 n ∧ Below w.heap.size w wr ∧ wr.ownsRow w.heap.size 3 1 out n ((keysR (xs.take n)).map encZ)) (fun _ k _ => L - (intOf k).toNat)
  case atStart => exact ⟨0, by omega, rfl, Below.refl _ _, by simp [keysG]; exact World.ownsRow_nil _ _ _ _⟩
  case round =>
    obtain ⟨n, hn, rfl, hb, hown⟩ := hrel
    have OW : Hid (wr.ownsRow w.heap.size 3 1 u3 n ((keysR (xs.take n)).map encZ)) := hown
    clear hown
    by_cases hlt : n < L
    · have hltx : n < xs.length := by rw [HX.out]; exact hlt
      have hrows := hx.below hb
      rcases hrows with ⟨_, _, e, e'⟩ | ⟨b, o, cap2, e, hcells⟩
      · exfalso; have := HX.out; rw [e'] at this; simp at this; omega
      injection e with e1 e2 e3
      subst e1
      clear e2 e3
      obtain ⟨c1, c2, c3⟩ := hcells n hltx
      clear hcells
      have hi : (n : Int) < (L : Int) := by omega
      have HK : Hid ((keysR (xs.take (n + 1))).map encZ = (keysR (xs.take n)).map encZ ++ [.int .i64 xs[n].2.1]) := by
        show _ = _
        rw [← List.take_append_getElem hltx, keys_snoc, List.map_append]
        rfl
      generalize xs[n].2.1 = xk at c2 HK
      clear c1 c3 hltx
      have hal : Below wr.heap.size wr (wr.alloc (.cells #[.int .i64 xk] 3)) := (Below.refl _ _).alloc (Nat.le_refl _) _
      have hbA : Below w.heap.size w (wr.alloc (.cells #[.int .i64 xk] 3)) := hb.alloc hb.size _
      go_wp2_with (at_builtin; refine wpList_append_own _ rfl _ _ 93 rfl w.heap.size 3 i0 (.int .i64 0) 1 8 Tryz.underlying93 hi0 hz0 hs0 hby0 rfl (by decide) u3 n ((keysR (xs.take n)).map encZ) rfl ?qc0 ⟨wr.heap.size, 0, none⟩ 1 1 [.int .i64 xk] rfl ?qc1 ?qc2 ?qc3 ?qc4 ?qc5 ?qc6 ?_)
      case qc0 => exact own_below OW.out hal
      case qc1 => rfl
      case qc2 => exact cell_one _ _ _
      case qc3 => intro u hu; simp at hu; subst hu; rfl
      case qc4 => unfold maxLen; omega
      case qc5 => omega
      case qc6 => first | exact hbA.size | (have := hb.size; omega)
      intro v' w4 hown4 hgrow hnil
      have hbC : Below w.heap.size w w4 := hbA.grown hgrow hbA.size (fun k hk => by
        rcases OW.out.2 with ⟨e, _⟩ | ⟨g', cap', cur, e, hg', _⟩
        · rw [e] at hk; simp [Value.ownBlock] at hk
        · rw [e] at hk; simp [Value.ownBlock] at hk; omega)
      have OW4 : Hid (w4.ownsRow w.heap.size 3 1 v' (n + 1) ((keysR (xs.take n)).map encZ ++ [.int .i64 xk])) := hown4
      clear hown4 hnil hgrow
      go_wp2
      go_roundw
      case rel => exact ⟨n + 1, by omega, by go_num, hbC, by rw [HK.out]; exact OW4.out⟩
      case measure => simp [intOf]; omega
    · obtain rfl : n = L := by omega
      have hta : xs.take n = xs := List.take_of_length_le (by rw [HX.out]; exact Nat.le_refl _)
      rw [hta] at OW
      have HKA : Hid (KeysAt wr u3 (keysR xs)) := keysAt_of_own (base := w.heap.size) (by
        have e : (keysR xs).length = n := by simp [keysG, HX.out]
        rw [e]; exact OW.out)
      clear hta
      go_wp2
      go_ret
      exact ⟨_, rfl, HKA.out, hb⟩

set_option maxRecDepth 100000 in
set_option maxHeartbeats 2000000 in
theorem ends_any (v : Value) (zs : List Int) (w : World) (hz : KeysAt w v zs) (hl : zs.length ≤ maxLen) :
    Calls Tryz.prog 87 #[v] w fun e w' => e = .returned (.tuple #[.int .i64 (endsZ zs).1, .int .i64 (endsZ zs).2]) ∧ w' = w := by
  unfold maxLen at hl
  rcases hz with ⟨p, c, rfl, rfl⟩ | ⟨b, o, cap, rfl, hc⟩
  · have e0 : endsZ [] = (0, 0) := rfl
    rw [e0]
    clear hl
    go_enter Tryz.func87, Tryz.ntmps87
    go_wp2
    go_ret2
    exact ⟨rfl, rfl⟩
  by_cases h0 : zs.length = 0
  · have hz0 : zs = [] := List.length_eq_zero_iff.1 h0
    subst hz0
    have e0 : endsZ [] = (0, 0) := rfl
    rw [e0]
    clear hl hc
    have e1 : ([] : List Int).length = 0 := rfl
    rw [e1]
    clear h0 e1 e0
    go_enter Tryz.func87, Tryz.ntmps87
    go_wp2
    go_ret2
    exact ⟨rfl, rfl⟩
  have c0 := hc 0 (by omega)
  simp only [Nat.add_zero] at c0
  have HZ1 : Hid (endsZ (zs.take 1) = (zs[0], zs[0])) := by
    show _ = _
    have e : zs.take 1 = [zs[0]] := by
      cases zs with
      | nil => simp at h0
      | cons z r => simp
    rw [e]; rfl
  generalize zs[0] = z0 at c0 HZ1
  have HC : Hid (∀ j (h : j < zs.length), w.cell? ⟨b, o + j, none⟩ = some (.int .i64 zs[j])) := hc
  clear hc
  generalize hL : zs.length = L at hl h0 ⊢
  have HX : Hid (zs.length = L) := hL
  clear hL
  have hL0 : ¬ (L : Int) = 0 := by omega
  have hLp : (0 : Int) < (L : Int) := by omega
  go_enter Tryz.func87, Tryz.ntmps87
  go_wp2
  go_loop [4, 5, 6] (fun lo hi k => ∃ n : Nat, 1 ≤ n ∧ n ≤ L ∧ k = .int .i64 n ∧ lo = .int .i64 (endsZ (zs.take n)).1 ∧ hi = .int .i64 (endsZ (zs.take n)).2) (fun _ _ k => L - (intOf k).toNat)
  case atStart => exact ⟨1, Nat.le_refl _, by omega, rfl, by rw [HZ1.out], by rw [HZ1.out]⟩
  case round =>
    obtain ⟨n, hn1, hn, rfl, rfl, rfl⟩ := hrel
    by_cases hlt : n < L
    · have hltx : n < zs.length := by rw [HX.out]; exact hlt
      have cn := HC.out n hltx
      have hi : (n : Int) < (L : Int) := by omega
      have hi0 : (0 : Int) ≤ (n : Int) := by omega
      have HK : Hid (endsZ (zs.take (n + 1)) = (if zs[n] < (endsZ (zs.take n)).1 then zs[n] else (endsZ (zs.take n)).1, if (endsZ (zs.take n)).2 < zs[n] then zs[n] else (endsZ (zs.take n)).2)) := by
        show _ = _
        rw [← List.take_append_getElem hltx, ends_snoc _ _ (fun e => by
          have := congrArg List.length e
          rw [List.length_take, List.length_nil] at this
          have := HX.out
          omega)]
      generalize zs[n] = z at cn HK
      generalize endsZ (zs.take n) = E at HK ⊢
      obtain ⟨lo, hi2⟩ := E
      dsimp only at HK ⊢
      clear hltx
      by_cases hl1 : z < lo
      · by_cases hl2 : hi2 < z
        · rw [if_pos hl1, if_pos hl2] at HK
          go_wp2
          go_round
          case rel => exact ⟨n + 1, by omega, by omega, by go_num, by rw [HK.out], by rw [HK.out]⟩
          case measure => simp [intOf]; omega
        · rw [if_pos hl1, if_neg hl2] at HK
          go_wp2
          go_round
          case rel => exact ⟨n + 1, by omega, by omega, by go_num, by rw [HK.out], by rw [HK.out]⟩
          case measure => simp [intOf]; omega
      · by_cases hl2 : hi2 < z
        · rw [if_neg hl1, if_pos hl2] at HK
          go_wp2
          go_round
          case rel => exact ⟨n + 1, by omega, by omega, by go_num, by rw [HK.out], by rw [HK.out]⟩
          case measure => simp [intOf]; omega
        · rw [if_neg hl1, if_neg hl2] at HK
          go_wp2
          go_round
          case rel => exact ⟨n + 1, by omega, by omega, by go_num, by rw [HK.out], by rw [HK.out]⟩
          case measure => simp [intOf]; omega
    · obtain rfl : n = L := by omega
      have hta : zs.take n = zs := List.take_of_length_le (by rw [HX.out]; exact Nat.le_refl _)
      rw [hta]
      clear hta
      go_wp2
      go_ret2
      exact ⟨rfl, rfl⟩

end Go.Proofs.YtpkoefpdpoikkaaGreatDoor
