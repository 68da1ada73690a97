/-
  The walk of DataBack: whatever rows, place and byte: true; what was there is as it was.
-/
import Derived.Test.YtpkoefpdpoikkaaGreatDoorFileLaw
import Derived.Laws.IdiomStrings
namespace Go.Proofs.YtpkoefpdpoikkaaGreatDoor
open Go.RowKit Go.Extern.Stop Go.Stop Go.Extern Go.Sort Go.Shelf Go.Lib

theorem dig_one (d : Nat) (h : d < 10) : decDigits d = [UInt8.ofNat (48 + d)] := by rw [decDigits, dif_pos h]
theorem kn_2 : itoa 2 = [50] := by
  have h : decDigits 2 = [50] := dig_one 2 (by decide)
  simp [itoa, h]
theorem kn_m2 : itoa (-2) = [45, 50] := by
  have h : decDigits 2 = [50] := dig_one 2 (by decide)
  simp [itoa, h]
theorem kn_3 : itoa 3 = [51] := by
  have h : decDigits 3 = [51] := dig_one 3 (by decide)
  simp [itoa, h]
theorem kn_5 : itoa 5 = [53] := by
  have h : decDigits 5 = [53] := dig_one 5 (by decide)
  simp [itoa, h]
theorem kn_7 : itoa 7 = [55] := by
  have h : decDigits 7 = [55] := dig_one 7 (by decide)
  simp [itoa, h]

theorem rise_two : riseZ [7, -2] = [-2, 7] := rise_is (by decide) (fun x => by simp only [List.mem_cons, List.not_mem_nil, or_false]; exact Or.comm)

def knF : Fl := (⟨#[103, 111, 110, 101, 47, 51]⟩, ⟨#[45]⟩, 2, -2, 7, 5)

theorem kn_path : pathO knF.1.data.toList = some (true, 3) := by
  have h := path_of true [51]
  have hn : numO [51] = some 3 := by rw [← kn_3]; exact numO_itoa 3 (by decide)
  have hp : pathN [51] = some 3 := by unfold pathN; rw [hn]; rfl
  rw [hp] at h
  exact h

theorem kn_ok : fileE knF = 0 := by
  unfold fileE
  rw [kn_path]
  decide

theorem kn_text : fileL knF = [103, 111, 110, 101, 47, 51, 32, 45, 32, 50, 32, 45, 50, 32, 55, 32, 53] := by
  simp [fileL, knF, kn_2, kn_m2, kn_7, kn_5]

theorem kn_of : ofF knF.1 knF.2.1 (goneF [-2, 7]) 5 = (knF, 0) := by
  have hok : ∀ x ∈ [-2, (7 : Int)], goneK.ok x := by
    intro x hx
    show inNum x = true
    revert x
    decide
  have hfr : goneO (goneF [-2, 7]) = ([-2, 7], 0, none) := fileG_read gone_fine [-2, 7] hok (by decide) (by rw [← rise_two]; exact rise_good _)
  have hk : keysF true (goneF [-2, 7]) = ([-2, 7], 0) := by
    show ((goneO (goneF [-2, 7])).1, (goneO (goneF [-2, 7])).2.1) = _
    rw [hfr]
  rw [ofF_some kn_path, hk, if_pos rfl]
  have e : ((knF.1, knF.2.1, (([-2, 7] : List Int).length : Int), (endsZ [-2, 7]).1, (endsZ [-2, 7]).2, 5) : Fl) = knF := rfl
  show chkF _ = _
  rw [e]
  unfold chkF
  rw [if_pos kn_ok]

set_option maxRecDepth 100000 in
set_option maxHeartbeats 2000000 in
theorem known_any (w : World) (a : Nat → Addr) (h : EnvF w a) :
    Calls Tryz.prog 9 #[] w fun e w' => e = .returned (.bool true) ∧ Below w.heap.size w w' := by
  have hal : Below w.heap.size w (w.alloc (.cells #[.int .i64 7, .int .i64 (-2)] 3)) := (Below.refl _ _).alloc (Nat.le_refl _) _
  have hr : KeysAt (w.alloc (.cells #[.int .i64 7, .int .i64 (-2)] 3)) (.slice (some ⟨w.heap.size, 0, none⟩) 2 2) [7, -2] := by
    refine .inr ⟨w.heap.size, 0, 2, rfl, fun j hj => ?_⟩
    match j, hj with
    | 0, _ => simp
    | 1, _ => simp
  have hmk : Calls Tryz.prog 57 #[.slice (some ⟨w.heap.size, 0, none⟩) 2 2] (w.alloc (.cells #[.int .i64 7, .int .i64 (-2)] 3)) fun e w' => e = .returned (.tuple #[.string (bytesOf (goneF [-2, 7])), .nilIface]) ∧ Below (w.alloc (.cells #[.int .i64 7, .int .i64 (-2)] 3)).heap.size (w.alloc (.cells #[.int .i64 7, .int .i64 (-2)] 3)) w' := by
    refine (gmake_any _ [7, -2] _ a (h.below hal).data.weak hr (by decide) (by rw [rise_two]; decide) 2 (by decide) (fun i hi _ => by
      match i, hi with
      | 0, _ => exact (by decide : inNum 7 = true)
      | 1, _ => exact (by decide : inNum (-2) = true)) (fun h => absurd h (by decide))).mono ?_
    rintro e w' (⟨_, h1, h2⟩ | ⟨h1, _⟩)
    · rw [rise_two] at h1
      exact ⟨h1, h2⟩
    · exact absurd h1 (by decide)
  have hok : ∀ x ∈ [-2, (7 : Int)], goneK.ok x := by
    intro x hx
    show inNum x = true
    revert x
    decide
  have hfl := fileG_len gone_fine [-2, 7] hok (by decide)
  have hof := fun W (hW : EnvF W a) => fof_any knF.1 knF.2.1 (bytesOf (goneF [-2, 7])) 5 W a hW (fun g n hp hne => by
    rw [bytes_data] at hne
    rw [kn_path] at hp
    have e := kn_of
    rw [ofF_some kn_path] at e
    obtain rfl : true = g := congrArg Prod.fst (Option.some.inj hp)
    rw [if_neg hne] at e
    exact absurd (congrArg Prod.snd e) hne) (by decide) (by decide) (by rw [bytes_len]; unfold maxLen; show (fileG goneK [-2, 7]).length ≤ _; omega)
  rw [bytes_data, kn_of] at hof
  have htx := fun W (hW : EnvF W a) => ftext_any knF W a hW.lean (by decide) (by decide)
  have hfb : fileB knF = ⟨#[103, 111, 110, 101, 47, 51, 32, 45, 32, 50, 32, 45, 50, 32, 55, 32, 53]⟩ := by
    unfold fileB
    rw [if_pos kn_ok, kn_text]
    rfl
  rw [hfb] at htx
  simp only [flV, knF, errV] at hof htx
  generalize bytesOf (goneF [-2, 7]) = S at hmk hof
  clear hfl hok hr hfb
  go_enter Tryz.func9, Tryz.ntmps9
  go_wp2_with fail
  refine hmk.mono ?_
  rintro e w1 ⟨rfl, hb1⟩
  have hB1 : Below w.heap.size w w1 := hal.trans (hb1.mono hal.size)
  have hr1 := hof w1 (h.below hB1)
  clear hmk hof hb1 hal
  go_wp2_with fail
  refine hr1.mono ?_
  rintro e w2 ⟨rfl, hb2⟩
  clear hr1
  have hB2 : Below w.heap.size w w2 := hB1.trans (hb2.mono hB1.size)
  have hB3 : Below w.heap.size w (w2.alloc (.cells #[.string ⟨#[103, 111, 110, 101, 47, 51]⟩, .string ⟨#[45]⟩, .int .i64 2, .int .i64 (-2), .int .i64 7, .int .i64 5] 23)) := hB2.alloc hB2.size _
  have ht3 := htx _ (h.below hB3)
  clear htx hb2
  go_wp2_with fail
  refine ht3.mono ?_
  rintro e w4 ⟨rfl, hb4⟩
  clear ht3
  go_wp2
  go_ret
  exact ⟨rfl, hB3.trans (hb4.mono hB3.size)⟩
end Go.Proofs.YtpkoefpdpoikkaaGreatDoor
namespace Go.Proofs.YtpkoefpdpoikkaaGreatDoor
open Go.RowKit Go.Extern.Stop Go.Stop Go.Extern Go.Sort Go.Shelf Go.Lib

theorem readF_other {l : List UInt8} (h : (words l).length ≠ 6) : readF l = (zeroF, 1) := by
  unfold readF
  split
  · rename_i e; rw [e] at h; simp at h
  · rfl

theorem readF_six {l p q a b c d : List UInt8} (h : words l = [p, q, a, b, c, d]) : readF l = (match numO a, numO b, numO c, numO d with
    | some n, some lo, some hi, some seq => chkF (bytesOf p, bytesOf q, n, lo, hi, seq)
    | _, _, _, _ => (zeroF, 1)) := by
  unfold readF
  rw [h]
  rfl

theorem six_of {α : Type} {ts : List α} (h : ts.length = 6) : ∃ a b c d e f, ts = [a, b, c, d, e, f] := by
  match ts, h with
  | [a, b, c, d, e, f], _ => exact ⟨a, b, c, d, e, f, rfl⟩

theorem cell_store {W : World} {b R o : Nat} {v v0 v1 v2 v3 v4 v5 : Value} (h : b ≠ R) (hc : W.cell? ⟨b, o, none⟩ = some v) : ((((((W.setCell ⟨R, 0, none⟩ v0).setCell ⟨R, 1, none⟩ v1).setCell ⟨R, 2, none⟩ v2).setCell ⟨R, 3, none⟩ v3).setCell ⟨R, 4, none⟩ v4).setCell ⟨R, 5, none⟩ v5).cell? ⟨b, o, none⟩ = some v := by
  rw [World.cell?_setCell_other _ _ _ _ (by simp), World.cell?_setCell_other _ _ _ _ (by simp), World.cell?_setCell_other _ _ _ _ (by simp), World.cell?_setCell_other _ _ _ _ (by simp), World.cell?_setCell_other _ _ _ _ (by simp), World.cell?_setCell_other _ _ _ _ (by simp)]
  exact hc

theorem below_store {W w : World} {R : Nat} {v0 v1 v2 v3 v4 v5 : Value} (h : Below R w W) : Below R w ((((((W.setCell ⟨R, 0, none⟩ v0).setCell ⟨R, 1, none⟩ v1).setCell ⟨R, 2, none⟩ v2).setCell ⟨R, 3, none⟩ v3).setCell ⟨R, 4, none⟩ v4).setCell ⟨R, 5, none⟩ v5) :=
  (((((h.setCell (Nat.le_refl _) _).setCell (Nat.le_refl _) _).setCell (Nat.le_refl _) _).setCell (Nat.le_refl _) _).setCell (Nat.le_refl _) _).setCell (Nat.le_refl _) _

set_option maxRecDepth 100000 in
set_option maxHeartbeats 8000000 in
theorem fread_any (s : ByteArray) (w : World) (a : Nat → Addr) (h : EnvR w a) (hs : s.size ≤ 100000) :
    Calls Tryz.prog 14 #[.string s] w fun e w' => e = .returned (.tuple #[flV (readF s.data.toList).1, errV a (readF s.data.toList).2]) ∧ Below w.heap.size w w' := by
  have hal : Below w.heap.size w (w.alloc (.cells #[.string ⟨#[]⟩, .string ⟨#[]⟩, .int .i64 0, .int .i64 0, .int .i64 0, .int .i64 0] 23)) := (Below.refl _ _).alloc (Nat.le_refl _) _
  have hfz : FlAt (w.alloc (.cells #[.string ⟨#[]⟩, .string ⟨#[]⟩, .int .i64 0, .int .i64 0, .int .i64 0, .int .i64 0] 23)) w.heap.size zeroF := FlAt.new w zeroF
  have hsp := splitTx_any s _ a (h.below hal).weak (by omega)
  generalize hR : readF s.data.toList = R
  have HR : Hid (readF s.data.toList = R) := hR
  clear hR
  have hwl := words_len s.data.toList
  have ZERO : Hid (∀ W, FlAt W w.heap.size zeroF → (W.cell? ⟨w.heap.size, 0, none⟩ = some (.string ⟨#[]⟩) ∧ W.cell? ⟨w.heap.size, 1, none⟩ = some (.string ⟨#[]⟩) ∧ W.cell? ⟨w.heap.size, 2, none⟩ = some (.int .i64 0) ∧ W.cell? ⟨w.heap.size, 3, none⟩ = some (.int .i64 0) ∧ W.cell? ⟨w.heap.size, 4, none⟩ = some (.int .i64 0) ∧ W.cell? ⟨w.heap.size, 5, none⟩ = some (.int .i64 0) ∧ ∀ o, W.frozen? ⟨w.heap.size, o, none⟩ = false)) := fun W hW => hW.cells
  go_enter Tryz.func14, Tryz.ntmps14
  go_wp2_with fail
  generalize w.alloc (.cells #[.string ⟨#[]⟩, .string ⟨#[]⟩, .int .i64 0, .int .i64 0, .int .i64 0, .int .i64 0] 23) = WA at hal hfz hsp ⊢
  refine hsp.mono ?_
  rintro e w1 ⟨v1, ts, rfl, hts, htm, hb1⟩
  clear hsp
  have hB1 : Below w.heap.size w w1 := hal.trans (hb1.mono hal.size)
  have HF1 : Hid (FlAt w1 w.heap.size zeroF) := hfz.below hb1
  clear hfz hb1 hal
  obtain ⟨b, rfl, hcell⟩ := hts
  by_cases h6 : ts.length = 6
  · obtain ⟨P, Q, A, B, C, D, rfl⟩ := six_of h6
    have hw : words s.data.toList = [P.data.toList, Q.data.toList, A.data.toList, B.data.toList, C.data.toList, D.data.toList] := by rw [← htm]; rfl
    have hrs := HR.out
    rw [readF_six hw, bytesOf_data, bytesOf_data] at hrs
    have hwz : ∀ t ∈ [P, Q, A, B, C, D], t.size ≤ 100000 := fun t ht => by
      have := hwl t.data.toList (by rw [← htm]; exact List.mem_map.2 ⟨t, ht, rfl⟩)
      rw [size_list, size_list] at this
      omega
    have hP := hwz P (by simp)
    have hQ := hwz Q (by simp)
    have c0 := hcell 0 (by simp)
    have c1 := hcell 1 (by simp)
    have c2 := hcell 2 (by simp)
    simp only [List.getElem_cons_succ, List.getElem_cons_zero] at c0 c1 c2
    have hnm := numbers_any b 2 4 [A, B, C, D] w1 a (h.below hB1).weak (fun j hj => by
      have hj' : j + 2 < [P, Q, A, B, C, D].length := by simp at hj ⊢; omega
      have := hcell (j + 2) hj'
      rw [Nat.add_comm 2 j]
      simpa using this) (fun t ht => by
        have := hwz t (List.mem_cons_of_mem _ (List.mem_cons_of_mem _ ht))
        unfold maxLen; omega) (by simp)
    have HRS : Hid ((match numO A.data.toList, numO B.data.toList, numO C.data.toList, numO D.data.toList with
      | some n, some lo, some hi, some seq => chkF (P, Q, n, lo, hi, seq)
      | _, _, _, _ => (zeroF, 1)) = R) := hrs
    clear hw htm hwl hcell h6 hwz hrs
    simp only [List.length_cons, List.length_nil, Nat.zero_add, Nat.reduceAdd] at hnm ⊢
    go_wp2_with fail
    refine hnm.mono ?_
    rintro e w3 ⟨hres, hb3⟩
    clear hnm
    have hB3 : Below w.heap.size w w3 := hB1.trans (hb3.mono hB1.size)
    have HF3 : Hid (FlAt w3 w.heap.size zeroF) := HF1.out.below hb3
    rcases hres with ⟨zs, g, hzl, hzn, rfl, hzc⟩ | ⟨j, t, ht, hno, rfl⟩
    · obtain ⟨n, lo, hi, seq, hz4⟩ : ∃ z0 z1 z2 z3, zs = [z0, z1, z2, z3] := by
        match zs, hzl with
        | [z0, z1, z2, z3], _ => exact ⟨z0, z1, z2, z3, rfl⟩
      subst hz4
      have HX : Hid (chkF (P, Q, n, lo, hi, seq) = R) := by
        show _ = _
        rw [← HRS.out]
        have q0 := hzn 0 A rfl
        have q1 := hzn 1 B rfl
        have q2 := hzn 2 C rfl
        have q3 := hzn 3 D rfl
        rw [q0, q1, q2, q3]
        rfl
      have d0 := below_keep hb3 c0
      have d1 := below_keep hb3 c1
      have k0 := hzc 0 (by simp)
      have k1 := hzc 1 (by simp)
      have k2 := hzc 2 (by simp)
      have k3 := hzc 3 (by simp)
      simp only [List.getElem_cons_succ, List.getElem_cons_zero] at k0 k1 k2 k3
      have hck := fun W (hW : EnvK W a) => checked_any (P, Q, n, lo, hi, seq) W a hW hP hQ
      rw [HX.out] at hck
      unfold flV at hck
      obtain ⟨⟨rp, rq, rn, rlo, rhi, rseq⟩, rE⟩ := R
      dsimp only at hck
      have hbR : b ≠ w.heap.size := fun e => by
        have e2 := (ZERO.out w3 HF3.out).2.2.1
        rw [← e] at e2
        have := (below_keep hb3 c2).symm.trans e2
        simp at this
      have hgR : g ≠ w.heap.size := fun e => by
        have e2 := (ZERO.out w3 HF3.out).1
        rw [← e] at e2
        have := k0.symm.trans e2
        simp at this
      have hbR' : ¬ w.heap.size = b := fun e => hbR e.symm
      have hgR' : ¬ w.heap.size = g := fun e => hgR e.symm
      have hbd : Below w3.heap.size w3 w3.drew := (Below.refl _ _).drew
      have hz3 := HF3.out.below hbd
      have HZ3 : Hid (FlAt w3.drew w.heap.size zeroF) := hz3
      have hck3 := hck w3.drew (h.below (hB3.trans (hbd.mono hB3.size))).file
      clear hzn hzc hzl c0 c1 c2 hb3 HRS hck hz3 hbd
      simp only [List.length_cons, List.length_nil, Nat.zero_add, Nat.reduceAdd]
      go_wp2_with fail
      go_region_held3 (fun w' => w'.cell? ⟨b, 0, none⟩ = some (.string P) ∧ w'.cell? ⟨b, 1, none⟩ = some (.string Q) ∧ w'.cell? ⟨g, 0, none⟩ = some (.int .i64 n) ∧ w'.cell? ⟨g, 1, none⟩ = some (.int .i64 lo) ∧ w'.cell? ⟨g, 2, none⟩ = some (.int .i64 hi) ∧ w'.cell? ⟨g, 3, none⟩ = some (.int .i64 seq) ∧ Below w.heap.size w w')
        (first
          | (go_split_ands; with_reducible exact ⟨below_keep hbX (by assumption), below_keep hbX (by assumption), below_keep hbX (by assumption), below_keep hbX (by assumption), below_keep hbX (by assumption), below_keep hbX (by assumption), Below.trans (by assumption) (hbX.mono (Below.size (by assumption)))⟩)
          | (go_split_ands; with_reducible exact ⟨cell_store hbR (by assumption), cell_store hbR (by assumption), cell_store hgR (by assumption), cell_store hgR (by assumption), cell_store hgR (by assumption), cell_store hgR (by assumption), below_store (by assumption)⟩)
          | (go_split_ands; exact ⟨by go_keep, by go_keep, by go_keep, by go_keep, by go_keep, by go_keep, Below.drew (by assumption)⟩))
        (first
          | (go_at_call 65; refine hck3.mono ?_; rintro e w5 ⟨rfl, hbX⟩; obtain ⟨y0, y1, y2, y3, y4, y5, yf⟩ := ZERO.out w5 (HZ3.out.below hbX)))
      go_split_ands
      have hz5 := HZ3.out.below hbX
      have hB5 : Below w.heap.size w w5 := hB3.drew.trans (hbX.mono hB3.drew.size)
      obtain ⟨z0, z1, z2, z3, z4, z5, _⟩ := (hz5.set (rp, rq, rn, rlo, rhi, rseq)).cells
      have hB6 := flSet_below (f := (rp, rq, rn, rlo, rhi, rseq)) hB5 (Nat.le_refl w.heap.size)
      unfold flSet at z0 z1 z2 z3 z4 z5 hB6
      dsimp only at z0 z1 z2 z3 z4 z5 hB6
      clear hz5
      go_wp2
      exact bodyPost_ret (v := .tuple #[.agg #[.string rp, .string rq, .int .i64 rn, .int .i64 rlo, .int .i64 rhi, .int .i64 rseq], errV a rE]) (by simp [results, Tryz.results14, go_sem, z0, z1, z2, z3, z4, z5]) rfl ⟨rfl, hB6⟩
    · have hbadR : R = (zeroF, 1) := by
        rw [← HRS.out]
        match j, ht with
        | 0, ht => rw [Option.some.inj ht, hno]
        | 1, ht => rw [Option.some.inj ht, hno]; split <;> simp_all
        | 2, ht => rw [Option.some.inj ht, hno]; split <;> simp_all
        | 3, ht => rw [Option.some.inj ht, hno]; split <;> simp_all
      subst hbadR
      clear HRS ht hno c0 c1
      have et := (h.below hB3).text
      obtain ⟨y0, y1, y2, y3, y4, y5, yf⟩ := ZERO.out w3 HF3.out
      have s0 := setCell_self y0
      have s1 := setCell_self y1
      have s2 := setCell_self y2
      have s3 := setCell_self y3
      have s4 := setCell_self y4
      have s5 := setCell_self y5
      go_wp2
      go_region
      all_goals go_wp2
      all_goals exact bodyPost_ret (v := .tuple #[.agg #[.string ⟨#[]⟩, .string ⟨#[]⟩, .int .i64 0, .int .i64 0, .int .i64 0, .int .i64 0], .iface 289 (.pointer (some (a 0)))]) (by simp [results, Tryz.results14, go_sem, y0, y1, y2, y3, y4, y5]) rfl ⟨rfl, hB3.drew⟩
  · have hRR := HR.out.symm.trans (readF_other (l := s.data.toList) (fun e => h6 (by rw [← e, ← htm, List.length_map])))
    subst hRR
    generalize ts.length = L at h6 ⊢
    have hne : ¬ (L : Int) = 6 := by omega
    clear htm hwl hcell h6 HR
    have et := (h.below hB1).text
    obtain ⟨y0, y1, y2, y3, y4, y5, yf⟩ := ZERO.out w1 HF1.out
    have s0 := setCell_self y0
    have s1 := setCell_self y1
    have s2 := setCell_self y2
    have s3 := setCell_self y3
    have s4 := setCell_self y4
    have s5 := setCell_self y5
    go_wp2
    go_region
    all_goals go_wp2
    all_goals exact bodyPost_ret (v := .tuple #[.agg #[.string ⟨#[]⟩, .string ⟨#[]⟩, .int .i64 0, .int .i64 0, .int .i64 0, .int .i64 0], .iface 289 (.pointer (some (a 0)))]) (by simp [results, Tryz.results14, go_sem, y0, y1, y2, y3, y4, y5]) rfl ⟨rfl, hB1.drew⟩
end Go.Proofs.YtpkoefpdpoikkaaGreatDoor
namespace Go.Proofs.YtpkoefpdpoikkaaGreatDoor
open Go.RowKit Go.Extern.Stop Go.Stop Go.Extern Go.Sort Go.Shelf Go.Lib

theorem slice_form {W : World} {base : Nat} {e : TypeId} {size : Nat} {v : Value} {n : Nat} {xs : List Value} (h : W.ownsRow base e size v n xs) : ∃ q c, v = .slice q n c := by
  rcases h.2 with ⟨rfl, rfl⟩ | ⟨g, cap, cur, rfl, _⟩
  · exact ⟨_, _, rfl⟩
  · exact ⟨_, _, rfl⟩

theorem firstBad (xs : List Rw) : ∃ m, m ≤ xs.length ∧ (∀ i (h : i < xs.length), i < m → rowE xs[i] = 0) ∧ ∀ (h : m < xs.length), rowE xs[m] ≠ 0 := by
  induction xs with
  | nil => exact ⟨0, Nat.le_refl _, fun i h => absurd h (by simp), fun h => absurd h (by simp)⟩
  | cons x xs ih =>
    by_cases h0 : rowE x = 0
    · obtain ⟨m, hm, hg, he⟩ := ih
      refine ⟨m + 1, by simp; exact hm, fun i h hi => ?_, fun h => ?_⟩
      · cases i with
        | zero => exact h0
        | succ i => exact hg i (by simpa using h) (by omega)
      · exact he (by simpa using h)
    · exact ⟨0, Nat.zero_le _, fun i _ hi => absurd hi (by omega), fun _ => h0⟩

end Go.Proofs.YtpkoefpdpoikkaaGreatDoor
