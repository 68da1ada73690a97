/-
  The contracts of the statements' own LongFile, and what '==' and '!=' give on what is known of a file.
  The walk of known: a closed fact of what is known of a file.
-/
import Derived.Test.YtgffkkijfmoooabGreatDoorFileText
import Derived.Test.YtgffkkijfmoooabGreatDoorFileKnow
import Derived.Test.YtgffkkijfmoooabGreatDoorGoneMake
namespace Go.Proofs.YtgffkkijfmoooabGreatDoor
open Go.RowKit Go.Extern.Stop Go.Stop Go.Extern Go.Sort Go.Shelf Go.Lib

theorem neqF (f : Fl) (w : World) : (binOp .neq 59 (flV f) (flV f)).run Tryz.prog w = .ok (.bool false) w := by
  have u3 := Tryz.underlying3
  have u9 := Tryz.underlying9
  have a3 := Tryz.isAgg3
  have z3 := Tryz.sizeOf3
  have a9 := Tryz.isAgg9
  have z9 := Tryz.sizeOf9
  have hS : Tryz.prog.underlying 59 = some (.struct (Tryz.prog.fieldsOf 59)) := by kernel_rfl
  have hp : Tryz.prog.stoodInHeld 59 = false := by kernel_rfl
  obtain ⟨p, q, n, lo, hi, seq⟩ := f
  unfold flV
  dsimp only
  rw [run_neq_struct, show (10000 : Nat) = 9999 + 1 from rfl, run_equalIn_agg w 9999 59 _ _ hS hp]
  simp only [Program.fieldsOf, Tryz.underlying59]
  go_simp

theorem eqF (f : Fl) (w : World) : (binOp .eql 59 (flV f) (flV f)).run Tryz.prog w = .ok (.bool true) w := by
  have u3 := Tryz.underlying3
  have u9 := Tryz.underlying9
  have a3 := Tryz.isAgg3
  have z3 := Tryz.sizeOf3
  have a9 := Tryz.isAgg9
  have z9 := Tryz.sizeOf9
  have hS : Tryz.prog.underlying 59 = some (.struct (Tryz.prog.fieldsOf 59)) := by kernel_rfl
  have hp : Tryz.prog.stoodInHeld 59 = false := by kernel_rfl
  obtain ⟨p, q, n, lo, hi, seq⟩ := f
  unfold flV
  dsimp only
  rw [run_eql_struct, show (10000 : Nat) = 9999 + 1 from rfl, run_equalIn_agg w 9999 59 _ _ hS hp]
  simp only [Program.fieldsOf, Tryz.underlying59]
  go_simp

theorem guardF : GuardAt Tryz.prog 59 flV := GuardAt.agg _ (by kernel_rfl)

/-- Is what is known too long? -/
def longFB (f : Fl) : Bool := decide (30 < f.1.size) || decide (30 < f.2.1.size)

theorem longFile_any (f : Fl) (w : World) (h1 : f.1.size ≤ maxLen) (h2 : f.2.1.size ≤ maxLen) :
    Calls Tryz.prog 30 #[flV f] w fun e w' => e = .returned (.int .i64 (if longFB f then 1 else 0)) ∧ Below w.heap.size w w' := by
  have hal : Below w.heap.size w (w.alloc (.cells #[.string f.1, .string f.2.1, .int .i64 f.2.2.1, .int .i64 f.2.2.2.1, .int .i64 f.2.2.2.2.1, .int .i64 f.2.2.2.2.2] 59)) := (Below.refl _ _).alloc (Nat.le_refl _) _
  have hfl := FlAt.new w f
  unfold maxLen at h1 h2
  obtain ⟨p, q, n, lo, hi, seq⟩ := f
  unfold flV longFB
  dsimp only at h1 h2 hal hfl ⊢
  by_cases hp : 30 < p.size
  · have e : (decide (30 < p.size) || decide (30 < q.size)) = true := by simp [hp]
    rw [e, if_pos rfl]
    clear e
    go_enter Tryz.func30, Tryz.ntmps30
    go_wp2
    go_ret
    exact ⟨rfl, hal⟩
  · by_cases hq : 30 < q.size
    · have e : (decide (30 < p.size) || decide (30 < q.size)) = true := by simp [hq]
      rw [e, if_pos rfl]
      clear e
      go_enter Tryz.func30, Tryz.ntmps30
      go_wp2
      go_ret
      exact ⟨rfl, hal⟩
    · have e : (decide (30 < p.size) || decide (30 < q.size)) = false := by simp [hp, hq]
      rw [e, if_neg (by simp)]
      clear e
      go_enter Tryz.func30, Tryz.ntmps30
      go_wp2
      go_ret
      exact ⟨rfl, hal⟩
end Go.Proofs.YtgffkkijfmoooabGreatDoor
namespace Go.Proofs.YtgffkkijfmoooabGreatDoor
open Go.RowKit Go.Extern.Stop Go.Stop Go.Extern Go.Sort Go.Shelf Go.Lib

theorem dig_one (d : Nat) (h : d < 10) : decDigits d = [UInt8.ofNat (48 + d)] := by rw [decDigits, dif_pos h]
theorem kn_2 : itoa 2 = [50] := by
  have h : decDigits 2 = [50] := dig_one 2 (by decide)
  simp [itoa, h]
theorem kn_m2 : itoa (-2) = [45, 50] := by
  have h : decDigits 2 = [50] := dig_one 2 (by decide)
  simp [itoa, h]
theorem kn_3 : itoa 3 = [51] := by
  have h : decDigits 3 = [51] := dig_one 3 (by decide)
  simp [itoa, h]
theorem kn_5 : itoa 5 = [53] := by
  have h : decDigits 5 = [53] := dig_one 5 (by decide)
  simp [itoa, h]
theorem kn_7 : itoa 7 = [55] := by
  have h : decDigits 7 = [55] := dig_one 7 (by decide)
  simp [itoa, h]

theorem rise_two : riseZ [7, -2] = [-2, 7] := rise_is (by decide) (fun x => by simp only [List.mem_cons, List.not_mem_nil, or_false]; exact Or.comm)

/-- What is known of that file. -/
def knF : Fl := (⟨#[103, 111, 110, 101, 47, 51]⟩, ⟨#[45]⟩, 2, -2, 7, 5)

theorem kn_path : pathO knF.1.data.toList = some (true, 3) := by
  have h := path_of true [51]
  have hn : numO [51] = some 3 := by rw [← kn_3]; exact numO_itoa 3 (by decide)
  have hp : pathN [51] = some 3 := by unfold pathN; rw [hn]; rfl
  rw [hp] at h
  exact h

theorem kn_ok : fileE knF = 0 := by
  unfold fileE
  rw [kn_path]
  decide

theorem kn_text : fileL knF = [103, 111, 110, 101, 47, 51, 32, 45, 32, 50, 32, 45, 50, 32, 55, 32, 53] := by
  simp [fileL, knF, kn_2, kn_m2, kn_7, kn_5]

theorem kn_of : ofF knF.1 knF.2.1 (goneF [-2, 7]) 5 = (knF, 0) := by
  have hok : ∀ x ∈ [-2, (7 : Int)], goneK.ok x := by
    intro x hx
    show inNum x = true
    revert x
    decide
  have hfr : goneO (goneF [-2, 7]) = ([-2, 7], 0, none) := fileG_read gone_fine [-2, 7] hok (by decide) (by rw [← rise_two]; exact rise_good _)
  have hk : keysF true (goneF [-2, 7]) = ([-2, 7], 0) := by
    show ((goneO (goneF [-2, 7])).1, (goneO (goneF [-2, 7])).2.1) = _
    rw [hfr]
  rw [ofF_some kn_path, hk, if_pos rfl]
  have e : ((knF.1, knF.2.1, (([-2, 7] : List Int).length : Int), (endsZ [-2, 7]).1, (endsZ [-2, 7]).2, 5) : Fl) = knF := rfl
  show chkF _ = _
  rw [e]
  unfold chkF
  rw [if_pos kn_ok]

set_option maxRecDepth 100000 in
set_option maxHeartbeats 2000000 in
theorem known_any (w : World) (a : Nat → Addr) (h : EnvF w a) :
    Calls Tryz.prog 29 #[] w fun e w' => e = .returned (.bool true) ∧ Below w.heap.size w w' := by
  have hal : Below w.heap.size w (w.alloc (.cells #[.int .i64 7, .int .i64 (-2)] 3)) := (Below.refl _ _).alloc (Nat.le_refl _) _
  have hr : KeysAt (w.alloc (.cells #[.int .i64 7, .int .i64 (-2)] 3)) (.slice (some ⟨w.heap.size, 0, none⟩) 2 2) [7, -2] := by
    refine .inr ⟨w.heap.size, 0, 2, rfl, fun j hj => ?_⟩
    match j, hj with
    | 0, _ => simp
    | 1, _ => simp
  have hmk : Calls Tryz.prog 21 #[.slice (some ⟨w.heap.size, 0, none⟩) 2 2] (w.alloc (.cells #[.int .i64 7, .int .i64 (-2)] 3)) fun e w' => e = .returned (.tuple #[.string (bytesOf (goneF [-2, 7])), .nilIface]) ∧ Below (w.alloc (.cells #[.int .i64 7, .int .i64 (-2)] 3)).heap.size (w.alloc (.cells #[.int .i64 7, .int .i64 (-2)] 3)) w' := by
    refine (gmake_any _ [7, -2] _ a (h.below hal).data.weak hr (by decide) (by rw [rise_two]; decide) 2 (by decide) (fun i hi _ => by
      match i, hi with
      | 0, _ => exact (by decide : inNum 7 = true)
      | 1, _ => exact (by decide : inNum (-2) = true)) (fun h => absurd h (by decide))).mono ?_
    rintro e w' (⟨_, h1, h2⟩ | ⟨h1, _⟩)
    · rw [rise_two] at h1
      exact ⟨h1, h2⟩
    · exact absurd h1 (by decide)
  have hok : ∀ x ∈ [-2, (7 : Int)], goneK.ok x := by
    intro x hx
    show inNum x = true
    revert x
    decide
  have hfl := fileG_len gone_fine [-2, 7] hok (by decide)
  have hof := fun W (hW : EnvF W a) => fof_any knF.1 knF.2.1 (bytesOf (goneF [-2, 7])) 5 W a hW (fun g n hp hne => by
    rw [bytes_data] at hne
    rw [kn_path] at hp
    have e := kn_of
    rw [ofF_some kn_path] at e
    obtain rfl : true = g := congrArg Prod.fst (Option.some.inj hp)
    rw [if_neg hne] at e
    exact absurd (congrArg Prod.snd e) hne) (by decide) (by decide) (by rw [bytes_len]; unfold maxLen; show (fileG goneK [-2, 7]).length ≤ _; omega)
  rw [bytes_data, kn_of] at hof
  have htx := fun W (hW : EnvF W a) => ftext_any knF W a hW.lean (by decide) (by decide)
  have hfb : fileB knF = ⟨#[103, 111, 110, 101, 47, 51, 32, 45, 32, 50, 32, 45, 50, 32, 55, 32, 53]⟩ := by
    unfold fileB
    rw [if_pos kn_ok, kn_text]
    rfl
  rw [hfb] at htx
  simp only [flV, knF, errV] at hof htx
  generalize bytesOf (goneF [-2, 7]) = S at hmk hof
  clear hfl hok hr hfb
  go_enter Tryz.func29, Tryz.ntmps29
  go_wp2_with fail
  refine hmk.mono ?_
  rintro e w1 ⟨rfl, hb1⟩
  have hB1 : Below w.heap.size w w1 := hal.trans (hb1.mono hal.size)
  have hr1 := hof w1 (h.below hB1)
  clear hmk hof hb1 hal
  go_wp2_with fail
  refine hr1.mono ?_
  rintro e w2 ⟨rfl, hb2⟩
  clear hr1
  have hB2 : Below w.heap.size w w2 := hB1.trans (hb2.mono hB1.size)
  have hB3 : Below w.heap.size w (w2.alloc (.cells #[.string ⟨#[103, 111, 110, 101, 47, 51]⟩, .string ⟨#[45]⟩, .int .i64 2, .int .i64 (-2), .int .i64 7, .int .i64 5] 59)) := hB2.alloc hB2.size _
  have ht3 := htx _ (h.below hB3)
  clear htx hb2
  go_wp2_with fail
  refine ht3.mono ?_
  rintro e w4 ⟨rfl, hb4⟩
  clear ht3
  go_wp2
  go_ret
  exact ⟨rfl, hB3.trans (hb4.mono hB3.size)⟩
end Go.Proofs.YtgffkkijfmoooabGreatDoor
