/-
  Proved: SnapBack returns true for every snap, every place and every byte, whatever memory is there, where the listed package-level variables hold what the program's text lays; its arguments read as before.
-/
import Derived.Test.YtpkoefpdpoikkaaGreatDoorHanded
import Derived.Test.YtpkoefpdpoikkaaGreatDoorTie
import Derived.Test.YtpkoefpdpoikkaaGreatDoorCards
import Derived.SevenTiedAt
import Derived.OpenShut
namespace Go.Proofs.YtpkoefpdpoikkaaGreatDoor
open Go.ChangeShapes Go.WideShapes Go.ChangeAt Go.RowKit Go.Lib Go.Shelf
open Go.ChangeMaps (open_string shut_string)

theorem wfB_u8 {n : Int} (h : (Lit.int .u8 n).wf = true) : 0 ≤ n ∧ n ≤ 255 := by
  simp [Lit.wf, IntKind.min, IntKind.max, IntKind.signed, IntKind.bits] at h
  omega

theorem byteB_of {k : Int} (h : 0 ≤ k ∧ k ≤ 255) : ∃ b : UInt8, k = (b.toNat : Int) :=
  ⟨UInt8.ofNat k.toNat, by
    have h' : k.toNat < 256 := by omega
    have : (UInt8.ofNat k.toNat).toNat = k.toNat := by simp [UInt8.toNat_ofNat']; omega
    omega⟩

theorem snapb_plain : (Rows.snapBackRow.laid.filter fun x => x.2.handleName?.isNone) = plainList := by kernel_rfl
theorem snapb_handle : (Rows.snapBackRow.laid.filter fun x => x.2.handleName?.isSome) = [("errors.errorType", Rows.laid_errors_errorType)] := by kernel_rfl

set_option maxRecDepth 100000 in
theorem snapb_lifted (os : Os) (started : os.Started) (H : Type) (enc : TypeId × Value → H) :
    ReturnsInHanded {} Tryz.checked os 7 .any (fun w args => (Rows.snapBackSpec.pre enc Tryz.prog Tryz.f7 [] false w args ∧ laidMetH Tryz.prog Rows.snapBackRow.laid w) ∧ sizedMet enc Tryz.prog Tryz.f7 (OpenSpec.ofChange Rows.snapBackSpec) false w args)
      (Rows.snapBackSpec.post enc Tryz.prog Tryz.f7 false true false false) := by
  refine returns_and_shaped (C := Tryz.checked) (X := fun w _ => laidMetH Tryz.prog Rows.snapBackRow.laid w) (fun _ _ _ hh h => h.of_heap hh) Tryz.own started (by kernel_rfl) Tryz.func7
    (ChangeSpec.witness_shaped (enc := enc) (C := Tryz.checked) (os := os) (X := fun w _ => laidMetH Tryz.prog Rows.snapBackRow.laid w) false (tellsWorld os) #[.agg #[.int .i64 0, .int .i64 0, .int .i64 0, .int .i64 0, .int .i64 0, .string ⟨#[]⟩, .slice none 0 0], .int .i64 0, .int .u8 0] 8 (tellsWorld_os os)
      (tellsWorld_shaped os) (by kernel_rfl) (by kernel_rfl) (by kernel_rfl)
      (tellsWorld_met os _ snapb_plain snapb_handle)) ?_
  intro W base args ds gs before hval0 hW hsh hL
  have hval : ∀ (j : Nat) t v, Tryz.f7.params[j]? = some t → args[j]? = some v → Value.okWide Tryz.prog W .any base t v := hval0
  have hW' := hW
  obtain ⟨p, q, hA0, hV, rfl, hfz, _⟩ := hW
  have hA : DataW.TrodAll enc Tryz.prog W 0 (fun _ => true) true Tryz.f7.params.toList args.toList ds p := hA0
  have hpar : Tryz.f7.params = #[74, 3, 5] := by kernel_rfl
  rw [hpar] at hA hval
  obtain ⟨v0, r0, d0, ds0, p0, q0, ea, rfl, rfl, h0, hA⟩ := trodAll_cons hA
  obtain ⟨v1, r1, d1, ds1, p1, q1, rfl, rfl, rfl, h1, hA⟩ := trodAll_cons hA
  obtain ⟨v2, r2, d2, ds2, p2, q2, rfl, rfl, rfl, h2, hA⟩ := trodAll_cons hA
  obtain ⟨rfl, rfl, rfl⟩ := trodAll_nil hA
  obtain rfl : args = #[v0, v1, v2] := by
    obtain ⟨l⟩ := args
    simp only at ea
    rw [ea]
  obtain ⟨rfl, rfl⟩ := trodVars_none hV
  obtain ⟨n, rfl, rfl, rfl, wn⟩ := open_int Tryz.underlying3 (hval 1 3 v1 rfl rfl) h1
  obtain ⟨k, rfl, rfl, rfl, wk⟩ := open_int Tryz.underlying5 (hval 2 5 v2 rfl rfl) h2
  obtain ⟨s, sq, sc, rfl, hx, hop, hl, hsz⟩ := open_snap (hval 0 74 v0 rfl rfl) h0
  obtain ⟨f0, hf0⟩ := h0
  obtain ⟨hL1, hL2⟩ := tells_split snapb_plain snapb_handle hL
  obtain ⟨a, hEnv, hEr⟩ := env_errs hsh hL1 hL2
  have hEL : EnvL W a := ⟨⟨hEnv.n, hEr.cell 3 (by decide)⟩, hEr.cell 5 (by decide), hEr.cell 6 (by decide), hEr.cell 7 (by decide), hEr.cell 8 (by decide)⟩
  have hEP : EnvP W a := ⟨⟨hEL, hEr.cell 0 (by decide)⟩, hEr.cell 9 (by decide)⟩
  have hwn := wf_i64 wn
  have hwk := wfB_u8 wk
  obtain ⟨b, hb8⟩ : ∃ b : UInt8, k = (b.toNat : Int) := byteB_of hwk
  have hwd := snapBack_any s sq sc n b W a (fun W => EnvP W a) (snapK a) hEP hEr hx hop hl hsz hwn.1 hwn.2
  rw [← hb8] at hwd
  refine hwd.mono fun e W' ⟨he, hb⟩ => ?_
  subst he
  have e1 : Rows.snapBackSpec.fn H ([d0, .lit (.int .i64 n), .lit (.int .u8 k)] ++ []) = { results := [.lit (.bool true)], args := [d0, .lit (.int .i64 n), .lit (.int .u8 k)] } := by simp [Rows.snapBackSpec]
  have hlt0 : ∀ x ∈ p0, x.block < W.heap.size := DataW.trod_lt _ _ _ _ hf0
  refine ⟨_, rfl, _, _, _, [], p0 ++ ([] ++ ([] ++ [])), [], hW', ?_, ?_, ?_, hb.frame _, fun h => by cases h⟩
  · rw [e1]; exact trodAll_mk1 (shut_bool Tryz.underlying4 true)
  · rw [e1]
    exact trodAll_cons_mk (Below.trod Tryz.laidOut (by kernel_rfl) (of_decide_eq_true (by kernel_rfl)) ⟨f0, hf0⟩ hb hlt0)
      (trodAll_cons_mk (shut_int Tryz.underlying3 wn) (trodAll_cons_mk (shut_int Tryz.underlying5 wk) trodAll_mk0))
  · rw [e1]; rfl

theorem snapb_row : Rows.SnapBackSaid :=
  OpenClaim.holds_of_wide 7 Tryz.f7 rfl rfl rfl rfl rfl rfl rfl ⟨rfl, rfl, rfl, rfl, rfl⟩ rfl rfl rfl rfl rfl (by kernel_rfl) Tryz.func7 (by kernel_rfl)
    (of_decide_eq_true (by kernel_rfl)) (by unfold Func.isWrapper; rw [if_neg (of_decide_eq_false (by kernel_rfl))]; exact ⟨rfl, rfl⟩)
    (fun os started H enc _ => snapb_lifted os started H enc)

theorem snapBack_holds : Rows.SnapBackCardSaid :=
  Claim7.holds_tied_plain_at .later [] Rows.snapBackCard.laidKinds true Rows.snapBackCard.stood.harness true
    snapb_row (fun _ h => by cases h) (by kernel_rfl) (fun _ h => by cases h) snapBack_row_tie rfl ⟨rfl, rfl⟩ (by kernel_rfl) rfl
    (fun f fn hf hfn => by
      obtain rfl : f = 7 := Option.some.inj ((show Tryz.prog.funcNamed "deedbox/deedboxlaw2.SnapBack" = some 7 by kernel_rfl).symm.trans hf) |>.symm
      obtain rfl : fn = Tryz.f7 := (Option.some.inj (Tryz.func7.symm.trans hfn)).symm
      exact ⟨by kernel_rfl, fun j t ht => by
        have hp : Tryz.f7.params = #[74, 3, 5] := by kernel_rfl
        rw [hp] at ht
        have hm : t ∈ [74, 3, 5] := by simpa using Array.mem_of_getElem? ht
        simp only [List.mem_cons, List.not_mem_nil, or_false] at hm
        rcases hm with rfl | rfl | rfl
        · exact (show Tryz.prog.wantsStandIn 74 = false by kernel_rfl)
        · exact (show Tryz.prog.wantsStandIn 3 = false by kernel_rfl)
        · exact (show Tryz.prog.wantsStandIn 5 = false by kernel_rfl)⟩)
    (by kernel_rfl)
#print axioms snapBack_holds
end Go.Proofs.YtpkoefpdpoikkaaGreatDoor
