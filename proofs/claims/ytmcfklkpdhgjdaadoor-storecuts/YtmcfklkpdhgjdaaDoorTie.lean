/-
  DERIVED. GIVEN WITH THE SEED: THE PROGRAM's TIES (one call each: nine closed facts by the kernel) AND EACH ROW's TIE, after the 31st guide's Derived/Test/Toyas{Tie, Card}.lean. No idea stands in it: it is a product of the set-up. Laid BY PROGRAM, IN A SANDBOX (cutbox-door.mjs). By AI agents, Wed Nov 11 2026. No macro, syntax, notation, axiom, sorry.
-/
import Derived.Test.YtmcfklkpdhgjdaaDoorRows
import Derived.LaidByTextLater
import Derived.SevenTiedAt
import Derived.LaidSub
import Derived.LaidOnce
namespace Go.Proofs.YtmcfklkpdhgjdaaDoor
open Go
set_option maxRecDepth 100000
theorem seatTie1 : Tryd.prog.laidByTextLater [("unicode/utf8.acceptRanges", Rows.laid_unicode_utf8_acceptRanges), ("errors.errorType", Rows.laid_errors_errorType), ("deedbox/api.ErrText", Rows.laid_deedbox_api_ErrText), ("deedbox/api.ErrBound", Rows.laid_deedbox_api_ErrBound), ("deedbox/api.ErrShape", Rows.laid_deedbox_api_ErrShape), ("deedbox/api.ErrKind", Rows.laid_deedbox_api_ErrKind), ("deedbox/api.ErrName", Rows.laid_deedbox_api_ErrName), ("deedbox/api.ErrNone", Rows.laid_deedbox_api_ErrNone), ("deedbox/api.ErrExist", Rows.laid_deedbox_api_ErrExist), ("deedbox/api.ErrFull", Rows.laid_deedbox_api_ErrFull), ("deedbox/api.ErrOrder", Rows.laid_deedbox_api_ErrOrder), ("deedbox/api.ErrSum", Rows.laid_deedbox_api_ErrSum), ("deedbox/api.ErrStale", Rows.laid_deedbox_api_ErrStale), ("deedbox/api.ErrOff", Rows.laid_deedbox_api_ErrOff)] [.data, .handle, .sentinel, .sentinel, .sentinel, .sentinel, .sentinel, .sentinel, .sentinel, .sentinel, .sentinel, .sentinel, .sentinel, .sentinel] true :=
  Program.laidByTextLater_by_one 254 8 33 (by kernel_rfl) (by kernel_rfl) (by kernel_rfl) (by kernel_rfl) (by kernel_rfl) (by kernel_rfl) (fun _ _ => by kernel_rfl)
theorem pin_laid_unicode_utf8_first : Tryd.pinned.checked.prog.pinnedFits "unicode/utf8.first" = true := by kernel_rfl
theorem noOwnUnsafe : Tryd.pinned.checked.prog.headLifts.contains "ownunsafe" = false := by kernel_rfl
theorem fits1 : Tryd.pinned.checked.prog.listedFits [("unicode/utf8.acceptRanges", Rows.laid_unicode_utf8_acceptRanges), ("errors.errorType", Rows.laid_errors_errorType), ("deedbox/api.ErrText", Rows.laid_deedbox_api_ErrText), ("deedbox/api.ErrBound", Rows.laid_deedbox_api_ErrBound), ("deedbox/api.ErrShape", Rows.laid_deedbox_api_ErrShape), ("deedbox/api.ErrKind", Rows.laid_deedbox_api_ErrKind), ("deedbox/api.ErrName", Rows.laid_deedbox_api_ErrName), ("deedbox/api.ErrNone", Rows.laid_deedbox_api_ErrNone), ("deedbox/api.ErrExist", Rows.laid_deedbox_api_ErrExist), ("deedbox/api.ErrFull", Rows.laid_deedbox_api_ErrFull), ("deedbox/api.ErrOrder", Rows.laid_deedbox_api_ErrOrder), ("deedbox/api.ErrSum", Rows.laid_deedbox_api_ErrSum), ("deedbox/api.ErrStale", Rows.laid_deedbox_api_ErrStale), ("deedbox/api.ErrOff", Rows.laid_deedbox_api_ErrOff), ("unicode/utf8.first", Rows.laid_unicode_utf8_first)] = true := by
  unfold Program.listedFits
  rw [noOwnUnsafe]
  kernel_rfl
theorem tie : Tryd.prog.laidByTextLater [("unicode/utf8.acceptRanges", Rows.laid_unicode_utf8_acceptRanges), ("errors.errorType", Rows.laid_errors_errorType), ("deedbox/api.ErrText", Rows.laid_deedbox_api_ErrText), ("deedbox/api.ErrBound", Rows.laid_deedbox_api_ErrBound), ("deedbox/api.ErrShape", Rows.laid_deedbox_api_ErrShape), ("deedbox/api.ErrKind", Rows.laid_deedbox_api_ErrKind), ("deedbox/api.ErrName", Rows.laid_deedbox_api_ErrName), ("deedbox/api.ErrNone", Rows.laid_deedbox_api_ErrNone), ("deedbox/api.ErrExist", Rows.laid_deedbox_api_ErrExist), ("deedbox/api.ErrFull", Rows.laid_deedbox_api_ErrFull), ("deedbox/api.ErrOrder", Rows.laid_deedbox_api_ErrOrder), ("deedbox/api.ErrSum", Rows.laid_deedbox_api_ErrSum), ("deedbox/api.ErrStale", Rows.laid_deedbox_api_ErrStale), ("deedbox/api.ErrOff", Rows.laid_deedbox_api_ErrOff)] [.data, .handle, .sentinel, .sentinel, .sentinel, .sentinel, .sentinel, .sentinel, .sentinel, .sentinel, .sentinel, .sentinel, .sentinel, .sentinel] true :=
  Program.laidByTextLater.sub seatTie1 ["unicode/utf8.acceptRanges", "errors.errorType", "deedbox/api.ErrText", "deedbox/api.ErrBound", "deedbox/api.ErrShape", "deedbox/api.ErrKind", "deedbox/api.ErrName", "deedbox/api.ErrNone", "deedbox/api.ErrExist", "deedbox/api.ErrFull", "deedbox/api.ErrOrder", "deedbox/api.ErrSum", "deedbox/api.ErrStale", "deedbox/api.ErrOff"] (by kernel_rfl) (by kernel_rfl)
theorem storeOnce_row_tie : Rows.storeOnceRow.laidByTextAt .later Tryd.pinned [.data, .handle, .sentinel, .sentinel, .sentinel, .sentinel, .sentinel, .sentinel, .sentinel, .sentinel, .sentinel, .sentinel, .sentinel, .sentinel, .pinned] true :=
  OpenClaim.laidByTextAt_pinned rfl rfl tie rfl rfl rfl rfl (fun y hy _e => by
    simp only [Rows.storeOnceRow, List.zip_cons_cons, List.zip_nil_right, List.mem_cons, List.mem_nil_iff, or_false] at hy
    rcases hy with rfl | rfl | rfl | rfl | rfl | rfl | rfl | rfl | rfl | rfl | rfl | rfl | rfl | rfl | rfl
    · cases _e
    · cases _e
    · cases _e
    · cases _e
    · cases _e
    · cases _e
    · cases _e
    · cases _e
    · cases _e
    · cases _e
    · cases _e
    · cases _e
    · cases _e
    · cases _e
    · exact ⟨pin_laid_unicode_utf8_first, by kernel_rfl⟩) fits1
theorem storeCuts_row_tie : Rows.storeCutsRow.laidByTextAt .later Tryd.pinned [.data, .handle, .sentinel, .sentinel, .sentinel, .sentinel, .sentinel, .sentinel, .sentinel, .sentinel, .sentinel, .sentinel, .sentinel, .sentinel, .pinned] true :=
  OpenClaim.laidByTextAt_pinned rfl rfl tie rfl rfl rfl rfl (fun y hy _e => by
    simp only [Rows.storeCutsRow, List.zip_cons_cons, List.zip_nil_right, List.mem_cons, List.mem_nil_iff, or_false] at hy
    rcases hy with rfl | rfl | rfl | rfl | rfl | rfl | rfl | rfl | rfl | rfl | rfl | rfl | rfl | rfl | rfl
    · cases _e
    · cases _e
    · cases _e
    · cases _e
    · cases _e
    · cases _e
    · cases _e
    · cases _e
    · cases _e
    · cases _e
    · cases _e
    · cases _e
    · cases _e
    · cases _e
    · exact ⟨pin_laid_unicode_utf8_first, by kernel_rfl⟩) fits1
theorem storeOnceUpto_row_tie : Rows.storeOnceUptoRow.laidByTextAt .later Tryd.pinned [.data, .handle, .sentinel, .sentinel, .sentinel, .sentinel, .sentinel, .sentinel, .sentinel, .sentinel, .sentinel, .sentinel, .sentinel, .sentinel, .pinned] true :=
  OpenClaim.laidByTextAt_pinned rfl rfl tie rfl rfl rfl rfl (fun y hy _e => by
    simp only [Rows.storeOnceUptoRow, List.zip_cons_cons, List.zip_nil_right, List.mem_cons, List.mem_nil_iff, or_false] at hy
    rcases hy with rfl | rfl | rfl | rfl | rfl | rfl | rfl | rfl | rfl | rfl | rfl | rfl | rfl | rfl | rfl
    · cases _e
    · cases _e
    · cases _e
    · cases _e
    · cases _e
    · cases _e
    · cases _e
    · cases _e
    · cases _e
    · cases _e
    · cases _e
    · cases _e
    · cases _e
    · cases _e
    · exact ⟨pin_laid_unicode_utf8_first, by kernel_rfl⟩) fits1
theorem storeCutsUpto_row_tie : Rows.storeCutsUptoRow.laidByTextAt .later Tryd.pinned [.data, .handle, .sentinel, .sentinel, .sentinel, .sentinel, .sentinel, .sentinel, .sentinel, .sentinel, .sentinel, .sentinel, .sentinel, .sentinel, .pinned] true :=
  OpenClaim.laidByTextAt_pinned rfl rfl tie rfl rfl rfl rfl (fun y hy _e => by
    simp only [Rows.storeCutsUptoRow, List.zip_cons_cons, List.zip_nil_right, List.mem_cons, List.mem_nil_iff, or_false] at hy
    rcases hy with rfl | rfl | rfl | rfl | rfl | rfl | rfl | rfl | rfl | rfl | rfl | rfl | rfl | rfl | rfl
    · cases _e
    · cases _e
    · cases _e
    · cases _e
    · cases _e
    · cases _e
    · cases _e
    · cases _e
    · cases _e
    · cases _e
    · cases _e
    · cases _e
    · cases _e
    · cases _e
    · exact ⟨pin_laid_unicode_utf8_first, by kernel_rfl⟩) fits1
end Go.Proofs.YtmcfklkpdhgjdaaDoor
