/-
  DERIVED. GIVEN WITH THE SEED: THE PROGRAM's TIES (one call each: nine closed facts by the kernel) AND EACH ROW's TIE, after the 31st guide's Derived/Test/Toyas{Tie, Card}.lean. No idea stands in it: it is a product of the set-up. Laid BY PROGRAM, IN A SANDBOX (cutbox-door.mjs). By AI agents, Wed Nov 11 2026. No macro, syntax, notation, axiom, sorry.
-/
import Derived.Test.YtgffkkijfmoooaaDoorRows
import Derived.LaidByTextLater
import Derived.SevenTiedAt
import Derived.LaidSub
import Derived.LaidOnce
namespace Go.Proofs.YtgffkkijfmoooaaDoor
open Go
set_option maxRecDepth 100000
theorem seatTie1 : Tryd.prog.laidByTextLater [("errors.errorType", Rows.laid_errors_errorType), ("deedbox/api.ErrText", Rows.laid_deedbox_api_ErrText), ("deedbox/api.ErrBound", Rows.laid_deedbox_api_ErrBound), ("deedbox/api.ErrShape", Rows.laid_deedbox_api_ErrShape), ("deedbox/api.ErrKind", Rows.laid_deedbox_api_ErrKind), ("deedbox/api.ErrName", Rows.laid_deedbox_api_ErrName), ("deedbox/api.ErrNone", Rows.laid_deedbox_api_ErrNone), ("deedbox/api.ErrExist", Rows.laid_deedbox_api_ErrExist), ("deedbox/api.ErrFull", Rows.laid_deedbox_api_ErrFull), ("deedbox/api.ErrOrder", Rows.laid_deedbox_api_ErrOrder), ("deedbox/api.ErrSum", Rows.laid_deedbox_api_ErrSum), ("deedbox/api.ErrStale", Rows.laid_deedbox_api_ErrStale), ("deedbox/api.ErrOff", Rows.laid_deedbox_api_ErrOff)] [.handle, .sentinel, .sentinel, .sentinel, .sentinel, .sentinel, .sentinel, .sentinel, .sentinel, .sentinel, .sentinel, .sentinel, .sentinel] true :=
  Program.laidByTextLater_by_one 244 8 2 (by kernel_rfl) (by kernel_rfl) (by kernel_rfl) (by kernel_rfl) (by kernel_rfl) (by kernel_rfl) (fun _ _ => by kernel_rfl)
theorem noOwnUnsafe : Tryd.pinned.checked.prog.headLifts.contains "ownunsafe" = false := by kernel_rfl
theorem tie : Tryd.prog.laidByTextLater [("errors.errorType", Rows.laid_errors_errorType), ("deedbox/api.ErrText", Rows.laid_deedbox_api_ErrText), ("deedbox/api.ErrBound", Rows.laid_deedbox_api_ErrBound), ("deedbox/api.ErrShape", Rows.laid_deedbox_api_ErrShape), ("deedbox/api.ErrKind", Rows.laid_deedbox_api_ErrKind), ("deedbox/api.ErrName", Rows.laid_deedbox_api_ErrName), ("deedbox/api.ErrNone", Rows.laid_deedbox_api_ErrNone), ("deedbox/api.ErrExist", Rows.laid_deedbox_api_ErrExist), ("deedbox/api.ErrFull", Rows.laid_deedbox_api_ErrFull), ("deedbox/api.ErrOrder", Rows.laid_deedbox_api_ErrOrder), ("deedbox/api.ErrSum", Rows.laid_deedbox_api_ErrSum), ("deedbox/api.ErrStale", Rows.laid_deedbox_api_ErrStale), ("deedbox/api.ErrOff", Rows.laid_deedbox_api_ErrOff)] [.handle, .sentinel, .sentinel, .sentinel, .sentinel, .sentinel, .sentinel, .sentinel, .sentinel, .sentinel, .sentinel, .sentinel, .sentinel] true :=
  Program.laidByTextLater.sub seatTie1 ["errors.errorType", "deedbox/api.ErrText", "deedbox/api.ErrBound", "deedbox/api.ErrShape", "deedbox/api.ErrKind", "deedbox/api.ErrName", "deedbox/api.ErrNone", "deedbox/api.ErrExist", "deedbox/api.ErrFull", "deedbox/api.ErrOrder", "deedbox/api.ErrSum", "deedbox/api.ErrStale", "deedbox/api.ErrOff"] (by kernel_rfl) (by kernel_rfl)
theorem names_row_tie : Rows.namesRow.laidByTextAt .later Tryd.pinned [.handle, .sentinel, .sentinel, .sentinel, .sentinel, .sentinel, .sentinel, .sentinel, .sentinel, .sentinel, .sentinel, .sentinel, .sentinel] true :=
  OpenClaim.laidByTextAt_later rfl rfl tie noOwnUnsafe
theorem namesUpto_row_tie : Rows.namesUptoRow.laidByTextAt .later Tryd.pinned [.handle, .sentinel, .sentinel, .sentinel, .sentinel, .sentinel, .sentinel, .sentinel, .sentinel, .sentinel, .sentinel, .sentinel, .sentinel] true :=
  OpenClaim.laidByTextAt_later rfl rfl tie noOwnUnsafe
end Go.Proofs.YtgffkkijfmoooaaDoor
