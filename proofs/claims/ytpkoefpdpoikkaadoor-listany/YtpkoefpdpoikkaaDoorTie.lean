/-
  DERIVED. GIVEN WITH THE SEED: THE PROGRAM's TIES (one call each: nine closed facts by the kernel) AND EACH ROW's TIE, after the 31st guide's Derived/Test/Toyas{Tie, Card}.lean. No idea stands in it: it is a product of the set-up. Laid BY PROGRAM, IN A SANDBOX (cutbox-door.mjs). By AI agents, Wed Nov 11 2026. No macro, syntax, notation, axiom, sorry.
-/
import Derived.Test.YtpkoefpdpoikkaaDoorRows
import Derived.LaidByTextLater
import Derived.SevenTiedAt
import Derived.LaidSub
import Derived.LaidOnce
namespace Go.Proofs.YtpkoefpdpoikkaaDoor
open Go
set_option maxRecDepth 100000
theorem seatTie1 : Tryd.prog.laidByTextLater [("math/bits.deBruijn32tab", Rows.laid_math_bits_deBruijn32tab), ("math/bits.deBruijn64tab", Rows.laid_math_bits_deBruijn64tab), ("internal/strconv.uint64pow10", Rows.laid_internal_strconv_uint64pow10), ("deedbox/api.ErrBound", Rows.laid_deedbox_api_ErrBound), ("deedbox/api.ErrKind", Rows.laid_deedbox_api_ErrKind), ("deedbox/api.ErrName", Rows.laid_deedbox_api_ErrName), ("deedbox/api.ErrNone", Rows.laid_deedbox_api_ErrNone), ("deedbox/api.ErrExist", Rows.laid_deedbox_api_ErrExist), ("deedbox/api.ErrFull", Rows.laid_deedbox_api_ErrFull), ("deedbox/api.ErrOrder", Rows.laid_deedbox_api_ErrOrder), ("strconv.ErrRange", Rows.laid_strconv_ErrRange), ("strconv.ErrSyntax", Rows.laid_strconv_ErrSyntax)] [.data, .data, .data, .sentinel, .sentinel, .sentinel, .sentinel, .sentinel, .sentinel, .sentinel, .sentinel, .sentinel] true :=
  Program.laidByTextLater_by_one 195 8 65 (by kernel_rfl) (by kernel_rfl) (by kernel_rfl) (by kernel_rfl) (by kernel_rfl) (by kernel_rfl) (fun _ _ => by kernel_rfl)
theorem noOwnUnsafe : Tryd.pinned.checked.prog.headLifts.contains "ownunsafe" = false := by kernel_rfl
theorem tie : Tryd.prog.laidByTextLater [("math/bits.deBruijn32tab", Rows.laid_math_bits_deBruijn32tab), ("math/bits.deBruijn64tab", Rows.laid_math_bits_deBruijn64tab), ("internal/strconv.uint64pow10", Rows.laid_internal_strconv_uint64pow10), ("deedbox/api.ErrBound", Rows.laid_deedbox_api_ErrBound), ("deedbox/api.ErrKind", Rows.laid_deedbox_api_ErrKind), ("deedbox/api.ErrName", Rows.laid_deedbox_api_ErrName), ("deedbox/api.ErrNone", Rows.laid_deedbox_api_ErrNone), ("deedbox/api.ErrExist", Rows.laid_deedbox_api_ErrExist), ("deedbox/api.ErrFull", Rows.laid_deedbox_api_ErrFull), ("deedbox/api.ErrOrder", Rows.laid_deedbox_api_ErrOrder), ("strconv.ErrRange", Rows.laid_strconv_ErrRange), ("strconv.ErrSyntax", Rows.laid_strconv_ErrSyntax)] [.data, .data, .data, .sentinel, .sentinel, .sentinel, .sentinel, .sentinel, .sentinel, .sentinel, .sentinel, .sentinel] true :=
  Program.laidByTextLater.sub seatTie1 ["math/bits.deBruijn32tab", "math/bits.deBruijn64tab", "internal/strconv.uint64pow10", "deedbox/api.ErrBound", "deedbox/api.ErrKind", "deedbox/api.ErrName", "deedbox/api.ErrNone", "deedbox/api.ErrExist", "deedbox/api.ErrFull", "deedbox/api.ErrOrder", "strconv.ErrRange", "strconv.ErrSyntax"] (by kernel_rfl) (by kernel_rfl)
theorem listAny_row_tie : Rows.listAnyRow.laidByTextAt .later Tryd.pinned [.data, .data, .data, .sentinel, .sentinel, .sentinel, .sentinel, .sentinel, .sentinel, .sentinel, .sentinel, .sentinel] true :=
  OpenClaim.laidByTextAt_later rfl rfl tie noOwnUnsafe
theorem listAnyUpto_row_tie : Rows.listAnyUptoRow.laidByTextAt .later Tryd.pinned [.data, .data, .data, .sentinel, .sentinel, .sentinel, .sentinel, .sentinel, .sentinel, .sentinel, .sentinel, .sentinel] true :=
  OpenClaim.laidByTextAt_later rfl rfl tie noOwnUnsafe
end Go.Proofs.YtpkoefpdpoikkaaDoor
