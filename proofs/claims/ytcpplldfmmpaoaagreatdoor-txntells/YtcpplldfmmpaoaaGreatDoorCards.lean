/-
  DERIVED. GIVEN WITH THE SEED: THE CARDS: each row of YtcpplldfmmpaoaaGreatDoorRows.lean that lists a variable, with what it lists TIED to the program's text (the seventh form; the later family's looks); each row that meets fmt, with fmt's text TOLD by the authors' own Lean function (tested against real Go, not proved from fmt's source: count such statements apart). THE CARD IS WHAT COUNTS. Prove the row's statement (the work); the ties are given (YtcpplldfmmpaoaaGreatDoorTie.lean); close each card by the builder's one call (the guide's Derived/Test/ToyasCard.lean, 'card_holds'). Laid BY PROGRAM, IN A SANDBOX (cutbox-door.mjs). By AI agents, Wed Nov 11 2026. No macro, syntax, notation, axiom, sorry.
-/
import Derived.Test.YtcpplldfmmpaoaaGreatDoorRows
import GoSem.ClaimSeven
namespace Go.Proofs.YtcpplldfmmpaoaaGreatDoor
namespace Rows

/-- THE TIED CARD OF 'deedboxlaw3.TxnLoses'. -/
def txnLosesCard : Claim7 := { stood := { row := txnLosesRow, standIns := [], harness := (true, "bc5ec1f1c0368fe81005e79024c4860167307925dd52d4f954f8045ed68135a4"), looks := true }, kinds := [], alts := [], laidByText := true, laidKinds := [.data, .data, .data, .handle, .sentinel, .sentinel, .sentinel, .sentinel, .sentinel, .sentinel, .sentinel, .sentinel, .sentinel, .sentinel, .sentinel], laidTests := true, laidLooks := .later }
def TxnLosesCardSaid : Prop := Claim7.holds Tryz.pinned (.plain (OpenSpec.ofChange txnLosesSpec)) txnLosesCard

/-- THE TIED CARD OF 'deedboxlaw3.TxnTells'. -/
def txnTellsCard : Claim7 := { stood := { row := txnTellsRow, standIns := [], harness := (true, "bc5ec1f1c0368fe81005e79024c4860167307925dd52d4f954f8045ed68135a4"), looks := true }, kinds := [], alts := [], laidByText := true, laidKinds := [.data, .data, .data, .handle, .sentinel, .sentinel, .sentinel, .sentinel, .sentinel, .sentinel, .sentinel, .sentinel, .sentinel, .sentinel, .sentinel, .sentinel, .sentinel, .sentinel], laidTests := true, laidLooks := .later }
def TxnTellsCardSaid : Prop := Claim7.holds Tryz.pinned (.plain (OpenSpec.ofChange txnTellsSpec)) txnTellsCard

/-- THE SECOND FORM's CARD OF 'deedboxlaw3.TxnLoses'. -/
def txnLosesUptoCard : Claim7 := { stood := { row := txnLosesUptoRow, standIns := [], harness := (true, "bc5ec1f1c0368fe81005e79024c4860167307925dd52d4f954f8045ed68135a4"), looks := true }, kinds := [], alts := [], laidByText := true, laidKinds := [.data, .data, .data, .handle, .sentinel, .sentinel, .sentinel, .sentinel, .sentinel, .sentinel, .sentinel, .sentinel, .sentinel, .sentinel, .sentinel], laidTests := true, laidLooks := .later }
def TxnLosesUptoCardSaid : Prop := Claim7.holds Tryz.pinned (.plain (OpenSpec.upto txnLosesSpec)) txnLosesUptoCard

/-- THE SECOND FORM's CARD OF 'deedboxlaw3.TxnTells'. -/
def txnTellsUptoCard : Claim7 := { stood := { row := txnTellsUptoRow, standIns := [], harness := (true, "bc5ec1f1c0368fe81005e79024c4860167307925dd52d4f954f8045ed68135a4"), looks := true }, kinds := [], alts := [], laidByText := true, laidKinds := [.data, .data, .data, .handle, .sentinel, .sentinel, .sentinel, .sentinel, .sentinel, .sentinel, .sentinel, .sentinel, .sentinel, .sentinel, .sentinel, .sentinel, .sentinel, .sentinel], laidTests := true, laidLooks := .later }
def TxnTellsUptoCardSaid : Prop := Claim7.holds Tryz.pinned (.plain (OpenSpec.upto txnTellsSpec)) txnTellsUptoCard
end Rows
end Go.Proofs.YtcpplldfmmpaoaaGreatDoor
