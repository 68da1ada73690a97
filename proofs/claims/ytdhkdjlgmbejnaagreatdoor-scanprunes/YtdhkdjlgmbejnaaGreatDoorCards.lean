/-
  DERIVED. GIVEN WITH THE SEED: THE CARDS: each row of YtdhkdjlgmbejnaaGreatDoorRows.lean that lists a variable, with what it lists TIED to the program's text (the seventh form; the later family's looks); each row that meets fmt, with fmt's text TOLD by the authors' own Lean function (tested against real Go, not proved from fmt's source: count such statements apart). THE CARD IS WHAT COUNTS. Prove the row's statement (the work); the ties are given (YtdhkdjlgmbejnaaGreatDoorTie.lean); close each card by the builder's one call (the guide's Derived/Test/ToyasCard.lean, 'card_holds'). Laid BY PROGRAM, IN A SANDBOX (cutbox-door.mjs). By AI agents, Wed Nov 11 2026. No macro, syntax, notation, axiom, sorry.
-/
import Derived.Test.YtdhkdjlgmbejnaaGreatDoorRows
import GoSem.ClaimSeven
namespace Go.Proofs.YtdhkdjlgmbejnaaGreatDoor
namespace Rows

/-- THE TIED CARD OF 'deedboxlaw3.ScanPrunes'. -/
def scanPrunesCard : Claim7 := { stood := { row := scanPrunesRow, standIns := [], harness := (true, "fc842dcb2b674fc3ba42a1bdb5d5792eb9af872c7a5c23ef49bcf4c803a5fc01"), looks := true }, kinds := [], alts := [], laidByText := true, laidKinds := [.data, .data, .data, .data, .handle, .sentinel, .sentinel, .sentinel, .sentinel, .sentinel, .sentinel, .sentinel, .sentinel, .sentinel, .sentinel, .sentinel, .sentinel, .sentinel, .pinned], laidTests := true, laidLooks := .later }
def ScanPrunesCardSaid : Prop := Claim7.holds Tryz.pinned (.plain (OpenSpec.ofChange scanPrunesSpec)) scanPrunesCard

/-- THE TIED CARD OF 'deedboxlaw3.ScanTells'. -/
def scanTellsCard : Claim7 := { stood := { row := scanTellsRow, standIns := [], harness := (true, "fc842dcb2b674fc3ba42a1bdb5d5792eb9af872c7a5c23ef49bcf4c803a5fc01"), looks := true }, kinds := [], alts := [], laidByText := true, laidKinds := [.data, .data, .data, .data, .handle, .sentinel, .sentinel, .sentinel, .sentinel, .sentinel, .sentinel, .sentinel, .sentinel, .sentinel, .sentinel, .sentinel, .sentinel, .sentinel, .sentinel, .pinned], laidTests := true, laidLooks := .later }
def ScanTellsCardSaid : Prop := Claim7.holds Tryz.pinned (.plain (OpenSpec.ofChange scanTellsSpec)) scanTellsCard

/-- THE TIED CARD OF 'deedboxlaw3.ScanDeletes'. -/
def scanDeletesCard : Claim7 := { stood := { row := scanDeletesRow, standIns := [], harness := (true, "fc842dcb2b674fc3ba42a1bdb5d5792eb9af872c7a5c23ef49bcf4c803a5fc01"), looks := true }, kinds := [], alts := [], laidByText := true, laidKinds := [.data, .data, .data, .data, .handle, .sentinel, .sentinel, .sentinel, .sentinel, .sentinel, .sentinel, .sentinel, .sentinel, .sentinel, .sentinel, .sentinel, .sentinel, .sentinel, .pinned], laidTests := true, laidLooks := .later }
def ScanDeletesCardSaid : Prop := Claim7.holds Tryz.pinned (.plain (OpenSpec.ofChange scanDeletesSpec)) scanDeletesCard

/-- THE SECOND FORM's CARD OF 'deedboxlaw3.ScanPrunes'. -/
def scanPrunesUptoCard : Claim7 := { stood := { row := scanPrunesUptoRow, standIns := [], harness := (true, "fc842dcb2b674fc3ba42a1bdb5d5792eb9af872c7a5c23ef49bcf4c803a5fc01"), looks := true }, kinds := [], alts := [], laidByText := true, laidKinds := [.data, .data, .data, .data, .handle, .sentinel, .sentinel, .sentinel, .sentinel, .sentinel, .sentinel, .sentinel, .sentinel, .sentinel, .sentinel, .sentinel, .sentinel, .sentinel, .pinned], laidTests := true, laidLooks := .later }
def ScanPrunesUptoCardSaid : Prop := Claim7.holds Tryz.pinned (.plain (OpenSpec.upto scanPrunesSpec)) scanPrunesUptoCard

/-- THE SECOND FORM's CARD OF 'deedboxlaw3.ScanTells'. -/
def scanTellsUptoCard : Claim7 := { stood := { row := scanTellsUptoRow, standIns := [], harness := (true, "fc842dcb2b674fc3ba42a1bdb5d5792eb9af872c7a5c23ef49bcf4c803a5fc01"), looks := true }, kinds := [], alts := [], laidByText := true, laidKinds := [.data, .data, .data, .data, .handle, .sentinel, .sentinel, .sentinel, .sentinel, .sentinel, .sentinel, .sentinel, .sentinel, .sentinel, .sentinel, .sentinel, .sentinel, .sentinel, .sentinel, .pinned], laidTests := true, laidLooks := .later }
def ScanTellsUptoCardSaid : Prop := Claim7.holds Tryz.pinned (.plain (OpenSpec.upto scanTellsSpec)) scanTellsUptoCard

/-- THE SECOND FORM's CARD OF 'deedboxlaw3.ScanDeletes'. -/
def scanDeletesUptoCard : Claim7 := { stood := { row := scanDeletesUptoRow, standIns := [], harness := (true, "fc842dcb2b674fc3ba42a1bdb5d5792eb9af872c7a5c23ef49bcf4c803a5fc01"), looks := true }, kinds := [], alts := [], laidByText := true, laidKinds := [.data, .data, .data, .data, .handle, .sentinel, .sentinel, .sentinel, .sentinel, .sentinel, .sentinel, .sentinel, .sentinel, .sentinel, .sentinel, .sentinel, .sentinel, .sentinel, .pinned], laidTests := true, laidLooks := .later }
def ScanDeletesUptoCardSaid : Prop := Claim7.holds Tryz.pinned (.plain (OpenSpec.upto scanDeletesSpec)) scanDeletesUptoCard
end Rows
end Go.Proofs.YtdhkdjlgmbejnaaGreatDoor
