/-
  DERIVED. GIVEN WITH THE SEED: THE CARDS: each row of YtjmdgdohepodmabGreatDoorRows.lean that lists a variable, with what it lists TIED to the program's text (the seventh form; the later family's looks); each row that meets fmt, with fmt's text TOLD by the authors' own Lean function (tested against real Go, not proved from fmt's source: count such statements apart). THE CARD IS WHAT COUNTS. Prove the row's statement (the work); the ties are given (YtjmdgdohepodmabGreatDoorTie.lean); close each card by the builder's one call (the guide's Derived/Test/ToyasCard.lean, 'card_holds'). Laid BY PROGRAM, IN A SANDBOX (cutbox-door.mjs). By AI agents, Wed Nov 11 2026. No macro, syntax, notation, axiom, sorry.
-/
import Derived.Test.YtjmdgdohepodmabGreatDoorRows
import GoSem.ClaimSeven
namespace Go.Proofs.YtjmdgdohepodmabGreatDoor
namespace Rows

/-- THE TIED CARD OF 'deedboxlaw1.DataTells'. -/
def dataTellsCard : Claim7 := { stood := { row := dataTellsRow, standIns := [], harness := (true, "7d6af8b712efa170d1e43bfa8c4a75e3b5d2b0d9388fe0ef21dc47029178fd1c"), looks := true }, kinds := [], alts := [], laidByText := true, laidKinds := [.data, .data, .data, .data, .handle, .sentinel, .sentinel, .sentinel, .sentinel, .sentinel, .sentinel, .sentinel, .sentinel, .sentinel, .sentinel, .sentinel, .sentinel, .sentinel, .sentinel, .pinned], laidTests := true, laidLooks := .later }
def DataTellsCardSaid : Prop := Claim7.holds Tryz.pinned (.plain (OpenSpec.ofChange dataTellsSpec)) dataTellsCard

/-- THE TIED CARD OF 'deedboxlaw1.GoneBack'. -/
def goneBackCard : Claim7 := { stood := { row := goneBackRow, standIns := [], harness := (true, "7d6af8b712efa170d1e43bfa8c4a75e3b5d2b0d9388fe0ef21dc47029178fd1c"), looks := true }, kinds := [], alts := [], laidByText := true, laidKinds := [.data, .data, .data, .data, .sentinel, .sentinel, .sentinel, .sentinel, .sentinel, .sentinel, .sentinel, .sentinel, .pinned], laidTests := true, laidLooks := .later }
def GoneBackCardSaid : Prop := Claim7.holds Tryz.pinned (.plain (OpenSpec.ofChange goneBackSpec)) goneBackCard

/-- THE TIED CARD OF 'deedboxlaw1.GoneTells'. -/
def goneTellsCard : Claim7 := { stood := { row := goneTellsRow, standIns := [], harness := (true, "7d6af8b712efa170d1e43bfa8c4a75e3b5d2b0d9388fe0ef21dc47029178fd1c"), looks := true }, kinds := [], alts := [], laidByText := true, laidKinds := [.data, .data, .data, .data, .handle, .sentinel, .sentinel, .sentinel, .sentinel, .sentinel, .sentinel, .sentinel, .sentinel, .sentinel, .sentinel, .sentinel, .sentinel, .sentinel, .sentinel, .pinned], laidTests := true, laidLooks := .later }
def GoneTellsCardSaid : Prop := Claim7.holds Tryz.pinned (.plain (OpenSpec.ofChange goneTellsSpec)) goneTellsCard

/-- THE SECOND FORM's CARD OF 'deedboxlaw1.DataTells'. -/
def dataTellsUptoCard : Claim7 := { stood := { row := dataTellsUptoRow, standIns := [], harness := (true, "7d6af8b712efa170d1e43bfa8c4a75e3b5d2b0d9388fe0ef21dc47029178fd1c"), looks := true }, kinds := [], alts := [], laidByText := true, laidKinds := [.data, .data, .data, .data, .handle, .sentinel, .sentinel, .sentinel, .sentinel, .sentinel, .sentinel, .sentinel, .sentinel, .sentinel, .sentinel, .sentinel, .sentinel, .sentinel, .sentinel, .pinned], laidTests := true, laidLooks := .later }
def DataTellsUptoCardSaid : Prop := Claim7.holds Tryz.pinned (.plain (OpenSpec.upto dataTellsSpec)) dataTellsUptoCard

/-- THE SECOND FORM's CARD OF 'deedboxlaw1.GoneBack'. -/
def goneBackUptoCard : Claim7 := { stood := { row := goneBackUptoRow, standIns := [], harness := (true, "7d6af8b712efa170d1e43bfa8c4a75e3b5d2b0d9388fe0ef21dc47029178fd1c"), looks := true }, kinds := [], alts := [], laidByText := true, laidKinds := [.data, .data, .data, .data, .sentinel, .sentinel, .sentinel, .sentinel, .sentinel, .sentinel, .sentinel, .sentinel, .pinned], laidTests := true, laidLooks := .later }
def GoneBackUptoCardSaid : Prop := Claim7.holds Tryz.pinned (.plain (OpenSpec.upto goneBackSpec)) goneBackUptoCard

/-- THE SECOND FORM's CARD OF 'deedboxlaw1.GoneTells'. -/
def goneTellsUptoCard : Claim7 := { stood := { row := goneTellsUptoRow, standIns := [], harness := (true, "7d6af8b712efa170d1e43bfa8c4a75e3b5d2b0d9388fe0ef21dc47029178fd1c"), looks := true }, kinds := [], alts := [], laidByText := true, laidKinds := [.data, .data, .data, .data, .handle, .sentinel, .sentinel, .sentinel, .sentinel, .sentinel, .sentinel, .sentinel, .sentinel, .sentinel, .sentinel, .sentinel, .sentinel, .sentinel, .sentinel, .pinned], laidTests := true, laidLooks := .later }
def GoneTellsUptoCardSaid : Prop := Claim7.holds Tryz.pinned (.plain (OpenSpec.upto goneTellsSpec)) goneTellsUptoCard
end Rows
end Go.Proofs.YtjmdgdohepodmabGreatDoor
