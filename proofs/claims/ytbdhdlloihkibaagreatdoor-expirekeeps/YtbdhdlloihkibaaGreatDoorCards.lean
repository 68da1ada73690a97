/-
  DERIVED. GIVEN WITH THE SEED: THE CARDS: each row of YtbdhdlloihkibaaGreatDoorRows.lean that lists a variable, with what it lists TIED to the program's text (the seventh form; the later family's looks); each row that meets fmt, with fmt's text TOLD by the authors' own Lean function (tested against real Go, not proved from fmt's source: count such statements apart). THE CARD IS WHAT COUNTS. Prove the row's statement (the work); the ties are given (YtbdhdlloihkibaaGreatDoorTie.lean); close each card by the builder's one call (the guide's Derived/Test/ToyasCard.lean, 'card_holds'). Laid BY PROGRAM, IN A SANDBOX (cutbox-door.mjs). By AI agents, Wed Nov 11 2026. No macro, syntax, notation, axiom, sorry.
-/
import Derived.Test.YtbdhdlloihkibaaGreatDoorRows
import GoSem.ClaimSeven
namespace Go.Proofs.YtbdhdlloihkibaaGreatDoor
namespace Rows

/-- THE TIED CARD OF 'deedboxlaw3.ExpireTells'. -/
def expireTellsCard : Claim7 := { stood := { row := expireTellsRow, standIns := [], harness := (true, "b17bde560f39c97a9bef4e5532c612efff3608011415b0c89095c62d3e40a1ab"), looks := true }, kinds := [], alts := [], laidByText := true, laidKinds := [.data, .data, .data, .data, .handle, .sentinel, .sentinel, .sentinel, .sentinel, .sentinel, .sentinel, .sentinel, .sentinel, .sentinel, .sentinel, .sentinel, .sentinel, .pinned], laidTests := true, laidLooks := .later }
def ExpireTellsCardSaid : Prop := Claim7.holds Tryz.pinned (.plain (OpenSpec.ofChange expireTellsSpec)) expireTellsCard

/-- THE TIED CARD OF 'deedboxlaw3.ExpireKeeps'. -/
def expireKeepsCard : Claim7 := { stood := { row := expireKeepsRow, standIns := [], harness := (true, "b17bde560f39c97a9bef4e5532c612efff3608011415b0c89095c62d3e40a1ab"), looks := true }, kinds := [], alts := [], laidByText := true, laidKinds := [.data, .data, .data, .data, .handle, .sentinel, .sentinel, .sentinel, .sentinel, .sentinel, .sentinel, .sentinel, .sentinel, .sentinel, .sentinel, .sentinel, .sentinel, .pinned], laidTests := true, laidLooks := .later }
def ExpireKeepsCardSaid : Prop := Claim7.holds Tryz.pinned (.plain (OpenSpec.ofChange expireKeepsSpec)) expireKeepsCard

/-- THE SECOND FORM's CARD OF 'deedboxlaw3.ExpireTells'. -/
def expireTellsUptoCard : Claim7 := { stood := { row := expireTellsUptoRow, standIns := [], harness := (true, "b17bde560f39c97a9bef4e5532c612efff3608011415b0c89095c62d3e40a1ab"), looks := true }, kinds := [], alts := [], laidByText := true, laidKinds := [.data, .data, .data, .data, .handle, .sentinel, .sentinel, .sentinel, .sentinel, .sentinel, .sentinel, .sentinel, .sentinel, .sentinel, .sentinel, .sentinel, .sentinel, .pinned], laidTests := true, laidLooks := .later }
def ExpireTellsUptoCardSaid : Prop := Claim7.holds Tryz.pinned (.plain (OpenSpec.upto expireTellsSpec)) expireTellsUptoCard

/-- THE SECOND FORM's CARD OF 'deedboxlaw3.ExpireKeeps'. -/
def expireKeepsUptoCard : Claim7 := { stood := { row := expireKeepsUptoRow, standIns := [], harness := (true, "b17bde560f39c97a9bef4e5532c612efff3608011415b0c89095c62d3e40a1ab"), looks := true }, kinds := [], alts := [], laidByText := true, laidKinds := [.data, .data, .data, .data, .handle, .sentinel, .sentinel, .sentinel, .sentinel, .sentinel, .sentinel, .sentinel, .sentinel, .sentinel, .sentinel, .sentinel, .sentinel, .pinned], laidTests := true, laidLooks := .later }
def ExpireKeepsUptoCardSaid : Prop := Claim7.holds Tryz.pinned (.plain (OpenSpec.upto expireKeepsSpec)) expireKeepsUptoCard
end Rows
end Go.Proofs.YtbdhdlloihkibaaGreatDoor
