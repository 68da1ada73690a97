/-
  DERIVED. GIVEN WITH THE SEED: THE CARDS: each row of YtcllhobffhkafaaGreatDoorRows.lean that lists a variable, with what it lists TIED to the program's text (the seventh form; the later family's looks); each row that meets fmt, with fmt's text TOLD by the authors' own Lean function (tested against real Go, not proved from fmt's source: count such statements apart). THE CARD IS WHAT COUNTS. Prove the row's statement (the work); the ties are given (YtcllhobffhkafaaGreatDoorTie.lean); close each card by the builder's one call (the guide's Derived/Test/ToyasCard.lean, 'card_holds'). Laid BY PROGRAM, IN A SANDBOX (cutbox-door.mjs). By AI agents, Wed Nov 11 2026. No macro, syntax, notation, axiom, sorry.
-/
import Derived.Test.YtcllhobffhkafaaGreatDoorRows
import GoSem.ClaimSeven
namespace Go.Proofs.YtcllhobffhkafaaGreatDoor
namespace Rows

/-- THE TIED CARD OF 'deedboxlaw3.LakeTravels'. -/
def lakeTravelsCard : Claim7 := { stood := { row := lakeTravelsRow, standIns := [], harness := (true, "4ca62285ebc9065af9d8dbff17fafad981c1d432c38819b9845c31f34aaf238d"), looks := true }, kinds := [], alts := [], laidByText := true, laidKinds := [.data, .data, .data, .data, .handle, .sentinel, .sentinel, .sentinel, .sentinel, .sentinel, .sentinel, .sentinel, .sentinel, .sentinel, .sentinel, .sentinel, .sentinel, .sentinel, .sentinel, .pinned], laidTests := true, laidLooks := .later }
def LakeTravelsCardSaid : Prop := Claim7.holds Tryz.pinned (.plain (OpenSpec.ofChange lakeTravelsSpec)) lakeTravelsCard

/-- THE TIED CARD OF 'deedboxlaw3.LakeKeeps'. -/
def lakeKeepsCard : Claim7 := { stood := { row := lakeKeepsRow, standIns := [], harness := (true, "4ca62285ebc9065af9d8dbff17fafad981c1d432c38819b9845c31f34aaf238d"), looks := true }, kinds := [], alts := [], laidByText := true, laidKinds := [.data, .data, .data, .data, .handle, .sentinel, .sentinel, .sentinel, .sentinel, .sentinel, .sentinel, .sentinel, .sentinel, .sentinel, .sentinel, .sentinel, .sentinel, .sentinel, .sentinel, .pinned], laidTests := true, laidLooks := .later }
def LakeKeepsCardSaid : Prop := Claim7.holds Tryz.pinned (.plain (OpenSpec.ofChange lakeKeepsSpec)) lakeKeepsCard

/-- THE TIED CARD OF 'deedboxlaw3.LakeOnce'. -/
def lakeOnceCard : Claim7 := { stood := { row := lakeOnceRow, standIns := [], harness := (true, "4ca62285ebc9065af9d8dbff17fafad981c1d432c38819b9845c31f34aaf238d"), looks := true }, kinds := [], alts := [], laidByText := true, laidKinds := [.data, .data, .data, .data, .handle, .sentinel, .sentinel, .sentinel, .sentinel, .sentinel, .sentinel, .sentinel, .sentinel, .sentinel, .sentinel, .sentinel, .sentinel, .sentinel, .sentinel, .pinned], laidTests := true, laidLooks := .later }
def LakeOnceCardSaid : Prop := Claim7.holds Tryz.pinned (.plain (OpenSpec.ofChange lakeOnceSpec)) lakeOnceCard

/-- THE SECOND FORM's CARD OF 'deedboxlaw3.LakeTravels'. -/
def lakeTravelsUptoCard : Claim7 := { stood := { row := lakeTravelsUptoRow, standIns := [], harness := (true, "4ca62285ebc9065af9d8dbff17fafad981c1d432c38819b9845c31f34aaf238d"), looks := true }, kinds := [], alts := [], laidByText := true, laidKinds := [.data, .data, .data, .data, .handle, .sentinel, .sentinel, .sentinel, .sentinel, .sentinel, .sentinel, .sentinel, .sentinel, .sentinel, .sentinel, .sentinel, .sentinel, .sentinel, .sentinel, .pinned], laidTests := true, laidLooks := .later }
def LakeTravelsUptoCardSaid : Prop := Claim7.holds Tryz.pinned (.plain (OpenSpec.upto lakeTravelsSpec)) lakeTravelsUptoCard

/-- THE SECOND FORM's CARD OF 'deedboxlaw3.LakeKeeps'. -/
def lakeKeepsUptoCard : Claim7 := { stood := { row := lakeKeepsUptoRow, standIns := [], harness := (true, "4ca62285ebc9065af9d8dbff17fafad981c1d432c38819b9845c31f34aaf238d"), looks := true }, kinds := [], alts := [], laidByText := true, laidKinds := [.data, .data, .data, .data, .handle, .sentinel, .sentinel, .sentinel, .sentinel, .sentinel, .sentinel, .sentinel, .sentinel, .sentinel, .sentinel, .sentinel, .sentinel, .sentinel, .sentinel, .pinned], laidTests := true, laidLooks := .later }
def LakeKeepsUptoCardSaid : Prop := Claim7.holds Tryz.pinned (.plain (OpenSpec.upto lakeKeepsSpec)) lakeKeepsUptoCard

/-- THE SECOND FORM's CARD OF 'deedboxlaw3.LakeOnce'. -/
def lakeOnceUptoCard : Claim7 := { stood := { row := lakeOnceUptoRow, standIns := [], harness := (true, "4ca62285ebc9065af9d8dbff17fafad981c1d432c38819b9845c31f34aaf238d"), looks := true }, kinds := [], alts := [], laidByText := true, laidKinds := [.data, .data, .data, .data, .handle, .sentinel, .sentinel, .sentinel, .sentinel, .sentinel, .sentinel, .sentinel, .sentinel, .sentinel, .sentinel, .sentinel, .sentinel, .sentinel, .sentinel, .pinned], laidTests := true, laidLooks := .later }
def LakeOnceUptoCardSaid : Prop := Claim7.holds Tryz.pinned (.plain (OpenSpec.upto lakeOnceSpec)) lakeOnceUptoCard
end Rows
end Go.Proofs.YtcllhobffhkafaaGreatDoor
