/- By an AI agent. -/
import Derived.Test.YtcllhobffhkafaaGreatDoorRows
import Derived.JoinedOf
import Derived.Test.YtcllhobffhkafaaGreatDoorCards
import Derived.SevenTiedAt
set_option maxRecDepth 100000
set_option maxHeartbeats 16000000
open Go.Proofs.Tryz
namespace Go.Proofs.YtcllhobffhkafaaGreatDoor
open Go
theorem zj7:Tryz.prog.inPlace 3=Rows.lakeTravelsRow.inPlace:=by kernel_rfl
theorem cI:Tryz.prog.unfollowed 3=true:=by kernel_rfl
theorem zj8:Tryz.prog.recurses 3=true:=by unfold Program.recurses;rw[cI];rfl
theorem zj9:Tryz.prog.varsNamed 3=Rows.lakeTravelsRow.named:=by kernel_rfl
theorem zk0:joinedFacts prog 3 f3 Rows.lakeTravelsSpec Rows.lakeTravelsRow=true:=by
 unfold joinedFacts;rw[zj7,cI,zj8,zj9];kernel_rfl
theorem zk1:Rows.lakeTravelsRow.wfByText (OpenSpec.ofChange Rows.lakeTravelsSpec)=true:=by kernel_rfl
theorem zk2:Tryz.pinned.checked.prog.mainIs=some (Rows.lakeTravelsCard.stood.harness.1,Rows.lakeTravelsCard.stood.harness.2.toList):=by kernel_rfl
theorem zk3:false=Rows.lakeTravelsRow.goesBy Tryz.pinned.checked.prog:=by kernel_rfl
theorem zk4 : Tryz.prog.funcNamed "deedbox/deedboxlaw3.LakeTravels" = some 3 := by kernel_rfl
theorem zk5:Tryz.f3.params= #[9,22,3]:=by kernel_rfl
end Go.Proofs.YtcllhobffhkafaaGreatDoor
