/- By an AI agent. -/
import Derived.Test.YtcllhobffhkafaaGreatDoorRows
import Derived.JoinedOf
import Derived.Test.YtcllhobffhkafaaGreatDoorCards
import Derived.SevenTiedAt
set_option maxRecDepth 100000
set_option maxHeartbeats 16000000
open Go.Proofs.Tryz
namespace Go.Proofs.YtcllhobffhkafaaGreatDoor
open Go
theorem zg4:Tryz.prog.inPlace 4=Rows.lakeKeepsRow.inPlace:=by kernel_rfl
theorem bO:Tryz.prog.unfollowed 4=true:=by kernel_rfl
theorem zg5:Tryz.prog.recurses 4=true:=by unfold Program.recurses;rw[bO];rfl
theorem zg6:Tryz.prog.varsNamed 4=Rows.lakeKeepsRow.named:=by kernel_rfl
theorem zg7:joinedFacts prog 4 f4 Rows.lakeKeepsSpec Rows.lakeKeepsRow=true:=by
 unfold joinedFacts;rw[zg4,bO,zg5,zg6];kernel_rfl
theorem zg8:Rows.lakeKeepsRow.wfByText (OpenSpec.ofChange Rows.lakeKeepsSpec)=true:=by kernel_rfl
theorem zg9:Tryz.pinned.checked.prog.mainIs=some (Rows.lakeKeepsCard.stood.harness.1,Rows.lakeKeepsCard.stood.harness.2.toList):=by kernel_rfl
theorem zh0:false=Rows.lakeKeepsRow.goesBy Tryz.pinned.checked.prog:=by kernel_rfl
theorem zh1 : Tryz.prog.funcNamed "deedbox/deedboxlaw3.LakeKeeps" = some 4 := by kernel_rfl
theorem zh2:Tryz.f4.params= #[9,22]:=by kernel_rfl
end Go.Proofs.YtcllhobffhkafaaGreatDoor
