/- By an AI agent. -/
import Derived.Test.YtcllhobffhkafaaGreatDoorRows
import Derived.Test.YtcllhobffhkafaaGreatDoorCards
import Derived.JoinedOf
import Derived.SevenTiedAt
import Derived.ProofKit
set_option maxRecDepth 100000
set_option maxHeartbeats 16000000
namespace Go.Proofs.YtcllhobffhkafaaGreatDoor
open Go
theorem za2:Tryz.prog.inPlace 5=Rows.lakeOnceRow.inPlace:=by kernel_rfl
theorem WQ:Tryz.prog.unfollowed 5=true:=by kernel_rfl
theorem za3:Tryz.prog.recurses 5=true:=by unfold Program.recurses;rw[WQ];rfl
theorem za4:Tryz.prog.varsNamed 5=Rows.lakeOnceRow.named:=by kernel_rfl
theorem za5:joinedFacts Tryz.prog 5 Tryz.f5 Rows.lakeOnceSpec Rows.lakeOnceRow=true:=by
 unfold joinedFacts;rw[za2,WQ,za3,za4];kernel_rfl
theorem za6:Rows.lakeOnceRow.wfByText (OpenSpec.ofChange Rows.lakeOnceSpec)=true:=by kernel_rfl
theorem za7:Tryz.pinned.checked.prog.mainIs=some (Rows.lakeOnceCard.stood.harness.1,Rows.lakeOnceCard.stood.harness.2.toList):=by kernel_rfl
theorem za8:false=Rows.lakeOnceRow.goesBy Tryz.pinned.checked.prog:=by kernel_rfl
theorem za9 : Tryz.prog.funcNamed "deedbox/deedboxlaw3.LakeOnce" =some 5 := by kernel_rfl
theorem zb0:Tryz.f5.params= #[9,22,3,35,32]:=by kernel_rfl
end Go.Proofs.YtcllhobffhkafaaGreatDoor
