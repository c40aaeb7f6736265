/- MatchFinds: part 9. -/
import Derived.Shelf.Spec.SlicesInsertGrow
import Derived.Test.YtgfldnaahojnlaaGreatDoorProg
set_option maxRecDepth 100000
set_option maxHeartbeats 4000000
namespace Go.Proofs.YtgfldnaahojnlaaGreatDoor
end Go.Proofs.YtgfldnaahojnlaaGreatDoor
namespace Go.Proofs
open Go.Shelf
def Tryz.lays2n22_ren:Go.Shelf.Ren:=⟨fun|22=>181|29=>182|30=>183|36=>229|17=>255|n=>n,fun|24=>22|9=>9|3=>3|4=>4|0=>0|n=>n,fun|n=>n⟩
theorem Tryz.lays2n22:Go.Proofs.Lays2.n22 Tryz.prog Tryz.lays2n22_ren:={
 mixed:=by kernel_rfl
 f17:=Tryz.func255.trans (congrArg some (by kernel_rfl))
 f22:=Tryz.func181.trans (congrArg some (by kernel_rfl))
 f29:=Tryz.func182.trans (congrArg some (by kernel_rfl))
 f30:=Tryz.func183.trans (congrArg some (by kernel_rfl))
 f36:=Tryz.func229.trans (congrArg some (by kernel_rfl))
 t0:=Tryz.underlying0
 a0:=Tryz.isAgg0
 z0:=Tryz.sizeOf0
 v0:=Tryz.zeroValue0
 t3:=Tryz.underlying3
 a3:=Tryz.isAgg3
 z3:=Tryz.sizeOf3
 v3:=Tryz.zeroValue3
 t4:=Tryz.underlying4
 a4:=Tryz.isAgg4
 z4:=Tryz.sizeOf4
 v4:=Tryz.zeroValue4
 t9:=Tryz.underlying9
 a9:=Tryz.isAgg9
 z9:=Tryz.sizeOf9
 v9:=Tryz.zeroValue9
 t24:=Tryz.underlying22
 a24:=Tryz.isAgg22
 z24:=Tryz.sizeOf22
 v24:=Tryz.zeroValue22
 i9:=by kernel_rfl}
end Go.Proofs
namespace Go.Proofs.YtgfldnaahojnlaaGreatDoor
end Go.Proofs.YtgfldnaahojnlaaGreatDoor
