/- StoreFinds: part 10. -/
import Derived.Shelf.Spec.SlicesInsertGrow
import Derived.Test.YtihnldkgeelehaaGreatDoorProg
set_option maxRecDepth 100000
set_option maxHeartbeats 4000000
namespace Go.Proofs.YtihnldkgeelehaaGreatDoor
end Go.Proofs.YtihnldkgeelehaaGreatDoor
namespace Go.Proofs
open Go.Shelf
def Tryz.lays2n22_ren:Go.Shelf.Ren:=⟨fun|22=>206|29=>207|30=>208|36=>234|17=>253|n=>n,fun|24=>85|9=>9|3=>3|4=>4|0=>0|n=>n,fun|n=>n⟩
theorem Tryz.lays2n22:Go.Proofs.Lays2.n22 Tryz.prog Tryz.lays2n22_ren:={
 mixed:=by kernel_rfl
 f17:=Tryz.func253.trans (congrArg some (by kernel_rfl))
 f22:=Tryz.func206.trans (congrArg some (by kernel_rfl))
 f29:=Tryz.func207.trans (congrArg some (by kernel_rfl))
 f30:=Tryz.func208.trans (congrArg some (by kernel_rfl))
 f36:=Tryz.func234.trans (congrArg some (by kernel_rfl))
 t0:=Tryz.underlying0
 a0:=Tryz.isAgg0
 z0:=Tryz.sizeOf0
 v0:=Tryz.zeroValue0
 t3:=Tryz.underlying3
 a3:=Tryz.isAgg3
 z3:=Tryz.sizeOf3
 v3:=Tryz.zeroValue3
 t4:=Tryz.underlying4
 a4:=Tryz.isAgg4
 z4:=Tryz.sizeOf4
 v4:=Tryz.zeroValue4
 t9:=Tryz.underlying9
 a9:=Tryz.isAgg9
 z9:=Tryz.sizeOf9
 v9:=Tryz.zeroValue9
 t24:=Tryz.underlying85
 a24:=Tryz.isAgg85
 z24:=Tryz.sizeOf85
 v24:=Tryz.zeroValue85
 i9:=by kernel_rfl}
end Go.Proofs
namespace Go.Proofs.YtihnldkgeelehaaGreatDoor
end Go.Proofs.YtihnldkgeelehaaGreatDoor
