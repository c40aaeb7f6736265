/- Texts of the proof of FinderPlays: Shi. -/
import Derived.Test.YtabcficlnhajeaaGreatDoorF10
import Derived.Shelf.Spec.SlicesInsertGrow
import Derived.Test.YtabcficlnhajeaaGreatDoorProg
namespace Go.Proofs
open Go.Shelf
def Tryz.lays2n22_ren : Go.Shelf.Ren := ⟨fun | 22 => 142 | 29 => 143 | 30 => 144 | 36 => 187 | 17 => 208 | n => n, fun | 24 => 59 | 9 => 9 | 3 => 3 | 4 => 4 | 0 => 0 | n => n, fun | n => n⟩
theorem Tryz.lays2n22 : Go.Proofs.Lays2.n22 Tryz.prog Tryz.lays2n22_ren := {
  mixed := by kernel_rfl
  f17 := Tryz.func208.trans (congrArg some (by kernel_rfl))
  f22 := Tryz.func142.trans (congrArg some (by kernel_rfl))
  f29 := Tryz.func143.trans (congrArg some (by kernel_rfl))
  f30 := Tryz.func144.trans (congrArg some (by kernel_rfl))
  f36 := Tryz.func187.trans (congrArg some (by kernel_rfl))
  t0 := Tryz.underlying0
  a0 := Tryz.isAgg0
  z0 := Tryz.sizeOf0
  v0 := Tryz.zeroValue0
  t3 := Tryz.underlying3
  a3 := Tryz.isAgg3
  z3 := Tryz.sizeOf3
  v3 := Tryz.zeroValue3
  t4 := Tryz.underlying4
  a4 := Tryz.isAgg4
  z4 := Tryz.sizeOf4
  v4 := Tryz.zeroValue4
  t9 := Tryz.underlying9
  a9 := Tryz.isAgg9
  z9 := Tryz.sizeOf9
  v9 := Tryz.zeroValue9
  t24 := Tryz.underlying59
  a24 := Tryz.isAgg59
  z24 := Tryz.sizeOf59
  v24 := Tryz.zeroValue59
  i9 := by kernel_rfl }
end Go.Proofs
