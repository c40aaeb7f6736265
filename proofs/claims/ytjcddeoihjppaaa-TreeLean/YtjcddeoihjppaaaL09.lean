/- Texts of the proof of TreeLean: Shi. -/
import Derived.Test.YtjcddeoihjppaaaL08
import Derived.Shelf.Spec.SlicesInsertGrow
import Derived.Test.YtjcddeoihjppaaaProg
namespace Go.Proofs
open Go.Shelf
def Try.lays2n22_ren : Go.Shelf.Ren := ⟨fun | 22 => 89 | 29 => 109 | 30 => 110 | 36 => 119 | 17 => 131 | n => n, fun | 24 => 137 | 9 => 9 | 3 => 3 | 4 => 4 | 0 => 0 | n => n, fun | n => n⟩
theorem Try.lays2n22 : Go.Proofs.Lays2.n22 Try.prog Try.lays2n22_ren := {
  mixed := by kernel_rfl
  f17 := Try.func131.trans (congrArg some (by kernel_rfl))
  f22 := Try.func89.trans (congrArg some (by kernel_rfl))
  f29 := Try.func109.trans (congrArg some (by kernel_rfl))
  f30 := Try.func110.trans (congrArg some (by kernel_rfl))
  f36 := Try.func119.trans (congrArg some (by kernel_rfl))
  t0 := Try.underlying0
  a0 := Try.isAgg0
  z0 := Try.sizeOf0
  v0 := Try.zeroValue0
  t3 := Try.underlying3
  a3 := Try.isAgg3
  z3 := Try.sizeOf3
  v3 := Try.zeroValue3
  t4 := Try.underlying4
  a4 := Try.isAgg4
  z4 := Try.sizeOf4
  v4 := Try.zeroValue4
  t9 := Try.underlying9
  a9 := Try.isAgg9
  z9 := Try.sizeOf9
  v9 := Try.zeroValue9
  t24 := Try.underlying137
  a24 := Try.isAgg137
  z24 := Try.sizeOf137
  v24 := Try.zeroValue137
  i9 := by kernel_rfl }
end Go.Proofs
