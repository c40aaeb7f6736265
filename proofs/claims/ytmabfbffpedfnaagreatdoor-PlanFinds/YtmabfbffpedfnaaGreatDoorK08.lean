/- Part 8 of 30. -/
import Derived.Test.YtmabfbffpedfnaaGreatDoorK07
namespace Go.Proofs.YtmabfbffpedfnaaGreatDoor
open Go.RowKit

/-- things with a comma between them -/
def lstT (F : Nat → List UInt8) : Nat → List UInt8
  | 0 => []
  | k + 1 => lstT F k ++ ((if 0 < k then [44, 32] else []) ++ F k)
end Go.Proofs.YtmabfbffpedfnaaGreatDoor
