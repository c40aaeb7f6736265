/- Part 8 of 29. -/
import Derived.Test.YtbdcbaamjkjhaaaGreatDoorK07
namespace Go.Proofs.YtbdcbaamjkjhaaaGreatDoor
open Go.RowKit

/-- things with a comma between them -/
def lstT (F : Nat → List UInt8) : Nat → List UInt8
  | 0 => []
  | k + 1 => lstT F k ++ ((if 0 < k then [44, 32] else []) ++ F k)
end Go.Proofs.YtbdcbaamjkjhaaaGreatDoor
