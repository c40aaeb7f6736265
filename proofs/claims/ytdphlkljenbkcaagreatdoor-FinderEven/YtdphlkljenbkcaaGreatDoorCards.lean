/-
  DERIVED. GIVEN WITH THE SEED: THE CARDS: each row of YtdphlkljenbkcaaGreatDoorRows.lean that lists a variable, with what it lists TIED to the program's text (the seventh form; the later family's looks); each row that meets fmt, with fmt's text TOLD by the authors' own Lean function (tested against real Go, not proved from fmt's source: count such statements apart). THE CARD IS WHAT COUNTS. Prove the row's statement (the work); the ties are given (YtdphlkljenbkcaaGreatDoorTie.lean); close each card by the builder's one call (the guide's Derived/Test/ToyasCard.lean, 'card_holds'). Laid BY PROGRAM, IN A SANDBOX (cutbox-door.mjs). By AI agents, Wed Nov 11 2026. No macro, syntax, notation, axiom, sorry.
-/
import Derived.Test.YtdphlkljenbkcaaGreatDoorRows
import GoSem.ClaimSeven
namespace Go.Proofs.YtdphlkljenbkcaaGreatDoor
namespace Rows

/-- THE TIED CARD OF 'concordancekeep.FinderEven'. -/
def finderEvenCard : Claim7 := { stood := { row := finderEvenRow, standIns := [], harness := (true, "ae18de3df0aea4efa177e4d505ec1e14196ad6bb796ff6b0fafe3e9e8b79aa91"), looks := true }, kinds := [], alts := [], laidByText := true, laidKinds := [.handle, .data], laidTests := true, laidLooks := .later }
def FinderEvenCardSaid : Prop := Claim7.holds Tryz.pinned (.plain (OpenSpec.ofChange finderEvenSpec)) finderEvenCard

/-- THE SECOND FORM's CARD OF 'concordancekeep.FinderEven'. -/
def finderEvenUptoCard : Claim7 := { stood := { row := finderEvenUptoRow, standIns := [], harness := (true, "ae18de3df0aea4efa177e4d505ec1e14196ad6bb796ff6b0fafe3e9e8b79aa91"), looks := true }, kinds := [], alts := [], laidByText := true, laidKinds := [.handle, .data], laidTests := true, laidLooks := .later }
def FinderEvenUptoCardSaid : Prop := Claim7.holds Tryz.pinned (.plain (OpenSpec.upto finderEvenSpec)) finderEvenUptoCard
end Rows
end Go.Proofs.YtdphlkljenbkcaaGreatDoor
