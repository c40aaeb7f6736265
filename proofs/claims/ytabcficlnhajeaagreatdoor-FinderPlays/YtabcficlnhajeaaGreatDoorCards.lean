/-
  DERIVED. GIVEN WITH THE SEED: THE CARDS: each row of YtabcficlnhajeaaGreatDoorRows.lean that lists a variable, with what it lists TIED to the program's text (the seventh form; the later family's looks); each row that meets fmt, with fmt's text TOLD by the authors' own Lean function (tested against real Go, not proved from fmt's source: count such statements apart). THE CARD IS WHAT COUNTS. Prove the row's statement (the work); the ties are given (YtabcficlnhajeaaGreatDoorTie.lean); close each card by the builder's one call (the guide's Derived/Test/ToyasCard.lean, 'card_holds'). Laid BY PROGRAM, IN A SANDBOX (cutbox-door.mjs). By AI agents, Wed Nov 11 2026. No macro, syntax, notation, axiom, sorry.
-/
import Derived.Test.YtabcficlnhajeaaGreatDoorRows
import GoSem.ClaimSeven
namespace Go.Proofs.YtabcficlnhajeaaGreatDoor
namespace Rows

/-- THE TIED CARD OF 'concordancelaw.FinderPlays'. -/
def finderPlaysCard : Claim7 := { stood := { row := finderPlaysRow, standIns := [], harness := (true, "7b68c8cb95b4bd8e04bafa5b2faf8937bf584ce63f11826d5e6adeb62ac16a7d"), looks := true }, kinds := [], alts := [], laidByText := true, laidKinds := [.handle, .data], laidTests := true, laidLooks := .later }
def FinderPlaysCardSaid : Prop := Claim7.holds Tryz.pinned (.plain (OpenSpec.ofChange finderPlaysSpec)) finderPlaysCard

/-- THE SECOND FORM's CARD OF 'concordancelaw.FinderPlays'. -/
def finderPlaysUptoCard : Claim7 := { stood := { row := finderPlaysUptoRow, standIns := [], harness := (true, "7b68c8cb95b4bd8e04bafa5b2faf8937bf584ce63f11826d5e6adeb62ac16a7d"), looks := true }, kinds := [], alts := [], laidByText := true, laidKinds := [.handle, .data], laidTests := true, laidLooks := .later }
def FinderPlaysUptoCardSaid : Prop := Claim7.holds Tryz.pinned (.plain (OpenSpec.upto finderPlaysSpec)) finderPlaysUptoCard
end Rows
end Go.Proofs.YtabcficlnhajeaaGreatDoor
