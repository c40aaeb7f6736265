/-
  DERIVED. GIVEN WITH THE SEED: THE CARDS: each row of YtjgdnainhoipgaaGreatDoorRows.lean that lists a variable, with what it lists TIED to the program's text (the seventh form; the later family's looks); each row that meets fmt, with fmt's text TOLD by the authors' own Lean function (tested against real Go, not proved from fmt's source: count such statements apart). THE CARD IS WHAT COUNTS. Prove the row's statement (the work); the ties are given (YtjgdnainhoipgaaGreatDoorTie.lean); close each card by the builder's one call (the guide's Derived/Test/ToyasCard.lean, 'card_holds'). Laid BY PROGRAM, IN A SANDBOX (cutbox-door.mjs). By AI agents, Wed Nov 11 2026. No macro, syntax, notation, axiom, sorry.
-/
import Derived.Test.YtjgdnainhoipgaaGreatDoorRows
import GoSem.ClaimSeven
namespace Go.Proofs.YtjgdnainhoipgaaGreatDoor
namespace Rows

/-- THE TIED CARD OF 'concordancekeep.MatchSets'. -/
def matchSetsCard : Claim7 := { stood := { row := matchSetsRow, standIns := [], harness := (true, "f98f59a4cb38fb72585c42ddd61edd54d72a0ff8fdcccde55b24af3336f87181"), looks := true }, kinds := [], alts := [], laidByText := true, laidKinds := [.data, .handle, .data, .pinned], laidTests := true, laidLooks := .later }
def MatchSetsCardSaid : Prop := Claim7.holds Tryz.pinned (.plain (OpenSpec.ofChange matchSetsSpec)) matchSetsCard

/-- THE SECOND FORM's CARD OF 'concordancekeep.MatchSets'. -/
def matchSetsUptoCard : Claim7 := { stood := { row := matchSetsUptoRow, standIns := [], harness := (true, "f98f59a4cb38fb72585c42ddd61edd54d72a0ff8fdcccde55b24af3336f87181"), looks := true }, kinds := [], alts := [], laidByText := true, laidKinds := [.data, .handle, .data, .pinned], laidTests := true, laidLooks := .later }
def MatchSetsUptoCardSaid : Prop := Claim7.holds Tryz.pinned (.plain (OpenSpec.upto matchSetsSpec)) matchSetsUptoCard
end Rows
end Go.Proofs.YtjgdnainhoipgaaGreatDoor
