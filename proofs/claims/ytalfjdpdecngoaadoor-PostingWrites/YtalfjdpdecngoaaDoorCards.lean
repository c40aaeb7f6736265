/-
  DERIVED. GIVEN WITH THE SEED: THE CARDS: each row of YtalfjdpdecngoaaDoorRows.lean that lists a variable, with what it lists TIED to the program's text (the seventh form; the later family's looks); each row that meets fmt, with fmt's text TOLD by the authors' own Lean function (tested against real Go, not proved from fmt's source: count such statements apart). THE CARD IS WHAT COUNTS. Prove the row's statement (the work); the ties are given (YtalfjdpdecngoaaDoorTie.lean); close each card by the builder's one call (the guide's Derived/Test/ToyasCard.lean, 'card_holds'). Laid BY PROGRAM, IN A SANDBOX (cutbox-door.mjs). By AI agents, Wed Nov 11 2026. No macro, syntax, notation, axiom, sorry.
-/
import Derived.Test.YtalfjdpdecngoaaDoorRows
import GoSem.ClaimSeven
namespace Go.Proofs.YtalfjdpdecngoaaDoor
namespace Rows

/-- THE TIED CARD OF 'concordancelaw.WordSplits'. -/
def wordSplitsCard : Claim7 := { stood := { row := wordSplitsRow, standIns := [], harness := (true, "337883e674e1010f6d1dd2d57c601643f3533cc9c68d9b0f3f21148645c0f577"), looks := true }, kinds := [], alts := [], laidByText := true, laidKinds := [.data], laidTests := true, laidLooks := .later }
def WordSplitsCardSaid : Prop := Claim7.holds Tryd.pinned (.plain (OpenSpec.ofChange wordSplitsSpec)) wordSplitsCard

/-- THE TIED CARD OF 'concordancekeep.WordsPart'. -/
def wordsPartCard : Claim7 := { stood := { row := wordsPartRow, standIns := [], harness := (true, "337883e674e1010f6d1dd2d57c601643f3533cc9c68d9b0f3f21148645c0f577"), looks := true }, kinds := [], alts := [], laidByText := true, laidKinds := [.data], laidTests := true, laidLooks := .later }
def WordsPartCardSaid : Prop := Claim7.holds Tryd.pinned (.plain (OpenSpec.ofChange wordsPartSpec)) wordsPartCard

/-- THE TIED CARD OF 'concordancelaw.PostingWrites'. -/
def postingWritesCard : Claim7 := { stood := { row := postingWritesRow, standIns := [], harness := (true, "337883e674e1010f6d1dd2d57c601643f3533cc9c68d9b0f3f21148645c0f577"), looks := true }, kinds := [], alts := [], laidByText := true, laidKinds := [.handle], laidTests := true, laidLooks := .later }
def PostingWritesCardSaid : Prop := Claim7.holds Tryd.pinned (.plain (OpenSpec.ofChange postingWritesSpec)) postingWritesCard

/-- THE SECOND FORM's CARD OF 'concordancelaw.WordSplits'. -/
def wordSplitsUptoCard : Claim7 := { stood := { row := wordSplitsUptoRow, standIns := [], harness := (true, "337883e674e1010f6d1dd2d57c601643f3533cc9c68d9b0f3f21148645c0f577"), looks := true }, kinds := [], alts := [], laidByText := true, laidKinds := [.data], laidTests := true, laidLooks := .later }
def WordSplitsUptoCardSaid : Prop := Claim7.holds Tryd.pinned (.plain (OpenSpec.upto wordSplitsSpec)) wordSplitsUptoCard

/-- THE SECOND FORM's CARD OF 'concordancekeep.WordsPart'. -/
def wordsPartUptoCard : Claim7 := { stood := { row := wordsPartUptoRow, standIns := [], harness := (true, "337883e674e1010f6d1dd2d57c601643f3533cc9c68d9b0f3f21148645c0f577"), looks := true }, kinds := [], alts := [], laidByText := true, laidKinds := [.data], laidTests := true, laidLooks := .later }
def WordsPartUptoCardSaid : Prop := Claim7.holds Tryd.pinned (.plain (OpenSpec.upto wordsPartSpec)) wordsPartUptoCard

/-- THE SECOND FORM's CARD OF 'concordancelaw.PostingWrites'. -/
def postingWritesUptoCard : Claim7 := { stood := { row := postingWritesUptoRow, standIns := [], harness := (true, "337883e674e1010f6d1dd2d57c601643f3533cc9c68d9b0f3f21148645c0f577"), looks := true }, kinds := [], alts := [], laidByText := true, laidKinds := [.handle], laidTests := true, laidLooks := .later }
def PostingWritesUptoCardSaid : Prop := Claim7.holds Tryd.pinned (.plain (OpenSpec.upto postingWritesSpec)) postingWritesUptoCard
end Rows
end Go.Proofs.YtalfjdpdecngoaaDoor
