/-
  DERIVED. GIVEN WITH THE SEED: THE CARDS: each row of YtkbnbkhloajmbaaDoorRows.lean that lists a variable, with what it lists TIED to the program's text (the seventh form; the later family's looks); each row that meets fmt, with fmt's text TOLD by the authors' own Lean function (tested against real Go, not proved from fmt's source: count such statements apart). THE CARD IS WHAT COUNTS. Prove the row's statement (the work); the ties are given (YtkbnbkhloajmbaaDoorTie.lean); close each card by the builder's one call (the guide's Derived/Test/ToyasCard.lean, 'card_holds'). Laid BY PROGRAM, IN A SANDBOX (cutbox-door.mjs). By AI agents, Wed Nov 11 2026. No macro, syntax, notation, axiom, sorry.
-/
import Derived.Test.YtkbnbkhloajmbaaDoorRows
import GoSem.ClaimSeven
namespace Go.Proofs.YtkbnbkhloajmbaaDoor
namespace Rows

/-- THE TIED CARD OF 'concordancelaw.ValueWrites'. -/
def valueWritesCard : Claim7 := { stood := { row := valueWritesRow, standIns := [], harness := (true, "ae03b20d01393b9e4ff4a45ac982de28d8ee2d31414e6fd9a69803bd8fd341de"), looks := true }, kinds := [], alts := [], laidByText := true, laidKinds := [.handle, .data], laidTests := true, laidLooks := .later }
def ValueWritesCardSaid : Prop := Claim7.holds Tryd.pinned (.plain (OpenSpec.ofChange valueWritesSpec)) valueWritesCard

/-- THE SECOND FORM's CARD OF 'concordancelaw.ValueWrites'. -/
def valueWritesUptoCard : Claim7 := { stood := { row := valueWritesUptoRow, standIns := [], harness := (true, "ae03b20d01393b9e4ff4a45ac982de28d8ee2d31414e6fd9a69803bd8fd341de"), looks := true }, kinds := [], alts := [], laidByText := true, laidKinds := [.handle, .data], laidTests := true, laidLooks := .later }
def ValueWritesUptoCardSaid : Prop := Claim7.holds Tryd.pinned (.plain (OpenSpec.upto valueWritesSpec)) valueWritesUptoCard
end Rows
end Go.Proofs.YtkbnbkhloajmbaaDoor
