/-
  DERIVED. GIVEN WITH THE SEED: THE CARDS: each row of YtbdcbaamjkjhaaaGreatDoorRows.lean that lists a variable, with what it lists TIED to the program's text (the seventh form; the later family's looks); each row that meets fmt, with fmt's text TOLD by the authors' own Lean function (tested against real Go, not proved from fmt's source: count such statements apart). THE CARD IS WHAT COUNTS. Prove the row's statement (the work); the ties are given (YtbdcbaamjkjhaaaGreatDoorTie.lean); close each card by the builder's one call (the guide's Derived/Test/ToyasCard.lean, 'card_holds'). Laid BY PROGRAM, IN A SANDBOX (cutbox-door.mjs). By AI agents, Wed Nov 11 2026. No macro, syntax, notation, axiom, sorry.
-/
import Derived.Test.YtbdcbaamjkjhaaaGreatDoorRows
import GoSem.ClaimSeven
namespace Go.Proofs.YtbdcbaamjkjhaaaGreatDoor
namespace Rows

/-- THE TIED CARD OF 'concordancekeep.ParseBack'. -/
def parseBackCard : Claim7 := { stood := { row := parseBackRow, standIns := [], harness := (true, "0beae392edbc17e07af28b88ee64f8df58b44ff2bb1ca1870828979a4abaa0b9"), looks := true }, kinds := [], alts := [], laidByText := true, laidKinds := [.data, .data, .data, .data, .sentinel, .sentinel, .data, .data, .data, .pinned], laidTests := true, laidLooks := .later }
def ParseBackCardSaid : Prop := Claim7.holds Tryz.pinned (.plain (OpenSpec.ofChange parseBackSpec)) parseBackCard

/-- THE TIED CARD OF 'concordancekeep.EvalThree'. -/
def evalThreeCard : Claim7 := { stood := { row := evalThreeRow, standIns := [], harness := (true, "0beae392edbc17e07af28b88ee64f8df58b44ff2bb1ca1870828979a4abaa0b9"), looks := true }, kinds := [], alts := [], laidByText := true, laidKinds := [.data, .data, .data, .data, .handle, .sentinel, .sentinel, .data, .data, .data, .data, .pinned], laidTests := true, laidLooks := .later }
def EvalThreeCardSaid : Prop := Claim7.holds Tryz.pinned (.plain (OpenSpec.ofChange evalThreeSpec)) evalThreeCard

/-- THE TIED CARD OF 'concordancekeep.EvalFolds'. -/
def evalFoldsCard : Claim7 := { stood := { row := evalFoldsRow, standIns := [], harness := (true, "0beae392edbc17e07af28b88ee64f8df58b44ff2bb1ca1870828979a4abaa0b9"), looks := true }, kinds := [], alts := [], laidByText := true, laidKinds := [.data, .data, .data, .data, .handle, .sentinel, .sentinel, .data, .data, .data, .data, .pinned], laidTests := true, laidLooks := .later }
def EvalFoldsCardSaid : Prop := Claim7.holds Tryz.pinned (.plain (OpenSpec.ofChange evalFoldsSpec)) evalFoldsCard

/-- THE SECOND FORM's CARD OF 'concordancekeep.ParseBack'. -/
def parseBackUptoCard : Claim7 := { stood := { row := parseBackUptoRow, standIns := [], harness := (true, "0beae392edbc17e07af28b88ee64f8df58b44ff2bb1ca1870828979a4abaa0b9"), looks := true }, kinds := [], alts := [], laidByText := true, laidKinds := [.data, .data, .data, .data, .sentinel, .sentinel, .data, .data, .data, .pinned], laidTests := true, laidLooks := .later }
def ParseBackUptoCardSaid : Prop := Claim7.holds Tryz.pinned (.plain (OpenSpec.upto parseBackSpec)) parseBackUptoCard

/-- THE SECOND FORM's CARD OF 'concordancekeep.EvalThree'. -/
def evalThreeUptoCard : Claim7 := { stood := { row := evalThreeUptoRow, standIns := [], harness := (true, "0beae392edbc17e07af28b88ee64f8df58b44ff2bb1ca1870828979a4abaa0b9"), looks := true }, kinds := [], alts := [], laidByText := true, laidKinds := [.data, .data, .data, .data, .handle, .sentinel, .sentinel, .data, .data, .data, .data, .pinned], laidTests := true, laidLooks := .later }
def EvalThreeUptoCardSaid : Prop := Claim7.holds Tryz.pinned (.plain (OpenSpec.upto evalThreeSpec)) evalThreeUptoCard

/-- THE SECOND FORM's CARD OF 'concordancekeep.EvalFolds'. -/
def evalFoldsUptoCard : Claim7 := { stood := { row := evalFoldsUptoRow, standIns := [], harness := (true, "0beae392edbc17e07af28b88ee64f8df58b44ff2bb1ca1870828979a4abaa0b9"), looks := true }, kinds := [], alts := [], laidByText := true, laidKinds := [.data, .data, .data, .data, .handle, .sentinel, .sentinel, .data, .data, .data, .data, .pinned], laidTests := true, laidLooks := .later }
def EvalFoldsUptoCardSaid : Prop := Claim7.holds Tryz.pinned (.plain (OpenSpec.upto evalFoldsSpec)) evalFoldsUptoCard
end Rows
end Go.Proofs.YtbdcbaamjkjhaaaGreatDoor
