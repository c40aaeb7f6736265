/-
  DERIVED. GIVEN WITH THE SEED: THE CARDS: each row of YtjnjjpdgifnnpaaGreatDoorRows.lean that lists a variable, with what it lists TIED to the program's text (the seventh form; the later family's looks); each row that meets fmt, with fmt's text TOLD by the authors' own Lean function (tested against real Go, not proved from fmt's source: count such statements apart). THE CARD IS WHAT COUNTS. Prove the row's statement (the work); the ties are given (YtjnjjpdgifnnpaaGreatDoorTie.lean); close each card by the builder's one call (the guide's Derived/Test/ToyasCard.lean, 'card_holds'). Laid BY PROGRAM, IN A SANDBOX (cutbox-door.mjs). By AI agents, Wed Nov 11 2026. No macro, syntax, notation, axiom, sorry.
-/
import Derived.Test.YtjnjjpdgifnnpaaGreatDoorRows
import GoSem.ClaimSeven
namespace Go.Proofs.YtjnjjpdgifnnpaaGreatDoor
namespace Rows

/-- THE TIED CARD OF 'concordancelaw.PagerPlays'. -/
def pagerPlaysCard : Claim7 := { stood := { row := pagerPlaysRow, standIns := [], harness := (true, "f95f570ff1a17adf3b76ffa69d7c34675fb5b923eff8a5bac7b84fddd799b1e1"), looks := true }, kinds := [], alts := [], laidByText := true, laidKinds := [.handle], laidTests := true, laidLooks := .later }
def PagerPlaysCardSaid : Prop := Claim7.holds Tryz.pinned (.plain (OpenSpec.ofChange pagerPlaysSpec)) pagerPlaysCard

/-- THE TIED CARD OF 'concordancekeep.PagerCrashes'. -/
def pagerCrashesCard : Claim7 := { stood := { row := pagerCrashesRow, standIns := [], harness := (true, "f95f570ff1a17adf3b76ffa69d7c34675fb5b923eff8a5bac7b84fddd799b1e1"), looks := true }, kinds := [], alts := [], laidByText := true, laidKinds := [.handle], laidTests := true, laidLooks := .later }
def PagerCrashesCardSaid : Prop := Claim7.holds Tryz.pinned (.plain (OpenSpec.ofChange pagerCrashesSpec)) pagerCrashesCard

/-- THE SECOND FORM's CARD OF 'concordancelaw.PagerPlays'. -/
def pagerPlaysUptoCard : Claim7 := { stood := { row := pagerPlaysUptoRow, standIns := [], harness := (true, "f95f570ff1a17adf3b76ffa69d7c34675fb5b923eff8a5bac7b84fddd799b1e1"), looks := true }, kinds := [], alts := [], laidByText := true, laidKinds := [.handle], laidTests := true, laidLooks := .later }
def PagerPlaysUptoCardSaid : Prop := Claim7.holds Tryz.pinned (.plain (OpenSpec.upto pagerPlaysSpec)) pagerPlaysUptoCard

/-- THE SECOND FORM's CARD OF 'concordancekeep.PagerCrashes'. -/
def pagerCrashesUptoCard : Claim7 := { stood := { row := pagerCrashesUptoRow, standIns := [], harness := (true, "f95f570ff1a17adf3b76ffa69d7c34675fb5b923eff8a5bac7b84fddd799b1e1"), looks := true }, kinds := [], alts := [], laidByText := true, laidKinds := [.handle], laidTests := true, laidLooks := .later }
def PagerCrashesUptoCardSaid : Prop := Claim7.holds Tryz.pinned (.plain (OpenSpec.upto pagerCrashesSpec)) pagerCrashesUptoCard
end Rows
end Go.Proofs.YtjnjjpdgifnnpaaGreatDoor
