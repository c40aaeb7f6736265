/- Whatever is put, and taken out, what stands where, and all that does, in order, is the document's: for every list of steps and every two numbers the function TreePlays of the package concordancelaw returns true, and leaves the list as it was. The package variable errors.errorType starts as the program's text lays it, and the card ties it. The seat is set up under a lid of 40,000 MB (the word MEM), a law alone (the word GROUP): two tuples of the pager with arrays of 2,000 cells want some 24,000 to 34,000 MB in the set-up's check of types; no text of the claim itself wants more than 10,240. -/
import Derived.Test.YtndoigopjlkimaaGreatDoorP19
namespace Go.Proofs.YtndoigopjlkimaaGreatDoor
theorem treeplays_card : Rows.TreePlaysCardSaid := plays_card_of plays_walk
#print axioms treeplays_card
end Go.Proofs.YtndoigopjlkimaaGreatDoor
