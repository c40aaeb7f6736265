/- Whatever is taken, given back, written, committed, and taken back, which pages are in use, and what they have, is the document's: for every list of acts the function PagerPlays of the package concordancelaw returns true, and leaves the list as it was. The package variable errors.errorType starts as the program's text lays it, and the card ties it. The seat is set up under a lid of 48,000 MB (the word MEM): two tuples of the pager with arrays of 2,000 cells want some 34,000 MB in the set-up's check of types; no text of the claim itself wants more than 10,240. -/
import Derived.Test.YtjnjjpdgifnnpaaGreatDoorM12
namespace Go.Proofs.YtjnjjpdgifnnpaaGreatDoor
theorem plays_card : Rows.PagerPlaysCardSaid := plays_card_of plays_walk
#print axioms plays_card
end Go.Proofs.YtjnjjpdgifnnpaaGreatDoor
