/- The finder, note for note: for every list of notes, every two texts and every number the function FinderPlays of the package concordancelaw returns true, and leaves the list as it was. The package variables errors.errorType and word.ends start as the program's text lays them, and the card ties them; of internal/bytealg.MaxLen the claim speaks for every value. The seat is set up under a lid of 40,000 MB (the word MEM), one law alone (the word GROUP): tuples of the pager with arrays of 2,000 cells want it in the set-up's check of types; no text of the claim itself wants more than 10,240. -/
import Derived.Test.YtabcficlnhajeaaGreatDoorF41
namespace Go.Proofs.YtabcficlnhajeaaGreatDoor
open Go.RowKit

set_option maxRecDepth 100000 in
set_option maxHeartbeats 2000000 in
theorem plays_walk : Walk3 := by
  intro w n0 c0 a0 nt name wd fill hx hg
  by_cases h0 : n0 ≤ 50
  · by_cases h1 : name.size ≤ 40
    · by_cases h2 : wd.size ≤ 40
      · exact plays_main w n0 c0 a0 nt name wd fill hx h0 h1 h2 hg
      · have e0 : ¬ (50 : Int) < (n0 : Int) := by omega
        have e1 : ¬ (40 : Int) < (name.size : Int) := by omega
        have e2 : (40 : Int) < (wd.size : Int) := by omega
        clear h0 h1 h2
        go_enter Tryz.func3, Tryz.ntmps3
        go_wp2
        go_ret
        exact ⟨rfl, Below.refl _ _⟩
    · have e0 : ¬ (50 : Int) < (n0 : Int) := by omega
      have e1 : (40 : Int) < (name.size : Int) := by omega
      clear h0 h1
      go_enter Tryz.func3, Tryz.ntmps3
      go_wp2
      go_ret
      exact ⟨rfl, Below.refl _ _⟩
  · have e0 : (50 : Int) < (n0 : Int) := by omega
    clear h0
    go_enter Tryz.func3, Tryz.ntmps3
    go_wp2
    go_ret
    exact ⟨rfl, Below.refl _ _⟩
theorem finderplays_card : Rows.FinderPlaysCardSaid := plays_card_of plays_walk
#print axioms finderplays_card
end Go.Proofs.YtabcficlnhajeaaGreatDoor
