/- What came first makes no difference: for every list of texts, every list of numbers and every text the function FinderEven of the package concordancekeep returns true, and leaves the lists as they were. The package variables errors.errorType and word.ends start as the program's text lays them, and the card ties them; of internal/bytealg.MaxLen the claim speaks for every value. The seat is set up under a lid of 40,000 MB (the word MEM), one law alone (the word GROUP): tuples of the pager with arrays of 2,000 cells want it in the set-up's check of types; no text of the claim itself wants more than 10,240. -/
import Derived.Test.YtdphlkljenbkcaaGreatDoorF24
namespace Go.Proofs.YtdphlkljenbkcaaGreatDoor
open Go.RowKit

set_option maxRecDepth 100000 in
set_option maxHeartbeats 2000000 in
theorem even_walk : Walk3 := by
  intro w n0 c0 n1 c1 a0 a1 tx nm more hx hy hg
  by_cases h0 : n0 ≤ 20
  · by_cases h1 : n1 ≤ 40
    · by_cases h2 : more.size ≤ 40
      · exact even_main w n0 c0 n1 c1 a0 a1 tx nm more hx hy h0 h1 h2 hg
      · have e0 : ¬ (20 : Int) < (n0 : Int) := by omega
        have e1 : ¬ (40 : Int) < (n1 : Int) := by omega
        have e2 : (40 : Int) < (more.size : Int) := by omega
        clear h0 h1 h2
        go_enter Tryz.func3, Tryz.ntmps3
        go_wp2
        go_ret
        exact ⟨rfl, Below.refl _ _⟩
    · have e0 : ¬ (20 : Int) < (n0 : Int) := by omega
      have e1 : (40 : Int) < (n1 : Int) := by omega
      clear h0 h1
      go_enter Tryz.func3, Tryz.ntmps3
      go_wp2
      go_ret
      exact ⟨rfl, Below.refl _ _⟩
  · have e0 : (20 : Int) < (n0 : Int) := by omega
    clear h0
    go_enter Tryz.func3, Tryz.ntmps3
    go_wp2
    go_ret
    exact ⟨rfl, Below.refl _ _⟩
theorem findereven_card : Rows.FinderEvenCardSaid := even_card_of even_walk
#print axioms findereven_card
end Go.Proofs.YtdphlkljenbkcaaGreatDoor
