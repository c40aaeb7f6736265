/- What is looked for is looked for together: for every list of texts and every two texts the function MatchSets of the package concordancekeep returns true, and leaves the list and the texts as they were. The package variables errors.errorType, word.ends, utf8.first and utf8.acceptRanges start as the program's text lays them, and the card ties them; of internal/bytealg.MaxLen the claim speaks for every value. The seat is set up under MEM=40000 (GROUP=1); the card ties its variables to a pruned copy of the project. -/
import Derived.Test.YtjgdnainhoipgaaGreatDoorM42
namespace Go.Proofs.YtjgdnainhoipgaaGreatDoor
open Go.RowKit

theorem rowS_of_tx {w : World} {a : Option Addr} {n : Nat} {tx : Nat → ByteArray} (h : TxS w a n tx) (hn : n ≤ 20) : RowS w a n ((List.range n).map tx) := by
  refine ⟨by simp, by simp; omega, ?_⟩
  cases n with
  | zero => exact .inl rfl
  | succ n =>
    obtain ⟨b, off, e, hb, _⟩ := h 0 (by omega)
    refine .inr ⟨b, off, e, hb, fun i hi => ?_⟩
    have hi' : i < n + 1 := by simpa using hi
    obtain ⟨b2, off2, e2, _, hc⟩ := h i hi'
    rw [e] at e2
    obtain ⟨rfl, rfl⟩ : b = b2 ∧ off = off2 := by
      injection e2 with e2
      injection e2 with e3 e4
      exact ⟨e3, e4⟩
    rw [hc]
    simp
set_option maxRecDepth 100000 in
set_option maxHeartbeats 2000000 in
theorem sets_walk : Walk3 := by
  intro w n0 c0 a0 tx A B hx hA hB hg
  by_cases h0 : n0 ≤ 20
  · have e0 : ¬ (20 : Int) < (n0 : Int) := by omega
    by_cases h1 : A.size ≤ 200
    · have e1 : ¬ (200 : Int) < (A.size : Int) := by omega
      by_cases h2 : B.size ≤ 200
      · have e2 : ¬ (200 : Int) < (B.size : Int) := by omega
        by_cases h3 : A.size + B.size ≤ 200
        · have hl : ((List.range n0).map tx).length = n0 := by simp
          have := sets_main w hg a0 c0 ((List.range n0).map tx) A B (by rw [hl]; exact rowS_of_tx hx h0) (by omega) h1 h2 h3
          rw [hl] at this
          exact this
        · have e3 : (200 : Int) < (A.size : Int) + (B.size : Int) := by omega
          clear hx hg h3 h0
          go_enter Tryz.func3, Tryz.ntmps3
          go_wp2
          go_ret
          exact ⟨rfl, Below.refl _ _⟩
      · have e2 : (200 : Int) < (B.size : Int) := by omega
        clear hx hg h2 h0
        go_enter Tryz.func3, Tryz.ntmps3
        go_wp2
        go_ret
        exact ⟨rfl, Below.refl _ _⟩
    · have e1 : (200 : Int) < (A.size : Int) := by omega
      clear hx hg h1 h0
      go_enter Tryz.func3, Tryz.ntmps3
      go_wp2
      go_ret
      exact ⟨rfl, Below.refl _ _⟩
  · have e0 : (20 : Int) < (n0 : Int) := by omega
    clear hx hg h0
    go_enter Tryz.func3, Tryz.ntmps3
    go_wp2
    go_ret
    exact ⟨rfl, Below.refl _ _⟩
theorem matchsets_card : Rows.MatchSetsCardSaid := sets_card_of sets_walk
#print axioms matchsets_card
end Go.Proofs.YtjgdnainhoipgaaGreatDoor
