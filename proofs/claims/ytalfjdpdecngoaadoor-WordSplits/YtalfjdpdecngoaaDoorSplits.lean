/- WordSplits, walked. -/
import Derived.Test.YtalfjdpdecngoaaDoorSame
namespace Go.Proofs.YtalfjdpdecngoaaDoor
open Go.RowKit

set_option maxRecDepth 100000 in
set_option maxHeartbeats 4000000 in
theorem splits_walk (s : ByteArray) (w : World) (hs : s.size ≤ maxLen) (he : EndsAt w) :
    Calls Tryd.prog 3 #[.string s] w fun e w' => e = .returned (.bool true) ∧ Below w.heap.size w w' := by
  unfold maxLen at hs
  have HE : Hid (EndsAt w) := he
  clear he
  by_cases h6 : s.size ≤ 600
  · have h6' : decide ((600 : Int) < (s.size : Int)) = false := by simp; omega
    have HM : Hid ((wordsL s.data.toList).length ≤ 1000000) := by show _ ≤ _; have := words_length s.data.toList; rw [ba_len] at this; omega
    go_enter Tryd.func3, Tryd.ntmps3
    go_wp2_with fail
    refine (small_any s w (by omega)).mono ?_
    rintro _ w1 ⟨rfl, hb1⟩
    have HB1 : Hid (Below w.heap.size w w1) := hb1
    clear hb1
    go_wp2_with fail
    refine (refSmall_any s w1 (by omega)).mono ?_
    rintro _ w2 ⟨rfl, hb2⟩
    have HB2 : Hid (Below w.heap.size w w2) := HB1.out.trans (hb2.mono HB1.out.size)
    clear hb2 HB1
    go_wp2_with fail
    refine (stem_any s w2 (by omega) (HE.out.below HB2.out)).mono ?_
    rintro _ w3 ⟨rfl, hb3⟩
    have HB3 : Hid (Below w.heap.size w w3) := HB2.out.trans (hb3.mono HB2.out.size)
    clear hb3 HB2
    go_wp2_with fail
    refine (refStem_any s w3 (by omega)).mono ?_
    rintro _ w4 ⟨rfl, hb4⟩
    have HB4 : Hid (Below w.heap.size w w4) := HB3.out.trans (hb4.mono HB3.out.size)
    clear hb4 HB3
    go_wp2_with fail
    refine (split_any s w4 (by omega) (HE.out.below HB4.out)).mono ?_
    rintro _ w5 ⟨v5, rfl, ho5, hb5⟩
    have HB5 : Hid (Below w.heap.size w w5) := HB4.out.trans (hb5.mono HB4.out.size)
    obtain ⟨a5, c5, rfl, hr5, _⟩ := row_of_own ho5 HM.out
    have HR5 : Hid (RowS w5 a5 (wordsL s.data.toList).length (wordsL s.data.toList)) := hr5
    clear hb5 HB4 ho5 hr5
    go_wp2_with fail
    refine (words_any s w5 (by omega)).mono ?_
    rintro _ w6 ⟨v6, rfl, ho6, hb6⟩
    have HB6 : Hid (Below w.heap.size w w6) := HB5.out.trans (hb6.mono HB5.out.size)
    obtain ⟨a6, c6, rfl, hr6, _⟩ := row_of_own ho6 HM.out
    have HR6 : Hid (RowS w6 a6 (wordsL s.data.toList).length (wordsL s.data.toList)) := hr6
    have HR5' : Hid (RowS w6 a5 (wordsL s.data.toList).length (wordsL s.data.toList)) := RowS.below HR5.out hb6
    clear hb6 HB5 ho6 hr6 HR5
    go_wp2_with fail
    refine (same10 a5 a6 _ _ c5 c6 _ w6 HR5'.out HR6.out).mono ?_
    rintro _ w7 ⟨rfl, hb7⟩
    have HB7 : Hid (Below w.heap.size w w7) := HB6.out.trans (hb7.mono HB6.out.size)
    clear hb7 HB6
    go_wp2
    go_ret
    exact ⟨by simp, HB7.out⟩
  · have h6' : decide ((600 : Int) < (s.size : Int)) = true := by simp; omega
    go_enter Tryd.func3, Tryd.ntmps3
    go_wp2
    go_ret
    exact ⟨by simp, Below.refl _ _⟩
end Go.Proofs.YtalfjdpdecngoaaDoor
