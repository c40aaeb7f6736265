/- MatchParses, walked, if the program's Parse does what it should. -/
import Derived.Test.YtleegplecdknlaaDoorASame
import Derived.Test.YtleegplecdknlaaDoorEIs
namespace Go.Proofs.YtleegplecdknlaaDoor
open Go.RowKit

/-- what the program's Parse does; Env: what it needs of a world -/
def ParseSpec (Env : World → Prop) : Prop := ∀ (s : ByteArray) (w : World), s.size ≤ 400 → Env w →
  Calls Tryd.prog 5 #[.string s] w fun e w' => ∃ p E, e = .returned (.tuple #[.pointer p, E]) ∧ MIs w' p (askS s).1 ∧ ErrIs E (askS s).2 (-1) w' ∧ Below w.heap.size w w'

set_option maxHeartbeats 1000000 in
theorem parses_long (s : ByteArray) (w : World) (h1 : s.size ≤ maxLen) (h : 400 < s.size) : Calls Tryd.prog 3 #[.string s] w fun e w' => e = .returned (.bool true) ∧ Below w.heap.size w w' := by
  unfold maxLen at h1
  have d1 : decide ((400 : Int) < (s.size : Int)) = true := by simp; omega
  go_enter Tryd.func3, Tryd.ntmps3
  go_wp2
  go_ret
  exact ⟨by simp, Below.refl _ _⟩

set_option maxRecDepth 100000 in
set_option maxHeartbeats 2000000 in
theorem parses_short (Env : World → Prop) (hst : ∀ w w', Env w → Below w.heap.size w w' → Env w') (hP : ParseSpec Env) (s : ByteArray) (w : World) (h : s.size ≤ 400) (hE : Env w) (hg : HG w) : Calls Tryd.prog 3 #[.string s] w fun e w' => e = .returned (.bool true) ∧ Below w.heap.size w w' := by
  have d1 : decide ((400 : Int) < (s.size : Int)) = false := by simp; omega
  have HP : Hid (ParseSpec Env) := hP
  have HEn : Hid (Env w ∧ HG w ∧ ∀ w w', Env w → Below w.heap.size w w' → Env w') := ⟨hE, hg, hst⟩
  have hEB := hg.lt
  clear hP hE hg hst
  obtain ⟨q, hq⟩ : ∃ q, (askS s).1 = q := ⟨_, rfl⟩
  obtain ⟨n, hn⟩ : ∃ n, (askS s).2 = n := ⟨_, rfl⟩
  have HA : Hid ((askS s).1 = q ∧ (askS s).2 = n) := ⟨hq, hn⟩
  clear hq hn
  go_enter Tryd.func3, Tryd.ntmps3
  go_wp2_with fail
  refine (ask_any s w (by omega)).mono ?_
  rintro _ w1 ⟨p1, A, rfl, hA1, hq1, hb1⟩
  rw [HA.out.1] at hq1
  rw [HA.out.2]
  have HQ1 : Hid (QIs A w1 p1 q) := hq1
  have HB1 : Hid (Below w.heap.size w w1) := hb1
  have HE1 : Hid (Env w1) := HEn.out.2.2 w w1 HEn.out.1 hb1
  clear hq1 hb1
  go_wp2_with fail
  refine (HP.out s w1 h HE1.out).mono ?_
  rintro _ w2 ⟨p2, E, rfl, hm2, he2, hb2⟩
  rw [HA.out.1] at hm2
  rw [HA.out.2] at he2
  have HQ2 : Hid (QIs A w2 p1 q ∧ MIs w2 p2 q ∧ ErrIs E n (-1) w2) := ⟨QIs.below hb2 q HQ1.out, hm2, he2⟩
  have HB2 : Hid (Below w.heap.size w w2) := HB1.out.trans (hb2.mono HB1.out.size)
  have HG2 : Hid (HG w2) := HG.below HEn.out.2.1 HB2.out hEB
  clear hm2 he2 hb2 HQ1 HB1 HE1
  go_wp2_with fail
  refine (bare_any E n w2 HG2.out HQ2.out.2.2).mono ?_
  rintro _ w3 ⟨rfl, hb3⟩
  have HQ3 : Hid (QIs A w3 p1 q ∧ MIs w3 p2 q) := ⟨QIs.below hb3 q HQ2.out.1, MIs.below hb3 q HQ2.out.2.1⟩
  have HB3 : Hid (Below w.heap.size w w3) := HB2.out.trans (hb3.mono HB2.out.size)
  clear hb3 HQ2 HB2 HG2
  go_wp2_with fail
  refine (sameQuery_any A q w3 p2 p1 HQ3.out.2 HQ3.out.1).mono ?_
  rintro _ w4 ⟨rfl, m, hw4⟩
  have HB4 : Hid (Below w.heap.size w w4) := by rw [hw4]; exact below_drewN HB3.out m
  clear hw4 HB3 HQ3
  go_wp2
  go_ret
  exact ⟨by simp, HB4.out⟩
end Go.Proofs.YtleegplecdknlaaDoor
