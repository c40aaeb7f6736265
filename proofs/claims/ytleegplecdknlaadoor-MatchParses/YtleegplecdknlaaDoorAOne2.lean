/- The document's reader of what is looked for: one, in parentheses, and in quotes. -/
import Derived.Test.YtleegplecdknlaaDoorAOne
namespace Go.Proofs.YtleegplecdknlaaDoor
open Go.RowKit

set_option maxRecDepth 100000 in
set_option maxHeartbeats 4000000 in
theorem one_open (any : St → Qy × St) (A : Nat) (d : Int) (s : St) (w : World) (h : AskIs A s w) (hd0 : 0 ≤ d) (hd : d ≤ 12) (hp : s.peek = tOpen) (hO : Reads 9 any (d + 1)) (R : Qy × St) (hR : R = ((any (s.take tOpen).2).1, if ((any (s.take tOpen).2).2.take tShut).1 then ((any (s.take tOpen).2).2.take tShut).2 else ((any (s.take tOpen).2).2.take tShut).2.fails 3)) : OneTo A d w R := by
  show Calls _ _ _ _ _
  have H : Hid (AskIs A s w) := h
  have HO : Hid (Reads 9 any (d + 1)) := hO
  have HE : Hid _ := zero_box h
  have d1 : ¬ (12 : Int) < d := by omega
  clear h hO
  obtain ⟨t, ht⟩ : ∃ t, s.peek = t := ⟨_, rfl⟩
  have HP : Hid (s.peek = t ∧ s.peek = tOpen) := ⟨ht, hp⟩
  have d2 : (t.toList == [40]) = true := by rw [beqT, ← ht, hp]; decide
  rw [take_yes hp] at hR
  clear ht hp
  obtain ⟨s1, hs1⟩ : ∃ t, (⟨s.l.tail, s.bad⟩ : St) = t := ⟨_, rfl⟩
  simp only [hs1] at hR
  have HS1 : Hid ((⟨s.l.tail, s.bad⟩ : St) = s1) := hs1
  clear hs1
  obtain ⟨q, hq⟩ : ∃ q, (any s1).1 = q := ⟨_, rfl⟩
  obtain ⟨s2, hs2⟩ : ∃ t, (any s1).2 = t := ⟨_, rfl⟩
  simp only [hq, hs2] at hR
  have HQ : Hid ((any s1).1 = q ∧ (any s1).2 = s2) := ⟨hq, hs2⟩
  clear hq hs2
  by_cases hsh : s2.peek = tShut
  · have HR : Hid (R = (q, ⟨s2.l.tail, s2.bad⟩)) := by show _ = _; rw [hR, take_yes hsh]; rfl
    have HSh : Hid (s2.peek = tShut) := hsh
    clear hR hsh
    go_enter Tryd.func26, Tryd.ntmps26
    go_wp2_with fail
    refine (peek_as t A s w H.out HP.out.1).mono ?_
    rintro _ w1 ⟨rfl, hw1⟩
    subst hw1
    go_wp2_with fail
    refine (takeY_any A s tOpen _ HE.out.2.1 HP.out.2 (by decide)).mono ?_
    rintro _ w2 ⟨rfl, ha2, hg2⟩
    rw [HS1.out] at ha2
    have HE2 : Hid _ := RE.to HE.out ha2 hg2
    clear ha2 hg2 HE H
    go_wp2_with fail
    refine (HO.out A s1 w2 HE2.out.2.1).mono ?_
    rintro _ w3 ⟨p3, rfl, hq3, ha3, hg3⟩
    rw [HQ.out.1] at hq3
    rw [HQ.out.2] at ha3
    have HE3 : Hid _ := RE.to HE2.out ha3 hg3
    have HQ3 : Hid (QIs A w3 p3 q) := hq3
    clear hq3 ha3 hg3 HE2
    go_wp2_with fail
    refine (takeY_any A s2 tShut _ HE3.out.2.1 HSh.out (by decide)).mono ?_
    rintro _ w4 ⟨rfl, ha4, hg4⟩
    have HE4 : Hid _ := RE.to HE3.out ha4 hg4
    have HQ4 : Hid (QIs A w4 p3 q) := QIs.grown hg4 q HQ3.out
    clear ha4 hg4 HE3 HQ3
    go_wp2
    go_ret
    rw [HR.out]
    exact ⟨_, rfl, HQ4.out, HE4.out.2.1, HE4.out.2.2⟩
  · have HR : Hid (R = (q, s2.fails 3)) := by show _ = _; rw [hR, take_no hsh]; rfl
    have HSh : Hid (s2.peek ≠ tShut) := hsh
    clear hR hsh
    go_enter Tryd.func26, Tryd.ntmps26
    go_wp2_with fail
    refine (peek_as t A s w H.out HP.out.1).mono ?_
    rintro _ w1 ⟨rfl, hw1⟩
    subst hw1
    go_wp2_with fail
    refine (takeY_any A s tOpen _ HE.out.2.1 HP.out.2 (by decide)).mono ?_
    rintro _ w2 ⟨rfl, ha2, hg2⟩
    rw [HS1.out] at ha2
    have HE2 : Hid _ := RE.to HE.out ha2 hg2
    clear ha2 hg2 HE H
    go_wp2_with fail
    refine (HO.out A s1 w2 HE2.out.2.1).mono ?_
    rintro _ w3 ⟨p3, rfl, hq3, ha3, hg3⟩
    rw [HQ.out.1] at hq3
    rw [HQ.out.2] at ha3
    have HE3 : Hid _ := RE.to HE2.out ha3 hg3
    have HQ3 : Hid (QIs A w3 p3 q) := hq3
    clear hq3 ha3 hg3 HE2
    go_wp2_with fail
    refine (takeN_any A s2 tShut _ HE3.out.2.1 HSh.out).mono ?_
    rintro _ w4 ⟨rfl, hw4⟩
    subst hw4
    go_wp2_with fail
    refine (fails_any A s2 3 _ HE3.out.2.1).mono ?_
    rintro _ w5 ⟨rfl, ha5, hg5⟩
    have HE5 : Hid _ := RE.to HE3.out ha5 hg5
    have HQ5 : Hid (QIs A w5 p3 q) := QIs.grown hg5 q HQ3.out
    clear ha5 hg5 HE3 HQ3
    go_wp2
    go_ret
    rw [HR.out]
    exact ⟨_, rfl, HQ5.out, HE5.out.2.1, HE5.out.2.2⟩

/-- the tests that a text passes which begins a thing, and is no parenthesis -/
theorem not_none {t : ByteArray} (hp : t ≠ tOpen) (hn : noOne t = false) : ((t.toList == [40]) = false ∧ (t.toList == []) = false ∧ (t.toList == [41]) = false ∧ (t.toList == [42]) = false) ∧ (t.toList == [65, 78, 68]) = false ∧ (t.toList == [79, 82]) = false ∧ (t.toList == [78, 79, 84]) = false ∧ (t.toList == [78, 69, 65, 82]) = false := by
  simp only [noOne, Bool.or_eq_false_iff] at hn
  obtain ⟨⟨⟨⟨⟨⟨h0, h1⟩, h2⟩, h3⟩, h4⟩, h5⟩, h6⟩ := hn
  refine ⟨⟨?_, ?_, ?_, ?_⟩, ?_, ?_, ?_, ?_⟩
  · rw [beqT, decide_eq_false_iff_not]; exact hp
  all_goals (rw [beqT]; assumption)
theorem first_of {t : ByteArray} (h : t ≠ tNone) : ∃ h0 : 0 < t.size, firstB t = t[0] := by
  cases hl : t.data.toList with
  | nil =>
    exfalso; apply h; apply ba_ext
    exact hl
  | cons c r =>
    have hs : 0 < t.size := by rw [← ba_len, hl]; simp
    refine ⟨hs, ?_⟩
    have h2 := drop_at t 0 hs
    rw [List.drop_zero] at h2
    rw [firstB, h2]; rfl
theorem peek_size {A : Nat} {s : St} {w : World} (h : AskIs A s w) : s.peek.size ≤ 1000 := by
  by_cases hp : s.peek = tNone
  · rw [hp]; decide
  · obtain ⟨_, r, hl⟩ := peek_some hp
    exact h.2.2.2.2.2 s.peek (by rw [hl]; simp)
end Go.Proofs.YtleegplecdknlaaDoor
