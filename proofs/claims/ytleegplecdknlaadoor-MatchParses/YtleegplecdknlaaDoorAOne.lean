/- The document's reader of what is looked for: one, where it reads no word. -/
import Derived.Test.YtleegplecdknlaaDoorAAny
namespace Go.Proofs.YtleegplecdknlaaDoor
open Go.RowKit

/-- one, from this state, makes this, and leaves that -/
def OneTo (A : Nat) (d : Int) (w : World) (r : Qy × St) : Prop := Calls Tryd.prog 26 #[.pointer (some ⟨A, 0, none⟩), .int .i64 d] w fun e w' => ∃ p, e = .returned (.pointer p) ∧ QIs A w' p r.1 ∧ AskIs A r.2 w' ∧ w.grownBy w' (some A)

/-- the empty query that each call begins with -/
theorem zero_box {A : Nat} {s : St} {w : World} (h : AskIs A s w) : RE A w (some ⟨w.heap.size, 0, none⟩) zeroQ s (w.alloc (.cells #[.int .i64 0, .slice none 0 0, .pointer none, .pointer none] 49)) :=
  ⟨QIs.box h.2.2.2.2.1 0 _ none none [] .nil .nil (rowW_none A w) rfl rfl, h.below ((Below.refl _ _).alloc (Nat.le_refl _) _), grown_of_belowA ((Below.refl _ _).alloc (Nat.le_refl _) _) _⟩

set_option maxRecDepth 100000 in
set_option maxHeartbeats 2000000 in
theorem one_over (A : Nat) (d : Int) (s : St) (w : World) (h : AskIs A s w) (hd : 12 < d) : OneTo A d w (zeroQ, s.fails 4) := by
  show Calls _ _ _ _ _
  have H : Hid (AskIs A s w) := h
  have HE : Hid _ := zero_box h
  clear h
  go_enter Tryd.func26, Tryd.ntmps26
  go_wp2_with fail
  refine (peek_any A s w H.out).mono ?_
  rintro _ w1 ⟨rfl, hw1⟩
  subst hw1
  go_wp2_with fail
  refine (fails_any A s 4 _ HE.out.2.1).mono ?_
  rintro _ w2 ⟨rfl, ha2, hg2⟩
  have HE2 : Hid _ := RE.to HE.out ha2 hg2
  clear ha2 hg2 HE
  go_wp2
  go_ret
  exact ⟨_, rfl, HE2.out.1, HE2.out.2.1, HE2.out.2.2⟩

set_option maxRecDepth 100000 in
set_option maxHeartbeats 4000000 in
theorem one_none (A : Nat) (d : Int) (s : St) (w : World) (h : AskIs A s w) (hd : ¬ 12 < d) (hp : noOne s.peek = true) : OneTo A d w (zeroQ, s.fails 3) := by
  show Calls _ _ _ _ _
  have H : Hid (AskIs A s w) := h
  have HE : Hid _ := zero_box h
  clear h
  obtain ⟨t, ht⟩ : ∃ t, s.peek = t := ⟨_, rfl⟩
  have HP : Hid (s.peek = t) := ht
  rw [ht] at hp
  clear ht
  have hop : (t.toList == [40]) = false := by
    rw [beqT, decide_eq_false_iff_not]
    intro e
    rw [e] at hp
    revert hp; decide
  obtain ⟨b0, e0⟩ : ∃ b, (t.toList == []) = b := ⟨_, rfl⟩
  obtain ⟨b1, e1⟩ : ∃ b, (t.toList == [41]) = b := ⟨_, rfl⟩
  obtain ⟨b2, e2⟩ : ∃ b, (t.toList == [42]) = b := ⟨_, rfl⟩
  obtain ⟨b3, e3⟩ : ∃ b, (t.toList == [65, 78, 68]) = b := ⟨_, rfl⟩
  obtain ⟨b4, e4⟩ : ∃ b, (t.toList == [79, 82]) = b := ⟨_, rfl⟩
  obtain ⟨b5, e5⟩ : ∃ b, (t.toList == [78, 79, 84]) = b := ⟨_, rfl⟩
  obtain ⟨b6, e6⟩ : ∃ b, (t.toList == [78, 69, 65, 82]) = b := ⟨_, rfl⟩
  have hor : (b0 || b1 || b2 || b3 || b4 || b5 || b6) = true := by
    rw [← e0, ← e1, ← e2, ← e3, ← e4, ← e5, ← e6, beqT, beqT, beqT, beqT, beqT, beqT, beqT]
    exact hp
  clear hp
  have key : (b0 = true ∧ True) ∨ ((b0 = false ∧ b1 = true) ∧ True) ∨ ((b0 = false ∧ b1 = false ∧ b2 = true) ∧ True) ∨ ((b0 = false ∧ b1 = false ∧ b2 = false ∧ b3 = true) ∧ True) ∨ ((b0 = false ∧ b1 = false ∧ b2 = false ∧ b3 = false ∧ b4 = true) ∧ True) ∨ ((b0 = false ∧ b1 = false ∧ b2 = false ∧ b3 = false ∧ b4 = false ∧ b5 = true) ∧ True) ∨ ((b0 = false ∧ b1 = false ∧ b2 = false ∧ b3 = false ∧ b4 = false ∧ b5 = false ∧ b6 = true) ∧ True) := by
    revert hor
    cases b0 <;> cases b1 <;> cases b2 <;> cases b3 <;> cases b4 <;> cases b5 <;> cases b6 <;> simp
  clear hor
  rcases key with ⟨rfl, _⟩ | ⟨⟨rfl, rfl⟩, _⟩ | ⟨⟨rfl, rfl, rfl⟩, _⟩ | ⟨⟨rfl, rfl, rfl, rfl⟩, _⟩ | ⟨⟨rfl, rfl, rfl, rfl, rfl⟩, _⟩ | ⟨⟨rfl, rfl, rfl, rfl, rfl, rfl⟩, _⟩ | ⟨⟨rfl, rfl, rfl, rfl, rfl, rfl, rfl⟩, _⟩
  all_goals
    go_enter Tryd.func26, Tryd.ntmps26
    go_wp2_with fail
    refine (peek_as t A s w H.out HP.out).mono ?_
    rintro _ w1 ⟨rfl, hw1⟩
    subst hw1
    go_wp2_with fail
    refine (fails_any A s 3 _ HE.out.2.1).mono ?_
    rintro _ w2 ⟨rfl, ha2, hg2⟩
    have HE2 : Hid _ := RE.to HE.out ha2 hg2
    clear ha2 hg2 HE
    go_wp2
    go_ret
    exact ⟨_, rfl, HE2.out.1, HE2.out.2.1, HE2.out.2.2⟩
end Go.Proofs.YtleegplecdknlaaDoor
