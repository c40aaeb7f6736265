/- The library's Cut at one byte; must, isSign, is and runs of the program. -/
import Derived.Test.YtleegplecdknlaaDoorPLib
import Derived.Test.YtleegplecdknlaaDoorAQ
namespace Go.Proofs.YtleegplecdknlaaDoor
open Go.RowKit

set_option maxRecDepth 100000 in
set_option maxHeartbeats 1000000 in
theorem index_one (s : ByteArray) (w : World) (hs : s.size ≤ 1000) : Calls Tryd.prog 39 #[.string s, .string ⟨#[34]⟩] w fun e w' => e = .returned (.int .i64 (Lib.indexByte s.data.toList 34)) ∧ w' = w := by
  by_cases h0 : s = ⟨#[34]⟩
  · subst h0
    go_enter Tryd.func39, Tryd.ntmps39
    go_wp2
    go_ret
    exact ⟨rfl, rfl⟩
  · have d1 : ((34 : UInt8) :: [] == s.toList) = false := by
      rw [beq_eq_false_iff_ne]; intro e; exact h0 (ba_ext (by rw [← ByteArray.toList_eq s, ← e]))
    have d2 : (([34] : List UInt8) == s.toList) = false := d1
    clear h0
    go_enter Tryd.func39, Tryd.ntmps39
    go_wp2_with (go_at_call 25; refine (ix_lite _ _ _).mono ?_; rintro e w' ⟨rfl, rfl⟩)
    go_ret
    exact ⟨rfl, rfl⟩
/-- where the first such byte is -/
theorem ix_at (l : List UInt8) : (l.takeWhile notQ).length < l.length → Lib.indexByte l 34 = ((l.takeWhile notQ).length : Int) := by
  induction l with
  | nil => intro h; simp at h
  | cons c l ih =>
    intro h
    by_cases hc : notQ c = true
    · rw [List.takeWhile_cons_of_pos hc] at h ⊢
      simp only [List.length_cons] at h ⊢
      have e := ih (by omega)
      have hne : c ≠ 34 := fun e => by rw [e] at hc; exact absurd hc (by decide)
      simp only [Lib.indexByte]
      simp [hne, e]
    · rw [List.takeWhile_cons_of_neg hc]
      have : c = 34 := by
        have : c.toNat = 34 := by simpa [notQ] using hc
        exact UInt8.toNat_inj.1 this
      subst this
      simp [Lib.indexByte]

set_option maxRecDepth 100000 in
set_option maxHeartbeats 2000000 in
theorem cutLite_any (s : ByteArray) (n : Nat) (w : World) (hs : s.size ≤ 1000) (hn : Lib.indexByte s.data.toList 34 = (n : Int)) (hlt : n < s.size) : Calls Tryd.prog 54 #[.string s, .string ⟨#[34]⟩] w fun e w' => e = .returned (.tuple #[.string (s.extract 0 n), .string (s.extract (n + 1) s.size), .bool true]) ∧ ∃ m, w' = w.drewN m := by
  have HN : Hid (Lib.indexByte s.data.toList 34 = (n : Int)) := hn
  clear hn
  have c1 : (n : Int) ≤ (s.size : Int) := by omega
  have c2 : (n : Int) + 1 ≤ (s.size : Int) := by omega
  go_enter Tryd.func54, Tryd.ntmps54
  go_wp2_with (go_at_call 39; refine (index_one _ _ hs).mono ?_; rintro e w' ⟨rfl, rfl⟩; rw [HN.out])
  go_quiet (fail)
  go_wp2
  go_ret3
  exact ⟨rfl, _, rfl⟩
set_option maxRecDepth 100000 in
set_option maxHeartbeats 2000000 in
theorem strCut_any (s : ByteArray) (n : Nat) (w : World) (hs : s.size ≤ 1000) (hn : Lib.indexByte s.data.toList 34 = (n : Int)) (hlt : n < s.size) : Calls Tryd.prog 41 #[.string s, .string ⟨#[34]⟩] w fun e w' => e = .returned (.tuple #[.string (s.extract 0 n), .string (s.extract (n + 1) s.size), .bool true]) ∧ ∃ m, w' = w.drewN m := by
  have HN : Hid (Lib.indexByte s.data.toList 34 = (n : Int)) := hn
  clear hn
  go_enter Tryd.func41, Tryd.ntmps41
  go_wp2_with (go_at_call 54; refine (cutLite_any _ n _ hs HN.out hlt).mono ?_; rintro e w' ⟨rfl, m, rfl⟩)
  go_ret3
  exact ⟨rfl, _, rfl⟩

theorem must_yes (w : World) : Calls Tryd.prog 20 #[.bool true] w fun e w' => e = .returned (.tuple #[]) ∧ w' = w := by
  go_enter Tryd.func20, Tryd.ntmps20
  go_wp2
  go_end0
  exact ⟨rfl, rfl⟩
theorem must_no (w : World) : Calls Tryd.prog 20 #[.bool false] w fun e w' => e = .panicked [{ v := .iface 55 (.agg #[.int .i64 3]), recovered := false }] ∧ w' = w := by
  go_enter Tryd.func20, Tryd.ntmps20
  go_wp2
  exact ⟨rfl, rfl, rfl⟩
/-- a word that is a sign -/
def signT (x : ByteArray) : Bool := decide (x = tAnd) || decide (x = tOr) || decide (x = tNot) || decide (x = tNear)
set_option maxHeartbeats 2000000 in
theorem isSign_any (x : ByteArray) (b : Bool) (hb : signT x = b) (w : World) : Calls Tryd.prog 56 #[.string x] w fun e w' => e = .returned (.bool b) ∧ w' = w := by
  have HB : Hid (signT x = b) := hb
  clear hb
  have d1 := beqT x [65, 78, 68]
  have d2 := beqT x [79, 82]
  have d3 := beqT x [78, 79, 84]
  have d4 := beqT x [78, 69, 65, 82]
  by_cases h1 : x = tAnd
  · rw [decide_eq_true (show x = ⟨[65, 78, 68].toArray⟩ from h1)] at d1
    have e : b = true := by rw [← HB.out]; simp [signT, h1]
    subst e
    clear d2 d3 d4 h1
    go_enter Tryd.func56, Tryd.ntmps56
    go_wp2
    go_ret
    exact ⟨rfl, rfl⟩
  rw [decide_eq_false (show ¬ x = ⟨[65, 78, 68].toArray⟩ from h1)] at d1
  by_cases h2 : x = tOr
  · rw [decide_eq_true (show x = ⟨[79, 82].toArray⟩ from h2)] at d2
    have e : b = true := by rw [← HB.out]; simp [signT, h2]
    subst e
    clear d3 d4 h1 h2
    go_enter Tryd.func56, Tryd.ntmps56
    go_wp2
    go_ret
    exact ⟨rfl, rfl⟩
  rw [decide_eq_false (show ¬ x = ⟨[79, 82].toArray⟩ from h2)] at d2
  by_cases h3 : x = tNot
  · rw [decide_eq_true (show x = ⟨[78, 79, 84].toArray⟩ from h3)] at d3
    have e : b = true := by rw [← HB.out]; simp [signT, h3]
    subst e
    clear d4 h1 h2 h3
    go_enter Tryd.func56, Tryd.ntmps56
    go_wp2
    go_ret
    exact ⟨rfl, rfl⟩
  rw [decide_eq_false (show ¬ x = ⟨[78, 79, 84].toArray⟩ from h3)] at d3
  by_cases h4 : x = tNear
  · rw [decide_eq_true (show x = ⟨[78, 69, 65, 82].toArray⟩ from h4)] at d4
    have e : b = true := by rw [← HB.out]; simp [signT, h4]
    subst e
    clear h1 h2 h3 h4
    go_enter Tryd.func56, Tryd.ntmps56
    go_wp2
    go_ret
    exact ⟨rfl, rfl⟩
  rw [decide_eq_false (show ¬ x = ⟨[78, 69, 65, 82].toArray⟩ from h4)] at d4
  have e : b = false := by rw [← HB.out]; simp [signT, h1, h2, h3, h4]
  subst e
  clear h1 h2 h3 h4
  go_enter Tryd.func56, Tryd.ntmps56
  go_wp2
  go_ret
  exact ⟨rfl, rfl⟩
set_option maxHeartbeats 2000000 in
theorem isP_any (k : Int) (t x : ByteArray) (b : Bool) (hb : (decide (k = 5) && decide (t = x)) = b) (w : World) : Calls Tryd.prog 44 #[.agg #[.int .i64 k, .string t], .string x] w fun e w' => e = .returned (.bool b) ∧ Below w.heap.size w w' := by
  have HB : Hid ((decide (k = 5) && decide (t = x)) = b) := hb
  clear hb
  by_cases h1 : k = 5
  · subst h1
    by_cases h2 : t = x
    · subst h2
      have e : b = true := by rw [← HB.out]; simp
      subst e
      have d2 : (t.toList == t.toList) = true := by simp
      go_enter Tryd.func44, Tryd.ntmps44
      go_wp2
      go_ret
      exact ⟨rfl, (Below.refl _ _).alloc (Nat.le_refl _) _⟩
    · have e : b = false := by rw [← HB.out]; simp [h2]
      subst e
      have d2 : (t.toList == x.toList) = false := by
        rw [beq_eq_false_iff_ne]; intro e; exact h2 (ba_ext (by rw [← ByteArray.toList_eq, ← ByteArray.toList_eq, e]))
      clear h2
      go_enter Tryd.func44, Tryd.ntmps44
      go_wp2
      go_ret
      exact ⟨rfl, (Below.refl _ _).alloc (Nat.le_refl _) _⟩
  · have e : b = false := by rw [← HB.out]; simp [h1]
    subst e
    have d1 : (k == 5) = false := by simpa using h1
    clear h1
    go_enter Tryd.func44, Tryd.ntmps44
    go_wp2
    go_ret
    exact ⟨rfl, (Below.refl _ _).alloc (Nat.le_refl _) _⟩
theorem cutP_ix : ∀ n : Fin 256, decide (0 ≤ Lib.indexByte [32, 40, 41, 42, 34] n.val.toUInt8) = !notC n.val.toUInt8 := by decide +kernel
theorem ix5p_any (x : Nat) (hx : x < 256) (b : Bool) (hb : notC x.toUInt8 = !b) (w : World) : Calls Tryd.prog 17 #[.string ⟨#[32, 40, 41, 42, 34]⟩, .int .u8 (x : Int)] w fun e w' => ∃ n : Int, e = .returned (.int .i64 n) ∧ decide (0 ≤ n) = b ∧ w' = w := by
  refine (strings_ix ⟨#[32, 40, 41, 42, 34]⟩ (x : Int) w).mono ?_
  rintro e w' ⟨rfl, rfl⟩
  refine ⟨_, rfl, ?_, rfl⟩
  have h := cutP_ix ⟨x, hx⟩
  rw [hb, Bool.not_not] at h
  exact h
set_option maxRecDepth 100000 in
set_option maxHeartbeats 2000000 in
theorem runs_any (s : ByteArray) (E : Nat) (hE : endW notC s 0 = E) (w : World) (hs : s.size ≤ 1000) : Calls Tryd.prog 42 #[.string s] w fun e w' => e = .returned (.int .i64 (E : Int)) ∧ w' = w := by
  have HE : Hid (endW notC s 0 = E) := hE
  clear hE
  go_enter Tryd.func42, Tryd.ntmps42
  go_wp2
  go_loopw [6] (fun i wr => ∃ j : Nat, j ≤ s.size ∧ i = .int .i64 j ∧ Hid (endW notC s j = E) ∧ wr = w) (fun i _ => s.size - (intOf i).toNat)
  case atStart => exact ⟨0, Nat.zero_le _, rfl, HE, rfl⟩
  case round =>
    clear HE
    obtain ⟨j, hj, rfl, hej, rfl⟩ := hrel
    by_cases hjs : j < s.size
    · have hjs' : (j : Int) < (s.size : Int) := by omega
      obtain ⟨y, hy⟩ : ∃ y, s[j].toNat = y := ⟨_, rfl⟩
      have hyc : s[j] = y.toUInt8 := by rw [← hy]; simp
      obtain ⟨b, hb⟩ : ∃ b, notC y.toUInt8 = !b := ⟨!notC y.toUInt8, by simp⟩
      have HIx : Hid (y < 256 ∧ notC y.toUInt8 = !b) := ⟨by rw [← hy]; exact UInt8.toNat_lt _, hb⟩
      cases b
      · have HE2 : Hid (endW notC s (j + 1) = E) := by show _ = _; rw [← endW_step hjs (by rw [hyc]; exact hb)]; exact hej.out
        clear hej hb hyc
        go_wp2_with fail
        refine (ix5p_any y HIx.out.1 _ HIx.out.2 _).mono ?_
        rintro _ w8 ⟨n8, rfl, hn8, hw8⟩
        subst hw8
        go_wp2
        go_roundw
        case rel => exact ⟨j + 1, by omega, by go_num, HE2, trivial⟩
        case measure => simp [intOf]; omega
      · have e : j = E := by rw [← hej.out, endW_stop hjs (by rw [hyc]; exact hb)]
        subst e
        clear hej hb hyc
        go_wp2_with fail
        refine (ix5p_any y HIx.out.1 _ HIx.out.2 _).mono ?_
        rintro _ w8 ⟨n8, rfl, hn8, hw8⟩
        subst hw8
        go_wp2
        go_ret
        exact ⟨rfl, rfl⟩
    · have hjs' : ¬ (j : Int) < (s.size : Int) := by omega
      obtain rfl : j = s.size := by omega
      have e : s.size = E := by rw [← hej.out, endW_end (Nat.le_refl _)]
      subst e
      clear hej
      go_wp2
      go_ret
      exact ⟨rfl, rfl⟩
end Go.Proofs.YtleegplecdknlaaDoor
