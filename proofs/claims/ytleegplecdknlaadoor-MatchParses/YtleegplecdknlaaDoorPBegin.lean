/- The program's beginning. -/
import Derived.Test.YtleegplecdknlaaDoorPSign
namespace Go.Proofs.YtleegplecdknlaaDoor
open Go.RowKit

/-- words may begin so -/
def begB (x : ByteArray) : Bool := decide (x.size ≤ 12) && (smallL x.data.toList).all alnum
theorem begins_bad {x : ByteArray} (l : List UInt8) : ∀ s : St, s.bad ≠ 0 → s.begins x l = s := by
  induction l with
  | nil => intro s _; rfl
  | cons c l ih =>
    intro s h
    have e : (if !alnum c || decide (12 < x.size) then s.fails 3 else s) = s := by
      rw [show s.fails 3 = s by rw [St.fails, if_neg h]]; split <;> rfl
    rw [St.begins, e, ih s h]
theorem begins_ok {x : ByteArray} (hx : x.size ≤ 12) (l : List UInt8) (r : List ByteArray) : (⟨r, 0⟩ : St).begins x l = if l.all alnum = true then ⟨r, 0⟩ else ⟨r, 3⟩ := by
  induction l with
  | nil => rfl
  | cons c l ih =>
    rw [St.begins, decide_eq_false (by omega : ¬ 12 < x.size), Bool.or_false, List.all_cons]
    cases hc : alnum c with
    | true => rw [Bool.true_and, if_neg (by decide)]; exact ih
    | false =>
      rw [Bool.false_and, if_pos (by decide), if_neg (by decide)]
      exact begins_bad l _ (by show (3 : Int) ≠ 0; decide)
theorem begins_is (x : ByteArray) (r : List ByteArray) : (⟨r, 0⟩ : St).begins x (smallL x.data.toList) = if begB x = true then ⟨r, 0⟩ else ⟨r, 3⟩ := by
  unfold begB
  by_cases hx : x.size ≤ 12
  · rw [begins_ok hx, decide_eq_true hx, Bool.true_and]
  · rw [decide_eq_false hx, Bool.false_and, if_neg (by decide)]
    have hl := small_len x
    cases hs : smallL x.data.toList with
    | nil => rw [hs] at hl; simp at hl; omega
    | cons c l =>
      rw [St.begins, decide_eq_true (by omega : 12 < x.size), Bool.or_true, if_pos rfl]
      exact begins_bad l _ (by show (3 : Int) ≠ 0; decide)

set_option maxHeartbeats 2000000 in
theorem begLong_any (x : ByteArray) (w : World) (hx : 12 < x.size) : Calls Tryd.prog 57 #[.string x] w fun e w' => e = .panicked [{ v := .iface 55 (.agg #[.int .i64 3]), recovered := false }] ∧ Below w.heap.size w w' := by
  have d1 : decide ((x.size : Int) ≤ 12) = false := decide_eq_false (by omega)
  go_enter Tryd.func57, Tryd.ntmps57
  go_wp2_with (go_at_call 20; refine (must_no _).mono ?_; rintro _ _ ⟨rfl, rfl⟩)
  exact ⟨rfl, rfl, Below.refl _ _⟩
set_option maxRecDepth 100000 in
set_option maxHeartbeats 4000000 in
theorem begShort_any (x : ByteArray) (w : World) (hx : x.size ≤ 12) (b : Bool) (hb : (smallL x.data.toList).all alnum = b) : Calls Tryd.prog 57 #[.string x] w fun e w' => (b = true ∧ e = .returned (.string (smallS x)) ∨ b = false ∧ e = .panicked [{ v := .iface 55 (.agg #[.int .i64 3]), recovered := false }]) ∧ Below w.heap.size w w' := by
  have d1 : decide ((x.size : Int) ≤ 12) = true := decide_eq_true (by omega)
  obtain ⟨s, hs⟩ : ∃ s, smallS x = s := ⟨_, rfl⟩
  have hsz : s.size ≤ 12 := by rw [← hs, smallS_size]; exact hx
  have HS : Hid (smallS x = s) := hs
  have HB : Hid ((s.data.toList.drop 0).all alnum = b) := by
    show _ = _
    rw [← hs, ← hb]; rfl
  rw [hs]
  clear hs hb
  go_enter Tryd.func57, Tryd.ntmps57
  go_wp2_with (go_at_call 20; refine (must_yes _).mono ?_; rintro _ w0 ⟨rfl, hw0⟩; obtain rfl : w = w0 := hw0.symm)
  refine (small_any x w (by omega)).mono ?_
  rintro _ w1 ⟨rfl, hb1⟩
  rw [HS.out]
  have HB1 : Hid (Below w.heap.size w w1) := hb1
  clear hb1 d1
  go_wp2
  go_loopw [13] (fun i wr => ∃ j : Nat, j ≤ s.size ∧ i = .int .i64 j ∧ Hid ((s.data.toList.drop j).all alnum = b) ∧ wr = w1) (fun i _ => s.size - (intOf i).toNat)
  case atStart => exact ⟨0, Nat.zero_le _, rfl, HB, rfl⟩
  case round =>
    clear HB
    obtain ⟨j, hj, rfl, hej, rfl⟩ := hrel
    by_cases hjs : j < s.size
    · have hjs' : (j : Int) < (s.size : Int) := by omega
      obtain ⟨y, hy⟩ : ∃ y, s[j].toNat = y := ⟨_, rfl⟩
      obtain ⟨a, ha⟩ : ∃ a, alnum s[j] = a := ⟨_, rfl⟩
      have HJ : Hid ((a && (s.data.toList.drop (j + 1)).all alnum) = b) := by
        show _ = _
        rw [← hej.out, drop_at s j hjs, List.all_cons, ha]
      obtain ⟨a3, e3⟩ : ∃ b, decide ((97 : Int) ≤ (y : Int)) = b := ⟨_, rfl⟩
      obtain ⟨a4, e4⟩ : ∃ b, decide ((y : Int) ≤ 122) = b := ⟨_, rfl⟩
      obtain ⟨a5, e5⟩ : ∃ b, decide ((48 : Int) ≤ (y : Int)) = b := ⟨_, rfl⟩
      obtain ⟨a6, e6⟩ : ∃ b, decide ((y : Int) ≤ 57) = b := ⟨_, rfl⟩
      have HA : Hid (a = (a3 && a4 || a5 && a6)) := by
        show _ = _
        rw [← ha, ← e3, ← e4, ← e5, ← e6, alnum, hy, Bool.eq_iff_iff]
        simp
        omega
      clear ha hej
      cases a3 <;> cases a4 <;> cases a5 <;> cases a6 <;> first
        | (exfalso; simp only [decide_eq_true_eq, decide_eq_false_iff_not] at e3 e4 e5 e6; clear HA HJ; omega)
        | (have e : a = true := HA.out
           have HE2 : Hid ((s.data.toList.drop (j + 1)).all alnum = b) := by
             have h := HJ.out
             rw [e, Bool.true_and] at h
             exact h
           clear HJ HA e
           go_wp2_with (go_at_call 20; refine (must_yes _).mono ?_; rintro _ _ ⟨rfl, rfl⟩)
           go_roundw
           case rel => exact ⟨j + 1, by omega, by go_num, HE2, trivial⟩
           case measure => simp [intOf]; omega)
        | (have e : a = false := HA.out
           have HE2 : Hid (b = false) := by
             have h := HJ.out
             rw [e, Bool.false_and] at h
             exact h.symm
           clear HJ HA e
           go_wp2_with (go_at_call 20; refine (must_no _).mono ?_; rintro _ _ ⟨rfl, rfl⟩)
           exact ⟨rfl, .inr ⟨HE2.out, rfl⟩, HB1.out⟩)
    · have hjs' : ¬ (j : Int) < (s.size : Int) := by omega
      have HE2 : Hid (b = true) := by
        show _ = _
        rw [← hej.out, List.drop_eq_nil_of_le (by rw [ba_len]; omega)]; rfl
      clear hej
      go_wp2
      go_ret
      exact ⟨.inl ⟨HE2.out, rfl⟩, HB1.out⟩
theorem beg_any (x : ByteArray) (w : World) : Calls Tryd.prog 57 #[.string x] w fun e w' => (begB x = true ∧ e = .returned (.string (smallS x)) ∨ begB x = false ∧ e = .panicked [{ v := .iface 55 (.agg #[.int .i64 3]), recovered := false }]) ∧ Below w.heap.size w w' := by
  unfold begB
  by_cases hx : x.size ≤ 12
  · rw [decide_eq_true hx, Bool.true_and]
    exact begShort_any x w hx _ rfl
  · rw [decide_eq_false hx]
    refine (begLong_any x w (by omega)).mono ?_
    rintro e w' ⟨rfl, hb⟩
    exact ⟨.inr ⟨rfl, rfl⟩, hb⟩
end Go.Proofs.YtleegplecdknlaaDoor
