/- The contracts of the program's letters. -/
import Derived.Test.YtleegplecdknlaaDoorWPure
namespace Go.Proofs.YtleegplecdknlaaDoor
open Go.RowKit

set_option maxHeartbeats 2000000 in
theorem letter_any (x : Nat) (w : World) : Calls Tryd.prog 75 #[.int .u8 (x : Int)] w fun e w' => e = .returned (.bool (isLn x)) ∧ w' = w := by
  obtain ⟨a1, e1⟩ : ∃ b, decide ((65 : Int) ≤ (x : Int)) = b := ⟨_, rfl⟩
  obtain ⟨a2, e2⟩ : ∃ b, decide ((x : Int) ≤ 90) = b := ⟨_, rfl⟩
  obtain ⟨a3, e3⟩ : ∃ b, decide ((97 : Int) ≤ (x : Int)) = b := ⟨_, rfl⟩
  obtain ⟨a4, e4⟩ : ∃ b, decide ((x : Int) ≤ 122) = b := ⟨_, rfl⟩
  obtain ⟨a5, e5⟩ : ∃ b, decide ((48 : Int) ≤ (x : Int)) = b := ⟨_, rfl⟩
  obtain ⟨a6, e6⟩ : ∃ b, decide ((x : Int) ≤ 57) = b := ⟨_, rfl⟩
  have HR : Hid (isLn x = (a1 && a2 || a3 && a4 || a5 && a6 || decide ((127 : Int) < (x : Int)))) := by
    show _ = _
    rw [← e1, ← e2, ← e3, ← e4, ← e5, ← e6, Bool.eq_iff_iff]
    simp [isLn]
    omega
  cases a1 <;> cases a2 <;> cases a3 <;> cases a4 <;> cases a5 <;> cases a6 <;> first
    | (exfalso; simp only [decide_eq_true_eq, decide_eq_false_iff_not] at e1 e2 e3 e4 e5 e6; clear HR; omega)
    | (go_enter Tryd.func75, Tryd.ntmps75
       go_wp2
       go_ret
       exact ⟨ret_bool (by rw [HR.out]; simp), rfl⟩)
theorem lead_at (s : ByteArray) (k : Nat) (hk : k < s.size) (h0 : isLn s[k].toNat = false) (hz : ∀ j (_ : j < k) (h2 : j < s.size), isLn s[j].toNat = true) : lead s.data.toList = k := by
  unfold lead
  rw [List.findIdx_eq (by simpa using hk)]
  refine ⟨?_, fun j hj => ?_⟩
  · have : isLn (s.data[k]'hk).toNat = false := h0
    simpa [isL] using this
  · have : isLn (s.data[j]'(by have : s.data.size = s.size := rfl; omega)).toNat = true := hz j hj (by omega)
    simpa [isL] using this
set_option maxHeartbeats 400000 in
theorem letters_any (s : ByteArray) (w : World) (hs : s.size ≤ 1000000) :
    Calls Tryd.prog 67 #[.string s] w fun e w' => e = .returned (.int .i64 (lead s.data.toList)) ∧ w' = w := by
  go_enter Tryd.func67, Tryd.ntmps67
  go_wp2
  go_loop [6] (fun i => ∃ k : Nat, k ≤ s.size ∧ i = .int .i64 k ∧ Hid (∀ j (_ : j < k) (h2 : j < s.size), isLn s[j].toNat = true)) (fun i => s.size - (intOf i).toNat)
  case atStart => exact ⟨0, Nat.zero_le _, rfl, fun j h => absurd h (Nat.not_lt_zero _)⟩
  case round =>
    obtain ⟨k, hk, rfl, hz⟩ := hrel
    by_cases hlt : k < s.size
    · cases hb : isLn s[k].toNat
      · go_wp2_with (go_at_call 75; refine (letter_any _ _).mono ?_; rintro e w' ⟨rfl, rfl⟩)
        go_ret
        exact ⟨ret_int (by rw [lead_at s k hlt hb hz.out]), rfl⟩
      · go_wp2_with (go_at_call 75; refine (letter_any _ _).mono ?_; rintro e w' ⟨rfl, rfl⟩)
        go_round
        case rel =>
          refine ⟨k + 1, by omega, by go_num, ?_⟩
          intro j hj h2
          by_cases e : j = k
          · subst e; exact hb
          · exact hz.out j (by omega) h2
        case measure => simp [intOf]; omega
    · go_wp2
      go_ret
      exact ⟨ret_int (by rw [lead_none s fun j h2 => hz.out j (by omega) h2]), rfl⟩
set_option maxHeartbeats 400000 in
theorem suffix38 (s e : ByteArray) (w : World) (hs : s.size ≤ 1000000) (he : e.size ≤ 1000000) :
    Calls Tryd.prog 79 #[.string s, .string e] w fun x w' => x = .returned (.bool (hasB s e)) ∧ w' = w := by
  by_cases h : e.size ≤ s.size
  · have hd : decide ((e.size : Int) ≤ (s.size : Int)) = true := by simpa using h
    have HR : Hid (hasB s e = ((s.extract (s.size - e.size) s.size).toList == e.toList)) := by show _ = _; simp [hasB, h]
    go_enter Tryd.func79, Tryd.ntmps79
    go_wp2
    go_ret
    refine ⟨ret_bool ?_, rfl⟩
    rw [HR.out]
  · have hd : decide ((e.size : Int) ≤ (s.size : Int)) = false := by simp; omega
    have HR : Hid (hasB s e = false) := by show _ = _; simp [hasB, h]
    go_enter Tryd.func79, Tryd.ntmps79
    go_wp2
    go_ret
    exact ⟨ret_bool (by rw [HR.out]), rfl⟩
theorem suffix27 (s e : ByteArray) (w : World) (hs : s.size ≤ 1000000) (he : e.size ≤ 1000000) :
    Calls Tryd.prog 76 #[.string s, .string e] w fun x w' => x = .returned (.bool (hasB s e)) ∧ w' = w := by
  go_enter Tryd.func76, Tryd.ntmps76
  go_wp2_with (go_at_call 79; refine (suffix38 _ _ _ hs he).mono ?_; rintro e w' ⟨rfl, rfl⟩)
  go_ret
  exact ⟨rfl, rfl⟩

end Go.Proofs.YtleegplecdknlaaDoor
