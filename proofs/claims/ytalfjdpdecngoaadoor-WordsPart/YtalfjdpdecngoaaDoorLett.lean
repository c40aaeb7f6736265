/- The contracts of letter, letters and HasSuffix. -/
import Derived.Test.YtalfjdpdecngoaaDoorBase
namespace Go.Proofs.YtalfjdpdecngoaaDoor
open Go.RowKit

/-- a byte of a word -/
def isLn (x : Nat) : Bool := decide (65 ≤ x) && decide (x ≤ 90) || decide (97 ≤ x) && decide (x ≤ 122) || decide (48 ≤ x) && decide (x ≤ 57) || decide (127 < x)
def isL (c : UInt8) : Bool := isLn c.toNat

set_option maxHeartbeats 2000000 in
theorem letter_any (x : Nat) (w : World) : Calls Tryd.prog 40 #[.int .u8 (x : Int)] w fun e w' => e = .returned (.bool (isLn x)) ∧ w' = w := by
  obtain ⟨a1, e1⟩ : ∃ b, decide ((65 : Int) ≤ (x : Int)) = b := ⟨_, rfl⟩
  obtain ⟨a2, e2⟩ : ∃ b, decide ((x : Int) ≤ 90) = b := ⟨_, rfl⟩
  obtain ⟨a3, e3⟩ : ∃ b, decide ((97 : Int) ≤ (x : Int)) = b := ⟨_, rfl⟩
  obtain ⟨a4, e4⟩ : ∃ b, decide ((x : Int) ≤ 122) = b := ⟨_, rfl⟩
  obtain ⟨a5, e5⟩ : ∃ b, decide ((48 : Int) ≤ (x : Int)) = b := ⟨_, rfl⟩
  obtain ⟨a6, e6⟩ : ∃ b, decide ((x : Int) ≤ 57) = b := ⟨_, rfl⟩
  have HR : Hid (isLn x = (a1 && a2 || a3 && a4 || a5 && a6 || decide ((127 : Int) < (x : Int)))) := by
    show _ = _
    rw [← e1, ← e2, ← e3, ← e4, ← e5, ← e6, Bool.eq_iff_iff]
    simp [isLn]
    omega
  cases a1 <;> cases a2 <;> cases a3 <;> cases a4 <;> cases a5 <;> cases a6 <;> first
    | (exfalso; simp only [decide_eq_true_eq, decide_eq_false_iff_not] at e1 e2 e3 e4 e5 e6; clear HR; omega)
    | (go_enter Tryd.func40, Tryd.ntmps40
       go_wp2
       go_ret
       exact ⟨ret_bool (by rw [HR.out]; simp), rfl⟩)

/-- how many bytes stand ahead of the first one that is none of a word -/
def lead (l : List UInt8) : Nat := l.findIdx (fun c => !isL c)

theorem lead_at (s : ByteArray) (k : Nat) (hk : k < s.size) (h0 : isLn s[k].toNat = false) (hz : ∀ j (_ : j < k) (h2 : j < s.size), isLn s[j].toNat = true) : lead s.data.toList = k := by
  unfold lead
  rw [List.findIdx_eq (by simpa using hk)]
  refine ⟨?_, fun j hj => ?_⟩
  · have : isLn (s.data[k]'hk).toNat = false := h0
    simpa [isL] using this
  · have : isLn (s.data[j]'(by have : s.data.size = s.size := rfl; omega)).toNat = true := hz j hj (by omega)
    simpa [isL] using this

theorem lead_none (s : ByteArray) (hz : ∀ j (h2 : j < s.size), isLn s[j].toNat = true) : lead s.data.toList = s.size := by
  unfold lead
  have : s.size = s.data.toList.length := by simp
  rw [this, List.findIdx_eq_length]
  intro x hx
  obtain ⟨j, hj, rfl⟩ := List.getElem_of_mem hx
  have : isLn (s.data[j]'(by simpa using hj)).toNat = true := hz j (by simpa using hj)
  simpa [isL] using this

set_option maxHeartbeats 400000 in
theorem letters_any (s : ByteArray) (w : World) (hs : s.size ≤ 1000000) :
    Calls Tryd.prog 29 #[.string s] w fun e w' => e = .returned (.int .i64 (lead s.data.toList)) ∧ w' = w := by
  go_enter Tryd.func29, Tryd.ntmps29
  go_wp2
  go_loop [6] (fun i => ∃ k : Nat, k ≤ s.size ∧ i = .int .i64 k ∧ Hid (∀ j (_ : j < k) (h2 : j < s.size), isLn s[j].toNat = true)) (fun i => s.size - (intOf i).toNat)
  case atStart => exact ⟨0, Nat.zero_le _, rfl, fun j h => absurd h (Nat.not_lt_zero _)⟩
  case round =>
    obtain ⟨k, hk, rfl, hz⟩ := hrel
    by_cases hlt : k < s.size
    · cases hb : isLn s[k].toNat
      · go_wp2_with (go_at_call 40; refine (letter_any _ _).mono ?_; rintro e w' ⟨rfl, rfl⟩)
        go_ret
        exact ⟨ret_int (by rw [lead_at s k hlt hb hz.out]), rfl⟩
      · go_wp2_with (go_at_call 40; refine (letter_any _ _).mono ?_; rintro e w' ⟨rfl, rfl⟩)
        go_round
        case rel =>
          refine ⟨k + 1, by omega, by go_num, ?_⟩
          intro j hj h2
          by_cases e : j = k
          · subst e; exact hb
          · exact hz.out j (by omega) h2
        case measure => simp [intOf]; omega
    · go_wp2
      go_ret
      exact ⟨ret_int (by rw [lead_none s fun j h2 => hz.out j (by omega) h2]), rfl⟩

/-- whether a text ends so -/
def hasB (s e : ByteArray) : Bool := decide (e.size ≤ s.size) && ((s.extract (s.size - e.size) s.size).toList == e.toList)

set_option maxHeartbeats 400000 in
theorem suffix38 (s e : ByteArray) (w : World) (hs : s.size ≤ 1000000) (he : e.size ≤ 1000000) :
    Calls Tryd.prog 38 #[.string s, .string e] w fun x w' => x = .returned (.bool (hasB s e)) ∧ w' = w := by
  by_cases h : e.size ≤ s.size
  · have hd : decide ((e.size : Int) ≤ (s.size : Int)) = true := by simpa using h
    have HR : Hid (hasB s e = ((s.extract (s.size - e.size) s.size).toList == e.toList)) := by show _ = _; simp [hasB, h]
    go_enter Tryd.func38, Tryd.ntmps38
    go_wp2
    go_ret
    refine ⟨ret_bool ?_, rfl⟩
    rw [HR.out]
  · have hd : decide ((e.size : Int) ≤ (s.size : Int)) = false := by simp; omega
    have HR : Hid (hasB s e = false) := by show _ = _; simp [hasB, h]
    go_enter Tryd.func38, Tryd.ntmps38
    go_wp2
    go_ret
    exact ⟨ret_bool (by rw [HR.out]), rfl⟩

theorem suffix27 (s e : ByteArray) (w : World) (hs : s.size ≤ 1000000) (he : e.size ≤ 1000000) :
    Calls Tryd.prog 27 #[.string s, .string e] w fun x w' => x = .returned (.bool (hasB s e)) ∧ w' = w := by
  go_enter Tryd.func27, Tryd.ntmps27
  go_wp2_with (go_at_call 38; refine (suffix38 _ _ _ hs he).mono ?_; rintro e w' ⟨rfl, rfl⟩)
  go_ret
  exact ⟨rfl, rfl⟩
end Go.Proofs.YtalfjdpdecngoaaDoor
