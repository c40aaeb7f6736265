/- The contracts of the small functions that ValueOrders goes through. -/
import Derived.Test.YtkbnbkhloajmbaaDoorRows
import Derived.WalkKit
import Derived.WalkSpells
import Derived.WalkLawsBesides
namespace Go.Proofs.YtkbnbkhloajmbaaDoor
open Go.RowKit

/-- how many bytes stand ahead of the first 0 -/
def lets (l : List UInt8) : Nat := l.findIdx (fun c => c == 0)

theorem lets_at (s : ByteArray) (k : Nat) (hk : k < s.size) (h0 : ((s[k].toNat : Int) == 0) = true) (hz : ∀ j (_ : j < k) (h2 : j < s.size), s[j] ≠ 0) : lets s.data.toList = k := by
  unfold lets
  rw [List.findIdx_eq (by simpa using hk)]
  refine ⟨?_, fun j hj => ?_⟩
  · have : s[k].toNat = 0 := by simpa using h0
    have e : s.data[k] = 0 := UInt8.toNat_inj.1 this
    simpa using e
  · have : s.data[j]'(by have : s.data.size = s.size := rfl; omega) ≠ 0 := hz j hj (by omega)
    simpa using this

theorem lets_none (s : ByteArray) (hz : ∀ j (h2 : j < s.size), s[j] ≠ 0) : lets s.data.toList = s.size := by
  unfold lets
  have : s.size = s.data.toList.length := by simp
  rw [this, List.findIdx_eq_length]
  intro x hx
  obtain ⟨j, hj, rfl⟩ := List.getElem_of_mem hx
  have : s.data[j]'(by simpa using hj) ≠ 0 := hz j (by simpa using hj)
  simpa using this

theorem byte_ne (c : UInt8) (h : ((c.toNat : Int) == 0) = false) : c ≠ 0 := by
  intro e; subst e; simp at h

theorem ret_int {k : IntKind} {a b : Int} (h : a = b) : Ending.returned (.int k a) = .returned (.int k b) := by rw [h]
theorem ret_bool {a b : Bool} (h : a = b) : Ending.returned (.bool a) = .returned (.bool b) := by rw [h]

set_option maxHeartbeats 400000 in
theorem letters_any (s : ByteArray) (w : World) (hs : s.size ≤ maxLen) :
    Calls Tryd.prog 26 #[.string s] w fun e w' => e = .returned (.int .i64 (lets s.data.toList)) ∧ w' = w := by
  unfold maxLen at hs
  go_enter Tryd.func26, Tryd.ntmps26
  go_wp2
  go_loop [6] (fun i => ∃ k : Nat, k ≤ s.size ∧ i = .int .i64 k ∧ Hid (∀ j (_ : j < k) (h2 : j < s.size), s[j] ≠ 0)) (fun i => s.size - (intOf i).toNat)
  case atStart => exact ⟨0, Nat.zero_le _, rfl, fun j h => absurd h (Nat.not_lt_zero _)⟩
  case round =>
    obtain ⟨k, hk, rfl, hz⟩ := hrel
    by_cases hlt : k < s.size
    · go_wp2
      · go_ret
        exact ⟨ret_int (by rw [lets_at s k hlt (by assumption) hz.out]), rfl⟩
      · go_round
        case rel =>
          refine ⟨k + 1, by omega, by go_num, ?_⟩
          intro j hj h2
          by_cases e : j = k
          · subst e; exact byte_ne _ (by assumption)
          · exact hz.out j (by omega) h2
        case measure => simp [intOf]; omega
    · go_wp2
      go_ret
      exact ⟨ret_int (by rw [lets_none s fun j h2 => hz.out j (by omega) h2]), rfl⟩

/-- a text that may be: at most 40 bytes, none of them 0 -/
def textB (s : ByteArray) : Bool := decide (s.size ≤ 40) && decide (lets s.data.toList = s.size)

set_option maxHeartbeats 400000 in
theorem rightText_any (s : ByteArray) (w : World) (hs : s.size ≤ maxLen) :
    Calls Tryd.prog 20 #[.string s] w fun e w' => e = .returned (.bool (textB s)) ∧ w' = w := by
  have hs' := hs
  unfold maxLen at hs'
  by_cases h40 : s.size ≤ 40
  · have hd : decide ((s.size : Int) ≤ 40) = true := by simp; omega
    go_enter Tryd.func20, Tryd.ntmps20
    go_wp2_with (go_at_call 26; refine (letters_any _ _ hs).mono ?_; rintro e w' ⟨rfl, rfl⟩)
    go_ret
    refine ⟨ret_bool ?_, rfl⟩
    unfold textB
    rw [Bool.eq_iff_iff]
    simp [h40]
    omega
  · have hd : decide ((s.size : Int) ≤ 40) = false := by simp; omega
    go_enter Tryd.func20, Tryd.ntmps20
    go_wp2_with (go_at_call 26; refine (letters_any _ _ hs).mono ?_; rintro e w' ⟨rfl, rfl⟩)
    go_ret
    refine ⟨ret_bool ?_, rfl⟩
    unfold textB
    simp [h40]

end Go.Proofs.YtkbnbkhloajmbaaDoor
