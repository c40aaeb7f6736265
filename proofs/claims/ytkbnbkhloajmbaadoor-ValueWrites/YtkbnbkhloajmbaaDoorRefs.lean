/- The contracts of the document's Right and Compare. -/
import Derived.Test.YtkbnbkhloajmbaaDoorVals
namespace Go.Proofs.YtkbnbkhloajmbaaDoor
open Go.RowKit

theorem textB_bad (s : ByteArray) (k : Nat) (hk : k < s.size) (h0 : ((s[k].toNat : Int) == 0) = true) (hz : ∀ j (_ : j < k) (h2 : j < s.size), s[j] ≠ 0) : textB s = false := by
  unfold textB
  rw [lets_at s k hk h0 hz]
  simp; omega
theorem textB_good (s : ByteArray) (hz : ∀ j (h2 : j < s.size), s[j] ≠ 0) : textB s = decide (s.size ≤ 40) := by
  unfold textB
  rw [lets_none s hz]
  simp

set_option maxHeartbeats 1000000 in
theorem refRight_any (k n : Int) (s : ByteArray) (w : World) (hs : s.size ≤ maxLen) :
    Calls Tryd.prog 12 #[.agg #[.int .i64 k, .int .i64 n, .string s]] w fun e w' => e = .returned (.bool (rightB k n s)) ∧ Below w.heap.size w w' := by
  unfold maxLen at hs
  by_cases k0 : k = 0
  · subst k0
    cases hn : (n == 0)
    · go_enter Tryd.func12, Tryd.ntmps12
      go_wp2
      go_ret
      exact ⟨ret_bool (by simp [rightB, hn]), (Below.refl _ _).alloc (Nat.le_refl _) _⟩
    · go_enter Tryd.func12, Tryd.ntmps12
      go_wp2
      go_ret
      exact ⟨ret_bool (by simp [rightB, hn]), (Below.refl _ _).alloc (Nat.le_refl _) _⟩
  have b0 : (k == 0) = false := by simp [k0]
  by_cases k1 : k = 1
  · subst k1
    go_enter Tryd.func12, Tryd.ntmps12
    go_wp2
    go_ret
    exact ⟨ret_bool (by simp [rightB]), (Below.refl _ _).alloc (Nat.le_refl _) _⟩
  have b1 : (k == 1) = false := by simp [k1]
  have HR : Hid (rightB k n s = ((k == 2) && ((n == 0) && textB s))) := by
    show _ = _
    by_cases k2 : k = 2 <;> simp [rightB, k0, k1, k2]
  clear k0 k1
  go_enter Tryd.func12, Tryd.ntmps12
  go_wp2
  go_loop [24] (fun i => ∃ k : Nat, k ≤ s.size ∧ i = .int .i64 k ∧ Hid (∀ j (_ : j < k) (h2 : j < s.size), s[j] ≠ 0)) (fun i => s.size - (intOf i).toNat)
  case atStart => exact ⟨0, Nat.zero_le _, rfl, fun j h => absurd h (Nat.not_lt_zero _)⟩
  case round =>
    obtain ⟨c, hc, rfl, hz⟩ := hrel
    by_cases hlt : c < s.size
    · go_wp2
      · go_ret
        refine ⟨ret_bool ?_, (Below.refl _ _).alloc (Nat.le_refl _) _⟩
        rw [HR.out, textB_bad s c hlt (by assumption) hz.out]
        simp
      · go_round
        case rel =>
          refine ⟨c + 1, by omega, by go_num, ?_⟩
          intro j hj h2
          by_cases e : j = c
          · subst e; exact byte_ne _ (by assumption)
          · exact hz.out j (by omega) h2
        case measure => simp [intOf]; omega
    · have HT : Hid (textB s = decide (s.size ≤ 40)) := textB_good s fun j h2 => hz.out j (by omega) h2
      cases k2 : (k == 2)
      · go_wp2
        go_ret
        refine ⟨ret_bool ?_, (Below.refl _ _).alloc (Nat.le_refl _) _⟩
        rw [HR.out, k2]; simp
      · cases n0 : (n == 0)
        · go_wp2
          go_ret
          refine ⟨ret_bool ?_, (Below.refl _ _).alloc (Nat.le_refl _) _⟩
          rw [HR.out, n0]; simp
        · go_wp2
          go_ret
          refine ⟨ret_bool ?_, (Below.refl _ _).alloc (Nat.le_refl _) _⟩
          rw [HR.out, HT.out, n0, k2]
          rw [Bool.eq_iff_iff]; simp; omega

theorem stood26 : Tryd.prog.stoodInHeld 42 = false := by kernel_rfl
theorem guard26 : Tryd.prog.eqGuardType Tryd.prog.depth 42 = false := by kernel_rfl

end Go.Proofs.YtkbnbkhloajmbaaDoor
