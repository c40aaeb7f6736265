/- The contracts of the document's Right and Compare. -/
import Derived.Test.YtkbnbkhloajmbaaVals
namespace Go.Proofs.Ytkbnbkhloajmbaa
open Go.RowKit

theorem textB_bad (s : ByteArray) (k : Nat) (hk : k < s.size) (h0 : ((s[k].toNat : Int) == 0) = true) (hz : ∀ j (_ : j < k) (h2 : j < s.size), s[j] ≠ 0) : textB s = false := by
  unfold textB
  rw [lets_at s k hk h0 hz]
  simp; omega
theorem textB_good (s : ByteArray) (hz : ∀ j (h2 : j < s.size), s[j] ≠ 0) : textB s = decide (s.size ≤ 40) := by
  unfold textB
  rw [lets_none s hz]
  simp

set_option maxHeartbeats 1000000 in
theorem refRight_any (k n : Int) (s : ByteArray) (w : World) (hs : s.size ≤ maxLen) :
    Calls Try.prog 7 #[.agg #[.int .i64 k, .int .i64 n, .string s]] w fun e w' => e = .returned (.bool (rightB k n s)) ∧ Below w.heap.size w w' := by
  unfold maxLen at hs
  by_cases k0 : k = 0
  · subst k0
    cases hn : (n == 0)
    · go_enter Try.func7, Try.ntmps7
      go_wp2
      go_ret
      exact ⟨ret_bool (by simp [rightB, hn]), (Below.refl _ _).alloc (Nat.le_refl _) _⟩
    · go_enter Try.func7, Try.ntmps7
      go_wp2
      go_ret
      exact ⟨ret_bool (by simp [rightB, hn]), (Below.refl _ _).alloc (Nat.le_refl _) _⟩
  have b0 : (k == 0) = false := by simp [k0]
  by_cases k1 : k = 1
  · subst k1
    go_enter Try.func7, Try.ntmps7
    go_wp2
    go_ret
    exact ⟨ret_bool (by simp [rightB]), (Below.refl _ _).alloc (Nat.le_refl _) _⟩
  have b1 : (k == 1) = false := by simp [k1]
  have HR : Hid (rightB k n s = ((k == 2) && ((n == 0) && textB s))) := by
    show _ = _
    by_cases k2 : k = 2 <;> simp [rightB, k0, k1, k2]
  clear k0 k1
  go_enter Try.func7, Try.ntmps7
  go_wp2
  go_loop [24] (fun i => ∃ k : Nat, k ≤ s.size ∧ i = .int .i64 k ∧ Hid (∀ j (_ : j < k) (h2 : j < s.size), s[j] ≠ 0)) (fun i => s.size - (intOf i).toNat)
  case atStart => exact ⟨0, Nat.zero_le _, rfl, fun j h => absurd h (Nat.not_lt_zero _)⟩
  case round =>
    obtain ⟨c, hc, rfl, hz⟩ := hrel
    by_cases hlt : c < s.size
    · go_wp2
      · go_ret
        refine ⟨ret_bool ?_, (Below.refl _ _).alloc (Nat.le_refl _) _⟩
        rw [HR.out, textB_bad s c hlt (by assumption) hz.out]
        simp
      · go_round
        case rel =>
          refine ⟨c + 1, by omega, by go_num, ?_⟩
          intro j hj h2
          by_cases e : j = c
          · subst e; exact byte_ne _ (by assumption)
          · exact hz.out j (by omega) h2
        case measure => simp [intOf]; omega
    · have HT : Hid (textB s = decide (s.size ≤ 40)) := textB_good s fun j h2 => hz.out j (by omega) h2
      cases k2 : (k == 2)
      · go_wp2
        go_ret
        refine ⟨ret_bool ?_, (Below.refl _ _).alloc (Nat.le_refl _) _⟩
        rw [HR.out, k2]; simp
      · cases n0 : (n == 0)
        · go_wp2
          go_ret
          refine ⟨ret_bool ?_, (Below.refl _ _).alloc (Nat.le_refl _) _⟩
          rw [HR.out, n0]; simp
        · go_wp2
          go_ret
          refine ⟨ret_bool ?_, (Below.refl _ _).alloc (Nat.le_refl _) _⟩
          rw [HR.out, HT.out, n0, k2]
          rw [Bool.eq_iff_iff]; simp; omega

theorem stood26 : Try.prog.stoodInHeld 26 = false := by kernel_rfl
theorem guard26 : Try.prog.eqGuardType Try.prog.depth 26 = false := by kernel_rfl

theorem cmpV_k1 {k n : Int} {s : ByteArray} {k' n' : Int} {s' : ByteArray} (h : k < k') : cmpV k n s k' n' s' = -1 := by
  unfold cmpV cmpI; rw [if_neg (by omega), if_pos h]
theorem cmpV_k2 {k n : Int} {s : ByteArray} {k' n' : Int} {s' : ByteArray} (h : k' < k) : cmpV k n s k' n' s' = 1 := by
  unfold cmpV cmpI; rw [if_neg (by omega), if_neg (by omega), if_pos h]
theorem cmpV_n1 {k n : Int} {s : ByteArray} {n' : Int} {s' : ByteArray} (h : n < n') : cmpV k n s k n' s' = -1 := by
  unfold cmpV cmpI; rw [if_pos rfl, if_neg (by omega), if_pos h]
theorem cmpV_n2 {k n : Int} {s : ByteArray} {n' : Int} {s' : ByteArray} (h : n' < n) : cmpV k n s k n' s' = 1 := by
  unfold cmpV cmpI; rw [if_pos rfl, if_neg (by omega), if_neg (by omega), if_pos h]
theorem cmpV_s {k n : Int} {s : ByteArray} {s' : ByteArray} : cmpV k n s k n s' = cmpS s s' := by
  unfold cmpV; simp

set_option maxRecDepth 100000 in
set_option maxHeartbeats 1000000 in
theorem refCompare_any (k n : Int) (s : ByteArray) (k' n' : Int) (s' : ByteArray) (w : World) :
    Calls Try.prog 9 #[.agg #[.int .i64 k, .int .i64 n, .string s], .agg #[.int .i64 k', .int .i64 n', .string s']] w fun e w' => e = .returned (.int .i64 (cmpV k n s k' n' s')) ∧ Below w.heap.size w w' := by
  have st26 := stood26
  have g26 := guard26
  by_cases hk : k < k'
  · have HR : Hid (cmpV k n s k' n' s' = -1) := cmpV_k1 hk
    go_enter Try.func9, Try.ntmps9
    go_wp2
    go_ret
    exact ⟨ret_int HR.out.symm, ((Below.refl _ _).alloc (Nat.le_refl _) _).alloc (by simp) _⟩
  by_cases hk2 : k' < k
  · have HR : Hid (cmpV k n s k' n' s' = 1) := cmpV_k2 hk2
    have hd : decide (k < k') = false := by simp; omega
    have he : (k == k') = false := by simp; omega
    go_enter Try.func9, Try.ntmps9
    go_wp2
    go_ret
    exact ⟨ret_int HR.out.symm, ((Below.refl _ _).alloc (Nat.le_refl _) _).alloc (by simp) _⟩
  obtain rfl : k = k' := by omega
  by_cases hn : n < n'
  · have HR : Hid (cmpV k n s k n' s' = -1) := cmpV_n1 hn
    go_enter Try.func9, Try.ntmps9
    go_wp2
    go_ret
    exact ⟨ret_int HR.out.symm, ((Below.refl _ _).alloc (Nat.le_refl _) _).alloc (by simp) _⟩
  by_cases hn2 : n' < n
  · have HR : Hid (cmpV k n s k n' s' = 1) := cmpV_n2 hn2
    have hd : decide (n < n') = false := by simp; omega
    have he : (n == n') = false := by simp; omega
    go_enter Try.func9, Try.ntmps9
    go_wp2
    go_ret
    exact ⟨ret_int HR.out.symm, ((Below.refl _ _).alloc (Nat.le_refl _) _).alloc (by simp) _⟩
  obtain rfl : n = n' := by omega
  clear hk hk2 hn hn2
  cases h1 : Op.bytesLess s.toList s'.toList
  · cases h2 : (s.toList == s'.toList)
    · have HR : Hid (cmpV k n s k n s' = 1) := by show _ = _; rw [cmpV_s, cmpS, h1, h2]; rfl
      go_enter Try.func9, Try.ntmps9
      go_wp2
      go_ret
      exact ⟨ret_int HR.out.symm, ((Below.refl _ _).alloc (Nat.le_refl _) _).alloc (by simp) _⟩
    · have HR : Hid (cmpV k n s k n s' = 0) := by show _ = _; rw [cmpV_s, cmpS, h1, h2]; rfl
      go_enter Try.func9, Try.ntmps9
      go_wp2
      go_ret
      exact ⟨ret_int HR.out.symm, ((Below.refl _ _).alloc (Nat.le_refl _) _).alloc (by simp) _⟩
  · have HR : Hid (cmpV k n s k n s' = -1) := by show _ = _; rw [cmpV_s, cmpS, h1]; rfl
    go_enter Try.func9, Try.ntmps9
    go_wp2
    go_ret
    exact ⟨ret_int HR.out.symm, ((Below.refl _ _).alloc (Nat.le_refl _) _).alloc (by simp) _⟩
end Go.Proofs.Ytkbnbkhloajmbaa
