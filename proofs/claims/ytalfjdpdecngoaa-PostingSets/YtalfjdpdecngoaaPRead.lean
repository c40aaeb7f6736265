/- The contracts of readNumber, readPlace and Read. -/
import Derived.Test.YtalfjdpdecngoaaPEnc
namespace Go.Proofs.Ytalfjdpdecngoaa
open Go.RowKit

/-- a number that is read: behind i bytes that came to acc; its worth, and how many bytes (0: none) -/
def rnF : Nat → Nat → Nat → List UInt8 → Nat × Nat
  | 0, _, _, _ => (0, 0)
  | _ + 1, _, _, [] => (0, 0)
  | f + 1, i, acc, c :: l =>
    if c.toNat < 128 then (if 0 < i ∧ c.toNat = 0 then (0, 0) else (acc + c.toNat * 128 ^ i, i + 1)) else rnF f (i + 1) (acc + c.toNat % 128 * 128 ^ i) l
def rnL (l : List UInt8) : Nat × Nat := rnF 5 0 0 l

theorem drop_cons (s : ByteArray) (k : Nat) (h : k < s.size) : s.data.toList.drop k = s[k] :: s.data.toList.drop (k + 1) := by
  rw [List.drop_eq_getElem_cons (by simpa using h)]
  simp
  rfl

theorem or_nat64 (a b : Nat) (ha : a < 4611686018427387904) (hb : b < 4611686018427387904) : bits .or .i64 (a : Int) (b : Int) = ((a ||| b : Nat) : Int) := by
  have hx : a ||| b < 2 ^ 62 := Nat.or_lt_two_pow (by omega) (by omega)
  show IntKind.i64.wrap ((BitVec.ofInt 64 (a : Int) ||| BitVec.ofInt 64 (b : Int)).toNat : Int) = _
  have ea : (BitVec.ofInt 64 (a : Int)).toNat = a := by rw [BitVec.toNat_ofInt]; omega
  have eb : (BitVec.ofInt 64 (b : Int)).toNat = b := by rw [BitVec.toNat_ofInt]; omega
  rw [BitVec.toNat_or, ea, eb, IntKind.wrap_i64]
  omega
theorem or_add (n v j : Nat) (hn : n < 2 ^ j) : n ||| v * 2 ^ j = n + v * 2 ^ j := by
  have := Nat.shiftLeft_add_eq_or_of_lt (i := j) hn v
  rw [Nat.shiftLeft_eq] at this
  rw [Nat.or_comm, ← this, Nat.add_comm]
theorem or_seven (k n x M : Nat) (hk : k ≤ 4) (hM : 128 ^ k = M) (hn : n < M) : bits .or .i64 (n : Int) ((x : Int) % 128 * (M : Int)) = ((n + x % 128 * M : Nat) : Int) := by
  have hM2 : M = 2 ^ (7 * k) := by rw [← hM, Nat.pow_mul]
  have hM3 : M ≤ 268435456 := by
    have h5 : k = 0 ∨ k = 1 ∨ k = 2 ∨ k = 3 ∨ k = 4 := by omega
    rcases h5 with rfl | rfl | rfl | rfl | rfl <;> omega
  have hv : x % 128 * M ≤ 127 * M := Nat.mul_le_mul_right _ (by omega)
  have e : ((x : Int) % 128 * (M : Int)) = ((x % 128 * M : Nat) : Int) := by simp
  rw [e, or_nat64 _ _ (by omega) (by omega)]
  rw [hM2] at hn ⊢
  rw [or_add n (x % 128) (7 * k) hn]

theorem rn_step (k n x : Nat) (s : ByteArray) (h : k < s.size) (h5 : k < 5) (hx : s[k].toNat = x) : rnF (5 - k) k n (s.data.toList.drop k) =
    if x < 128 then (if 0 < k ∧ x = 0 then (0, 0) else (n + x * 128 ^ k, k + 1)) else rnF (5 - (k + 1)) (k + 1) (n + x % 128 * 128 ^ k) (s.data.toList.drop (k + 1)) := by
  rw [drop_cons s k h, show 5 - k = (5 - (k + 1)) + 1 by omega, rnF, hx]

set_option maxRecDepth 100000 in
set_option maxHeartbeats 2000000 in
theorem readNumber_any (s : ByteArray) (w : World) (hs : s.size ≤ 1000000) :
    Calls Try.prog 40 #[.string s] w fun e w' => e = .returned (.tuple #[.int .i64 (rnL s.data.toList).1, .int .i64 (rnL s.data.toList).2]) ∧ w' = w := by
  obtain ⟨R, hR⟩ : ∃ R, rnL s.data.toList = R := ⟨_, rfl⟩
  have HR : Hid (rnF (5 - 0) 0 0 (s.data.toList.drop 0) = R) := hR
  rw [hR]
  clear hR
  by_cases h5 : (5 : Int) < (s.size : Int)
  · skip
    go_enter Try.func40, Try.ntmps40
    go_wp2
    go_loop [4, 9] (fun x i => ∃ k n : Nat, k ≤ s.size ∧ k ≤ 5 ∧ n < 128 ^ k ∧ x = .int .i64 n ∧ i = .int .i64 k ∧ Hid (rnF (5 - k) k n (s.data.toList.drop k) = R)) (fun _ i => 5 - (intOf i).toNat)
    case atStart => exact ⟨0, 0, Nat.zero_le _, by omega, by omega, rfl, rfl, HR⟩
    case round =>
      clear HR
      obtain ⟨k, n, hk, hk5, hn, rfl, rfl, hz⟩ := hrel
      by_cases hlt : k < s.size ∧ k < 5
      · obtain ⟨h1, h2⟩ := hlt
        have hx := UInt8.toNat_lt s[k]
        obtain ⟨x, hy⟩ : ∃ x, s[k].toNat = x := ⟨_, rfl⟩
        rw [hy] at hx
        have hk' : k = 0 ∨ k = 1 ∨ k = 2 ∨ k = 3 ∨ k = 4 := by omega
        rcases hk' with rfl | rfl | rfl | rfl | rfl
        · have hM : n < 1 := hn
          have hor := or_seven 0 n x 1 (by omega) (by decide) hM
          simp only [Int.natCast_one, Int.mul_one, Nat.mul_one] at hor
          have hst := rn_step 0 n x s h1 h2 hy
          have HZ : Hid _ := hst.symm.trans hz.out
          clear hst hz
          by_cases hc : x < 128
          · rw [if_pos hc] at HZ
            rw [if_neg (by omega)] at HZ
            have HR : Hid (R = (n + x, 1)) := by show _ = _; rw [← HZ.out]; simp
            clear HZ
            go_wp2
            go_ret2
            rw [HR.out]
            exact ⟨by simp; omega, rfl⟩
          · rw [if_neg hc] at HZ
            go_wp2
            go_round
            case rel => exact ⟨1, n + x % 128 * 1, by omega, by omega, by omega, by simp, by go_num, HZ⟩
            case measure => simp [intOf]
        · have hM : n < 128 := hn
          have hor : bits .or .i64 (n : Int) ((x : Int) % 128 * 128) = ((n + x % 128 * 128 : Nat) : Int) := or_seven 1 n x 128 (by omega) (by decide) hM
          have hst := rn_step 1 n x s h1 h2 hy
          have HZ : Hid _ := hst.symm.trans hz.out
          clear hst hz
          by_cases hc : x < 128
          · rw [if_pos hc] at HZ
            by_cases hc0 : x = 0
            · rw [if_pos ⟨by omega, hc0⟩] at HZ
              have hb0 : ((x : Int) == 0) = true := by simp [hc0]
              clear hc0
              have HR : Hid (R = (0, 0)) := HZ.out.symm
              clear HZ
              go_wp2
              go_ret2
              rw [HR.out]
              exact ⟨by simp, rfl⟩
            · rw [if_neg (by omega)] at HZ
              have hb0 : ((x : Int) == 0) = false := by simp [hc0]
              have HR : Hid (R = (n + x * 128, 2)) := by show _ = _; rw [← HZ.out]
              clear HZ
              go_wp2
              go_ret2
              rw [HR.out]
              exact ⟨by simp; omega, rfl⟩
          · rw [if_neg hc] at HZ
            go_wp2
            go_round
            case rel => exact ⟨2, n + x % 128 * 128, by omega, by omega, by omega, by simp, by go_num, HZ⟩
            case measure => simp [intOf]
        · have hM : n < 16384 := hn
          have hor : bits .or .i64 (n : Int) ((x : Int) % 128 * 16384) = ((n + x % 128 * 16384 : Nat) : Int) := or_seven 2 n x 16384 (by omega) (by decide) hM
          have hst := rn_step 2 n x s h1 h2 hy
          have HZ : Hid _ := hst.symm.trans hz.out
          clear hst hz
          by_cases hc : x < 128
          · rw [if_pos hc] at HZ
            by_cases hc0 : x = 0
            · rw [if_pos ⟨by omega, hc0⟩] at HZ
              have hb0 : ((x : Int) == 0) = true := by simp [hc0]
              clear hc0
              have HR : Hid (R = (0, 0)) := HZ.out.symm
              clear HZ
              go_wp2
              go_ret2
              rw [HR.out]
              exact ⟨by simp, rfl⟩
            · rw [if_neg (by omega)] at HZ
              have hb0 : ((x : Int) == 0) = false := by simp [hc0]
              have HR : Hid (R = (n + x * 16384, 3)) := by show _ = _; rw [← HZ.out]
              clear HZ
              go_wp2
              go_ret2
              rw [HR.out]
              exact ⟨by simp; omega, rfl⟩
          · rw [if_neg hc] at HZ
            go_wp2
            go_round
            case rel => exact ⟨3, n + x % 128 * 16384, by omega, by omega, by omega, by simp, by go_num, HZ⟩
            case measure => simp [intOf]
        · have hM : n < 2097152 := hn
          have hor : bits .or .i64 (n : Int) ((x : Int) % 128 * 2097152) = ((n + x % 128 * 2097152 : Nat) : Int) := or_seven 3 n x 2097152 (by omega) (by decide) hM
          have hst := rn_step 3 n x s h1 h2 hy
          have HZ : Hid _ := hst.symm.trans hz.out
          clear hst hz
          by_cases hc : x < 128
          · rw [if_pos hc] at HZ
            by_cases hc0 : x = 0
            · rw [if_pos ⟨by omega, hc0⟩] at HZ
              have hb0 : ((x : Int) == 0) = true := by simp [hc0]
              clear hc0
              have HR : Hid (R = (0, 0)) := HZ.out.symm
              clear HZ
              go_wp2
              go_ret2
              rw [HR.out]
              exact ⟨by simp, rfl⟩
            · rw [if_neg (by omega)] at HZ
              have hb0 : ((x : Int) == 0) = false := by simp [hc0]
              have HR : Hid (R = (n + x * 2097152, 4)) := by show _ = _; rw [← HZ.out]
              clear HZ
              go_wp2
              go_ret2
              rw [HR.out]
              exact ⟨by simp; omega, rfl⟩
          · rw [if_neg hc] at HZ
            go_wp2
            go_round
            case rel => exact ⟨4, n + x % 128 * 2097152, by omega, by omega, by omega, by simp, by go_num, HZ⟩
            case measure => simp [intOf]
        · have hM : n < 268435456 := hn
          have hor : bits .or .i64 (n : Int) ((x : Int) % 128 * 268435456) = ((n + x % 128 * 268435456 : Nat) : Int) := or_seven 4 n x 268435456 (by omega) (by decide) hM
          have hst := rn_step 4 n x s h1 h2 hy
          have HZ : Hid _ := hst.symm.trans hz.out
          clear hst hz
          by_cases hc : x < 128
          · rw [if_pos hc] at HZ
            by_cases hc0 : x = 0
            · rw [if_pos ⟨by omega, hc0⟩] at HZ
              have hb0 : ((x : Int) == 0) = true := by simp [hc0]
              clear hc0
              have HR : Hid (R = (0, 0)) := HZ.out.symm
              clear HZ
              go_wp2
              go_ret2
              rw [HR.out]
              exact ⟨by simp, rfl⟩
            · rw [if_neg (by omega)] at HZ
              have hb0 : ((x : Int) == 0) = false := by simp [hc0]
              have HR : Hid (R = (n + x * 268435456, 5)) := by show _ = _; rw [← HZ.out]
              clear HZ
              go_wp2
              go_ret2
              rw [HR.out]
              exact ⟨by simp; omega, rfl⟩
          · rw [if_neg hc] at HZ
            go_wp2
            go_round
            case rel => exact ⟨5, n + x % 128 * 268435456, by omega, by omega, by omega, by simp, by go_num, HZ⟩
            case measure => simp [intOf]
      · have e : R = (0, 0) := by
          have h := hz.out
          by_cases h5 : k = 5
          · subst h5; exact h.symm
          · rw [List.drop_eq_nil_of_le (by simp; omega)] at h
            rw [← h]
            have : 5 - k = (4 - k) + 1 := by omega
            rw [this]
            rfl
        subst e
        have hm : (5 : Int) ≤ (k : Int) := by omega
        go_wp2
        go_ret2
        exact ⟨by simp, rfl⟩
  · skip
    go_enter Try.func40, Try.ntmps40
    go_wp2
    go_loop [4, 9] (fun x i => ∃ k n : Nat, k ≤ s.size ∧ k ≤ 5 ∧ n < 128 ^ k ∧ x = .int .i64 n ∧ i = .int .i64 k ∧ Hid (rnF (5 - k) k n (s.data.toList.drop k) = R)) (fun _ i => 5 - (intOf i).toNat)
    case atStart => exact ⟨0, 0, Nat.zero_le _, by omega, by omega, rfl, rfl, HR⟩
    case round =>
      clear HR
      obtain ⟨k, n, hk, hk5, hn, rfl, rfl, hz⟩ := hrel
      by_cases hlt : k < s.size ∧ k < 5
      · obtain ⟨h1, h2⟩ := hlt
        have hx := UInt8.toNat_lt s[k]
        obtain ⟨x, hy⟩ : ∃ x, s[k].toNat = x := ⟨_, rfl⟩
        rw [hy] at hx
        have hk' : k = 0 ∨ k = 1 ∨ k = 2 ∨ k = 3 ∨ k = 4 := by omega
        rcases hk' with rfl | rfl | rfl | rfl | rfl
        · have hM : n < 1 := hn
          have hor := or_seven 0 n x 1 (by omega) (by decide) hM
          simp only [Int.natCast_one, Int.mul_one, Nat.mul_one] at hor
          have hst := rn_step 0 n x s h1 h2 hy
          have HZ : Hid _ := hst.symm.trans hz.out
          clear hst hz
          by_cases hc : x < 128
          · rw [if_pos hc] at HZ
            rw [if_neg (by omega)] at HZ
            have HR : Hid (R = (n + x, 1)) := by show _ = _; rw [← HZ.out]; simp
            clear HZ
            go_wp2
            go_ret2
            rw [HR.out]
            exact ⟨by simp; omega, rfl⟩
          · rw [if_neg hc] at HZ
            go_wp2
            go_round
            case rel => exact ⟨1, n + x % 128 * 1, by omega, by omega, by omega, by simp, by go_num, HZ⟩
            case measure => simp [intOf]
        · have hM : n < 128 := hn
          have hor : bits .or .i64 (n : Int) ((x : Int) % 128 * 128) = ((n + x % 128 * 128 : Nat) : Int) := or_seven 1 n x 128 (by omega) (by decide) hM
          have hst := rn_step 1 n x s h1 h2 hy
          have HZ : Hid _ := hst.symm.trans hz.out
          clear hst hz
          by_cases hc : x < 128
          · rw [if_pos hc] at HZ
            by_cases hc0 : x = 0
            · rw [if_pos ⟨by omega, hc0⟩] at HZ
              have hb0 : ((x : Int) == 0) = true := by simp [hc0]
              clear hc0
              have HR : Hid (R = (0, 0)) := HZ.out.symm
              clear HZ
              go_wp2
              go_ret2
              rw [HR.out]
              exact ⟨by simp, rfl⟩
            · rw [if_neg (by omega)] at HZ
              have hb0 : ((x : Int) == 0) = false := by simp [hc0]
              have HR : Hid (R = (n + x * 128, 2)) := by show _ = _; rw [← HZ.out]
              clear HZ
              go_wp2
              go_ret2
              rw [HR.out]
              exact ⟨by simp; omega, rfl⟩
          · rw [if_neg hc] at HZ
            go_wp2
            go_round
            case rel => exact ⟨2, n + x % 128 * 128, by omega, by omega, by omega, by simp, by go_num, HZ⟩
            case measure => simp [intOf]
        · have hM : n < 16384 := hn
          have hor : bits .or .i64 (n : Int) ((x : Int) % 128 * 16384) = ((n + x % 128 * 16384 : Nat) : Int) := or_seven 2 n x 16384 (by omega) (by decide) hM
          have hst := rn_step 2 n x s h1 h2 hy
          have HZ : Hid _ := hst.symm.trans hz.out
          clear hst hz
          by_cases hc : x < 128
          · rw [if_pos hc] at HZ
            by_cases hc0 : x = 0
            · rw [if_pos ⟨by omega, hc0⟩] at HZ
              have hb0 : ((x : Int) == 0) = true := by simp [hc0]
              clear hc0
              have HR : Hid (R = (0, 0)) := HZ.out.symm
              clear HZ
              go_wp2
              go_ret2
              rw [HR.out]
              exact ⟨by simp, rfl⟩
            · rw [if_neg (by omega)] at HZ
              have hb0 : ((x : Int) == 0) = false := by simp [hc0]
              have HR : Hid (R = (n + x * 16384, 3)) := by show _ = _; rw [← HZ.out]
              clear HZ
              go_wp2
              go_ret2
              rw [HR.out]
              exact ⟨by simp; omega, rfl⟩
          · rw [if_neg hc] at HZ
            go_wp2
            go_round
            case rel => exact ⟨3, n + x % 128 * 16384, by omega, by omega, by omega, by simp, by go_num, HZ⟩
            case measure => simp [intOf]
        · have hM : n < 2097152 := hn
          have hor : bits .or .i64 (n : Int) ((x : Int) % 128 * 2097152) = ((n + x % 128 * 2097152 : Nat) : Int) := or_seven 3 n x 2097152 (by omega) (by decide) hM
          have hst := rn_step 3 n x s h1 h2 hy
          have HZ : Hid _ := hst.symm.trans hz.out
          clear hst hz
          by_cases hc : x < 128
          · rw [if_pos hc] at HZ
            by_cases hc0 : x = 0
            · rw [if_pos ⟨by omega, hc0⟩] at HZ
              have hb0 : ((x : Int) == 0) = true := by simp [hc0]
              clear hc0
              have HR : Hid (R = (0, 0)) := HZ.out.symm
              clear HZ
              go_wp2
              go_ret2
              rw [HR.out]
              exact ⟨by simp, rfl⟩
            · rw [if_neg (by omega)] at HZ
              have hb0 : ((x : Int) == 0) = false := by simp [hc0]
              have HR : Hid (R = (n + x * 2097152, 4)) := by show _ = _; rw [← HZ.out]
              clear HZ
              go_wp2
              go_ret2
              rw [HR.out]
              exact ⟨by simp; omega, rfl⟩
          · rw [if_neg hc] at HZ
            go_wp2
            go_round
            case rel => exact ⟨4, n + x % 128 * 2097152, by omega, by omega, by omega, by simp, by go_num, HZ⟩
            case measure => simp [intOf]
        · have hM : n < 268435456 := hn
          have hor : bits .or .i64 (n : Int) ((x : Int) % 128 * 268435456) = ((n + x % 128 * 268435456 : Nat) : Int) := or_seven 4 n x 268435456 (by omega) (by decide) hM
          have hst := rn_step 4 n x s h1 h2 hy
          have HZ : Hid _ := hst.symm.trans hz.out
          clear hst hz
          by_cases hc : x < 128
          · rw [if_pos hc] at HZ
            by_cases hc0 : x = 0
            · rw [if_pos ⟨by omega, hc0⟩] at HZ
              have hb0 : ((x : Int) == 0) = true := by simp [hc0]
              clear hc0
              have HR : Hid (R = (0, 0)) := HZ.out.symm
              clear HZ
              go_wp2
              go_ret2
              rw [HR.out]
              exact ⟨by simp, rfl⟩
            · rw [if_neg (by omega)] at HZ
              have hb0 : ((x : Int) == 0) = false := by simp [hc0]
              have HR : Hid (R = (n + x * 268435456, 5)) := by show _ = _; rw [← HZ.out]
              clear HZ
              go_wp2
              go_ret2
              rw [HR.out]
              exact ⟨by simp; omega, rfl⟩
          · rw [if_neg hc] at HZ
            go_wp2
            go_round
            case rel => exact ⟨5, n + x % 128 * 268435456, by omega, by omega, by omega, by simp, by go_num, HZ⟩
            case measure => simp [intOf]
      · have e : R = (0, 0) := by
          have h := hz.out
          by_cases h5 : k = 5
          · subst h5; exact h.symm
          · rw [List.drop_eq_nil_of_le (by simp; omega)] at h
            rw [← h]
            have : 5 - k = (4 - k) + 1 := by omega
            rw [this]
            rfl
        subst e
        have hm : (s.size : Int) ≤ (k : Int) := by omega
        go_wp2
        go_ret2
        exact ⟨by simp, rfl⟩
end Go.Proofs.Ytalfjdpdecngoaa
