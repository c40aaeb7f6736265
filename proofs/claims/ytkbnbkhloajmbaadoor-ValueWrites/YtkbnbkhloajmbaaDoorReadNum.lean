/- The contract of readNumber. -/
import Derived.Test.YtkbnbkhloajmbaaDoorLeaf
namespace Go.Proofs.YtkbnbkhloajmbaaDoor
open Go.RowKit

/-- bytes as a number, the greatest first -/
def numOf (l : List UInt8) : Nat := l.foldl (fun u b => u * 256 + b.toNat) 0

set_option maxRecDepth 100000 in
set_option maxHeartbeats 400000 in
theorem readNumber_short (s : ByteArray) (w : World) (hs : s.size < 9) :
    Calls Tryd.prog 23 #[.string s] w fun e w' => e = .returned (.tuple #[.agg #[.int .i64 0, .int .i64 0, .string ⟨#[]⟩], .int .i64 0]) ∧ Below w.heap.size w w' := by
  have hs' : (s.size : Int) < 9 := by omega
  go_enter Tryd.func23, Tryd.ntmps23
  go_wp2
  exact bodyPost_ret (v := .tuple #[.agg #[.int .i64 0, .int .i64 0, .string ⟨#[]⟩], .int .i64 0]) (by simp [results, Tryd.results23, go_sem]) rfl ⟨rfl, (Below.refl _ _).alloc (Nat.le_refl _) _⟩

theorem or_u64 (a b : Nat) (ha : a * 256 < 18446744073709551616) (hb : b < 256) :
    bits .or .u64 (IntKind.u64.wrap ((a : Int) * 256)) (IntKind.u64.wrap (b : Int)) = ((a * 256 + b : Nat) : Int) := by
  have e1 : IntKind.u64.wrap ((a : Int) * 256) = ((a * 256 : Nat) : Int) := by rw [IntKind.wrap_u64]; omega
  have e2 : IntKind.u64.wrap (b : Int) = (b : Int) := by rw [IntKind.wrap_u64]; omega
  rw [e1, e2]
  have h1 : (BitVec.ofInt 64 ((a * 256 : Nat) : Int)).toNat = a * 256 := by
    rw [BitVec.ofInt_natCast, BitVec.toNat_ofNat]; exact Nat.mod_eq_of_lt (by omega)
  have h2 : (BitVec.ofInt 64 (b : Int)).toNat = b := by
    rw [BitVec.ofInt_natCast, BitVec.toNat_ofNat]; exact Nat.mod_eq_of_lt (by omega)
  show IntKind.u64.wrap ((BitVec.ofInt 64 ((a * 256 : Nat) : Int) ||| BitVec.ofInt 64 (b : Int)).toNat : Int) = _
  rw [BitVec.toNat_or, h1, h2]
  have h3 : a * 256 ||| b = a * 256 + b := by
    have := Nat.two_pow_add_eq_or_of_lt (i := 8) (b := b) (by omega) a
    rw [Nat.mul_comm]; exact this.symm
  rw [h3, IntKind.wrap_u64]
  omega

theorem numOf_step (l : List UInt8) (k : Nat) (h : k < l.length) : numOf (l.take (k + 1)) = numOf (l.take k) * 256 + l[k].toNat := by
  unfold numOf
  rw [List.take_succ_eq_append_getElem h, List.foldl_append]
  rfl

theorem pow_le (k m : Nat) (h : k < 8) (hm : m < 256 ^ k) : m * 256 < 18446744073709551616 := by
  have : 256 ^ k ≤ 256 ^ 7 := Nat.pow_le_pow_right (by omega) (by omega)
  have e : (256 : Nat) ^ 7 = 72057594037927936 := by decide
  omega

theorem back_num (m : Nat) (h : m < 256 ^ 8) : wrap64 (IntKind.u64.wrap ((m : Int) - 9223372036854775808)) = (m : Int) - 9223372036854775808 := by
  have e : (256 : Nat) ^ 8 = 18446744073709551616 := by decide
  rw [IntKind.wrap_u64]
  unfold wrap64
  omega

set_option maxRecDepth 100000 in
set_option maxHeartbeats 400000 in
theorem readNumber_any (s : ByteArray) (w : World) (hs : 9 ≤ s.size) (hm : s.size ≤ maxLen) :
    Calls Tryd.prog 23 #[.string s] w fun e w' => e = .returned (.tuple #[.agg #[.int .i64 1, .int .i64 ((numOf ((s.data.toList.tail).take 8) : Int) - 9223372036854775808), .string ⟨#[]⟩], .int .i64 9]) ∧ Below w.heap.size w w' := by
  unfold maxLen at hm
  have hs' : ¬ (s.size : Int) < 9 := by omega
  go_enter Tryd.func23, Tryd.ntmps23
  go_wp2
  go_loop [4, 10] (fun u i => ∃ k m : Nat, k ≤ 8 ∧ i = .int .i64 k ∧ u = .int .u64 m ∧ Hid (m = numOf ((s.data.toList.tail).take k)) ∧ m < 256 ^ k) (fun _ i => 8 - (intOf i).toNat)
  case atStart => exact ⟨0, 0, by omega, rfl, rfl, rfl, by simp⟩
  case round =>
    obtain ⟨k, m, hk, rfl, rfl, hn, hlt2⟩ := hrel
    by_cases hlt : k < 8
    · have hlt' : (k : Int) < 8 := by omega
      have hix : 1 + k < s.size := by omega
      have hdl : k < s.data.toList.tail.length := by simp; omega
      have hst := numOf_step s.data.toList.tail k hdl
      have HO : Hid _ := or_u64 m s[1 + k].toNat (pow_le k m hlt hlt2) s[1 + k].toNat_lt
      have HC : Hid _ := s[1 + k].toNat_lt
      have hgt : s.data.toList.tail[k] = s[1 + k] := by
        rw [List.getElem_tail, Array.getElem_toList]
        simp only [Nat.add_comm k 1]
        rfl
      rw [hgt] at hst
      have HS : Hid _ := hst
      have HL : Hid _ := hlt2
      clear hst hgt hlt2
      go_wp2
      go_round
      case rel =>
        refine ⟨k + 1, m * 256 + s[1 + k].toNat, by omega, by go_num, by rw [HO.out], ?_, ?_⟩
        · show _ = _
          rw [HS.out, ← hn.out]
        · have h1 := HL.out
          have h2 := HC.out
          rw [Nat.pow_succ]
          omega
      case measure => simp [intOf]; omega
    · obtain rfl : k = 8 := by omega
      have HB : Hid _ := back_num m hlt2
      clear hlt2
      go_wp2
      rw [← hn.out, HB.out]
      exact bodyPost_ret (v := .tuple #[.agg #[.int .i64 1, .int .i64 ((m : Int) - 9223372036854775808), .string ⟨#[]⟩], .int .i64 9]) (by simp [results, Tryd.results23, go_sem]) rfl ⟨rfl, (Below.refl _ _).alloc (Nat.le_refl _) _⟩
end Go.Proofs.YtkbnbkhloajmbaaDoor
