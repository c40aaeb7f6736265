/- The program's quoted, marked, first and wrong. -/
import Derived.Test.YtgmibjcccdgkgaaDoorQRun
namespace Go.Proofs.YtgmibjcccdgkgaaDoor
open Go.RowKit

theorem drop_all (s : ByteArray) (k : Nat) : (s.extract k s.size).data.toList = s.data.toList.drop k := by
  rw [ba_extract, ← ba_len, List.take_length]
/-- where a String ends that goes on at k -/
def Qx (s : ByteArray) (S : Option Nat) (k : Nat) : Prop := (szL (s.data.toList.drop k)).map (· + k) = S
theorem qx_none {s : ByteArray} {S : Option Nat} {k : Nat} (h : Qx s S k) (h1 : szL (s.data.toList.drop k) = none) : S = none := by
  rw [← h, h1]; rfl
theorem qx_at {s : ByteArray} {S : Option Nat} {k n : Nat} (h : Qx s S k) (h4 : szL (s.data.toList.drop k) = (szL ((s.data.toList.drop k).drop n)).map (· + n)) : (szL (s.data.toList.drop (k + n))).map (· + (k + n)) = S := by
  rw [← h, h4, List.drop_drop, Option.map_map]
  congr 1
  funext x
  show x + (k + n) = x + n + k
  omega
theorem byte_drop {s : ByteArray} {k : Nat} {r : List UInt8} (h : s.data.toList.drop k = 39 :: r) : ∃ hk : k < s.size, s[k].toNat = 39 := by
  have hk : k < s.size := by
    have := congrArg List.length h
    rw [List.length_drop, ba_len, List.length_cons] at this
    omega
  rw [drop_at s k hk] at h
  refine ⟨hk, ?_⟩
  rw [(List.cons.inj h).1]; rfl
theorem qx_end {s : ByteArray} {S : Option Nat} {j : Nat} (h : (szL (s.data.toList.drop j)).map (· + j) = S) (hj : j < s.size) (hy : s[j].toNat = 39) (he : j + 1 = s.size ∨ ∃ hk : j + 1 < s.size, s[j + 1].toNat ≠ 39) : S = some (j + 1) := by
  have e : strL (s.data.toList.drop j) = some ([], 1) := by
    rcases he with he | ⟨hk, he⟩
    · exact str_s1 hj hy he
    · exact str_s2 hj hy hk he
  rw [← h, szL, e]
  show some (1 + j) = _
  rw [Nat.add_comm]
theorem qx_two {s : ByteArray} {S : Option Nat} {j : Nat} (h : (szL (s.data.toList.drop j)).map (· + j) = S) (hj : j < s.size) (hy : s[j].toNat = 39) (hk : j + 1 < s.size) (hz : s[j + 1].toNat = 39) : Qx s S (j + 1 + 1) := by
  unfold Qx
  rw [← h]
  unfold szL
  rw [str_s3 hj hy hk hz, Option.map_map, Option.map_map, Option.map_map]
  congr 1
  funext x
  show x.2 + (j + 1 + 1) = x.2 + 2 + j
  omega
def sizeO : Option Nat → Nat
  | none => 0
  | some m => m

set_option maxRecDepth 100000 in
set_option maxHeartbeats 4000000 in
theorem quoted_any (s : ByteArray) (S : Option Nat) (hS : (szL (s.data.toList.drop 1)).map (· + 1) = S) (w : World) (h1 : 0 < s.size) (hs : s.size ≤ 100000) : Calls Tryd.prog 33 #[.string s] w fun e w' => e = .returned (.int .i64 (sizeO S : Int)) ∧ w' = w := by
  have HS : Hid (Qx s S 1) := hS
  clear hS
  go_enter Tryd.func33, Tryd.ntmps33
  go_wp2
  go_loopw [3] (fun i wr => ∃ k : Nat, k ≤ s.size ∧ i = .int .i64 k ∧ Hid (Qx s S k) ∧ wr = w) (fun i _ => s.size - (intOf i).toNat)
  case atStart => exact ⟨1, by omega, rfl, HS, rfl⟩
  case round =>
    clear HS
    obtain ⟨k, hk, rfl, hq, rfl⟩ := hrel
    rcases sz_index (s.data.toList.drop k) with ⟨hi, hn⟩ | ⟨n, hi, hlt, ⟨r, hr⟩, hn⟩
    · have e := qx_none hq.out hn
      subst e
      have HI : Hid (Lib.indexByte (s.extract k s.size).data.toList (39 : Int).toNat.toUInt8 = -1) := by show _ = _; rw [drop_all]; exact hi
      clear hq hi hn
      go_wp2_with (go_at_call 18; refine (strings_ix _ _ _).mono ?_; rw [HI.out]; rintro e w' ⟨rfl, rfl⟩)
      go_ret
      exact ⟨rfl, rfl⟩
    · have HI : Hid (Lib.indexByte (s.extract k s.size).data.toList (39 : Int).toNat.toUInt8 = (n : Int)) := by show _ = _; rw [drop_all]; exact hi
      have hx := qx_at hq.out hn
      rw [List.drop_drop] at hr
      obtain ⟨hj, hy⟩ := byte_drop hr
      rw [List.length_drop, ba_len] at hlt
      have HX : Hid ((szL (s.data.toList.drop (k + n))).map (· + (k + n)) = S) := hx
      have HY : Hid (s[k + n].toNat = 39) := hy
      clear hq hi hn hx hr hy
      have hnn : ¬ ((n : Int) < 0) := by omega
      by_cases he : k + n + 1 = s.size
      · have e := qx_end HX.out hj HY.out (.inl he)
        subst e
        clear HX HY
        have d1 : ((k : Int) + ((n : Int) + 1) == (s.size : Int)) = true := by rw [beq_iff_eq]; omega
        go_wp2_with (go_at_call 18; refine (strings_ix _ _ _).mono ?_; rw [HI.out]; rintro e w' ⟨rfl, rfl⟩)
        go_ret
        exact ⟨ret_int (by show (k : Int) + ((n : Int) + 1) = ((k + n + 1 : Nat) : Int); omega), rfl⟩
      · have hj1 : k + n + 1 < s.size := by omega
        have d1 : ((k : Int) + ((n : Int) + 1) == (s.size : Int)) = false := by rw [beq_eq_false_iff_ne]; omega
        have hix : ((k : Int) + ((n : Int) + 1)).toNat = k + n + 1 := by omega
        obtain ⟨y, hy⟩ : ∃ y, s[k + n + 1].toNat = y := ⟨_, rfl⟩
        by_cases hz : y = 39
        · have HQ : Hid (Qx s S (k + n + 1 + 1)) := qx_two HX.out hj HY.out hj1 (by rw [hy, hz])
          clear HX HY
          have d2 : ((y : Int) != 39) = false := by simp; omega
          clear hz
          go_wp2_with (go_at_call 18; refine (strings_ix _ _ _).mono ?_; rw [HI.out]; rintro e w' ⟨rfl, rfl⟩)
          go_roundw
          case rel => exact ⟨k + n + 1 + 1, by omega, by go_num, HQ, trivial⟩
          case measure => simp [intOf]; omega
        · have e := qx_end HX.out hj HY.out (.inr ⟨hj1, by rw [hy]; exact hz⟩)
          subst e
          clear HX HY
          have d2 : ((y : Int) != 39) = true := by simp; omega
          clear hz
          go_wp2_with (go_at_call 18; refine (strings_ix _ _ _).mono ?_; rw [HI.out]; rintro e w' ⟨rfl, rfl⟩)
          go_ret
          exact ⟨ret_int (by show (k : Int) + ((n : Int) + 1) = ((k + n + 1 : Nat) : Int); omega), rfl⟩
end Go.Proofs.YtgmibjcccdgkgaaDoor
