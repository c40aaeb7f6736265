/- The library's Count, TrimLeft and Cut at one byte. -/
import Derived.Test.YtleegplecdknlaaDoorALay
import Derived.Test.YtleegplecdknlaaDoorPPure
namespace Go.Proofs.YtleegplecdknlaaDoor
open Go.RowKit

set_option maxRecDepth 100000 in
set_option maxHeartbeats 1000000 in
theorem count_any (s : ByteArray) (w : World) : Calls Tryd.prog 21 #[.string s, .string ⟨#[34]⟩] w fun e w' => e = .returned (.int .i64 (Lib.countByte s.data.toList 34)) ∧ w' = w := by
  go_enter Tryd.func21, Tryd.ntmps21
  go_wp2
  rw [run_callFunc_extern Tryd.func29 (by kernel_rfl) (by kernel_rfl) (by kernel_rfl) (e := Extern.BytealgCount.count) (by kernel_rfl), Lib.run_countString]
  simp only [Result.andThen]
  rw [Oper.upon_value]
  go_wp2
  go_ret
  exact ⟨rfl, rfl⟩
theorem trim_yes {s : ByteArray} (h : 0 < s.size) (hc : s[0].toNat = 32) : (s.extract 1 s.size).data.toList.dropWhile (· == 32) = s.data.toList.dropWhile (· == 32) := by
  have e := drop_at s 0 h
  rw [List.drop_zero] at e
  have e32 : s[0] = 32 := UInt8.toNat_inj.1 hc
  rw [ba_extract, ← ba_len, List.take_length]
  conv => rhs; rw [e, List.dropWhile_cons, if_pos (by rw [e32]; rfl)]
theorem trim_no {s : ByteArray} (h : 0 < s.size) (hc : s[0].toNat ≠ 32) : s.data.toList.dropWhile (· == 32) = s.data.toList := by
  have e := drop_at s 0 h
  rw [List.drop_zero] at e
  rw [e, List.dropWhile_cons, if_neg (by rw [beq_iff_eq]; intro k; exact hc (by rw [k]; rfl))]
theorem ba_mk (t : ByteArray) : (⟨t.data.toList.toArray⟩ : ByteArray) = t := ba_ext (by simp)
theorem trim_nil {s : ByteArray} (h : s.size = 0) : s.data.toList = [] := List.length_eq_zero_iff.1 (by rw [ba_len]; exact h)

set_option maxRecDepth 100000 in
set_option maxHeartbeats 2000000 in
theorem trimByte_any (s : ByteArray) (w : World) (hs : s.size ≤ 1000) : Calls Tryd.prog 50 #[.string s, .int .u8 32] w fun e w' => e = .returned (.string ⟨(s.data.toList.dropWhile (· == 32)).toArray⟩) ∧ w' = w := by
  obtain ⟨R, hR⟩ : ∃ R, s.data.toList.dropWhile (· == 32) = R := ⟨_, rfl⟩
  rw [hR]
  have HR : Hid (s.data.toList.dropWhile (· == 32) = R) := hR
  clear hR
  go_enter Tryd.func50, Tryd.ntmps50
  go_wp2
  go_loopw [0] (fun v wr => ∃ t : ByteArray, v = .string t ∧ t.size ≤ 1000 ∧ Hid (t.data.toList.dropWhile (· == 32) = R) ∧ wr = w) (fun v _ => strLen v)
  case atStart => exact ⟨s, rfl, hs, HR, rfl⟩
  case round =>
    clear HR
    obtain ⟨t, rfl, ht, hz, rfl⟩ := hrel
    by_cases h0 : t.size = 0
    · have d1 : decide ((0 : Int) < (t.size : Int)) = false := decide_eq_false (by omega)
      have HE : Hid (t.data.toList = R) := by
        show _ = _
        rw [← hz.out, trim_nil h0]; rfl
      clear hz
      go_wp2
      go_ret
      exact ⟨by rw [← HE.out, ba_mk]; rfl, rfl⟩
    · have h1 : 0 < t.size := by omega
      have d1 : decide ((0 : Int) < (t.size : Int)) = true := decide_eq_true (by omega)
      obtain ⟨x, hx⟩ : ∃ x, t[0].toNat = x := ⟨_, rfl⟩
      by_cases hc : x = 32
      · have HE : Hid ((t.extract 1 t.size).data.toList.dropWhile (· == 32) = R) := by
          show _ = _
          rw [← hz.out]; exact trim_yes h1 (by rw [hx, hc])
        have j1 : ((x : Int) == 32) = true := by simp; omega
        clear hz hc
        go_wp2
        go_roundw
        case rel => exact ⟨_, rfl, by simp; omega, HE, trivial⟩
        case measure => simp [strLen]; omega
      · have HE : Hid (t.data.toList = R) := by
          show _ = _
          rw [← hz.out, trim_no h1 (by rw [hx]; exact hc)]
        have j1 : ((x : Int) == 32) = false := by simp; omega
        clear hz hc
        go_wp2
        go_ret
        exact ⟨by rw [← HE.out, ba_mk]; rfl, rfl⟩

set_option maxRecDepth 100000 in
set_option maxHeartbeats 2000000 in
theorem trim_any (s : ByteArray) (w : World) (hs : s.size ≤ 1000) : Calls Tryd.prog 40 #[.string s, .string ⟨#[32]⟩] w fun e w' => e = .returned (.string ⟨(s.data.toList.dropWhile (· == 32)).toArray⟩) ∧ w' = w := by
  by_cases h0 : s.size = 0
  · have e0 : s = ⟨#[]⟩ := ba_ext (by rw [trim_nil h0])
    subst e0
    clear h0
    go_enter Tryd.func40, Tryd.ntmps40
    go_wp2
    go_ret
    exact ⟨rfl, rfl⟩
  · have d1 : (s.toList == []) = false := by
      rw [ByteArray.toList_eq]
      rw [beq_eq_false_iff_ne]
      intro e
      have := congrArg List.length e
      rw [ba_len] at this
      exact h0 this
    clear h0
    go_enter Tryd.func40, Tryd.ntmps40
    go_wp2_with (go_at_call 50; refine (trimByte_any _ _ hs).mono ?_; rintro e w' ⟨rfl, rfl⟩)
    go_ret
    exact ⟨rfl, rfl⟩
end Go.Proofs.YtleegplecdknlaaDoor
