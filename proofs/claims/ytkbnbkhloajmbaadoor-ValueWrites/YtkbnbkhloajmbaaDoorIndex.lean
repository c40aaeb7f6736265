/- The contracts of strings.Index and strings.Contains at the text of one byte 0. -/
import Derived.Test.YtkbnbkhloajmbaaDoorBack
import Derived.Lib.Bytealg
namespace Go.Proofs.YtkbnbkhloajmbaaDoor
open Go.RowKit Go.Lib

/-- where the first 0 stands, or -1 -/
def idx0 (l : List UInt8) : Int := if lets l < l.length then lets l else -1

theorem lets_cons (c : UInt8) (l : List UInt8) : lets (c :: l) = if c = 0 then 0 else lets l + 1 := by
  unfold lets
  rw [List.findIdx_cons]
  by_cases h : c = 0
  · simp [h]
  · have : (c == 0) = false := by simpa using h
    rw [this, if_neg h]
    rfl

theorem indexByte_eq (l : List UInt8) : indexByte l 0 = idx0 l := by
  induction l with
  | nil => rfl
  | cons c l ih =>
    unfold indexByte
    rw [ih]
    unfold idx0
    rw [lets_cons]
    by_cases h : c = 0
    · simp [h]
    · have : (c == 0) = false := by simpa using h
      rw [this, if_neg h]
      by_cases h2 : lets l < l.length
      · simp [h2]
      · simp [h2]

theorem indexByte_any (s : ByteArray) (w : World) : Calls Tryd.prog 27 #[.string s, .int .u8 0] w fun e w' => e = .returned (.int .i64 (idx0 s.data.toList)) ∧ w' = w := by
  have hx : ∀ W, (callFunc 32 #[.string s, .int .u8 0]).run Tryd.prog W = .ok (.value (.int .i64 (idx0 s.data.toList))) W := by
    intro W
    rw [run_callFunc_extern Tryd.func32 (by kernel_rfl) (by kernel_rfl) (by kernel_rfl) (e := Extern.BytealgIndexByte.indexByte) (by kernel_rfl), Lib.run_indexByteString]
    have e : ((0 : Int).toNat.toUInt8) = 0 := rfl
    rw [e, indexByte_eq]
    rfl
  go_enter Tryd.func27, Tryd.ntmps27
  go_wp2
  go_ret
  exact ⟨rfl, rfl⟩

set_option maxHeartbeats 1000000 in
theorem liteIndex_any (s : ByteArray) (w : World) : Calls Tryd.prog 22 #[.string s, .string ⟨#[0]⟩] w fun e w' => e = .returned (.int .i64 (idx0 s.data.toList)) ∧ w' = w := by
  cases hs : (([0] : List UInt8) == s.toList)
  · go_enter Tryd.func22, Tryd.ntmps22
    go_wp2_with (go_at_call 27; refine (indexByte_any _ _).mono ?_; rintro e w' ⟨rfl, rfl⟩)
    go_ret
    exact ⟨rfl, rfl⟩
  · have HI : Hid (idx0 s.data.toList = 0) := by
      show _ = _
      have : [0] = s.toList := by simpa using hs
      rw [ByteArray.toList_eq] at this
      rw [← this]
      rfl
    go_enter Tryd.func22, Tryd.ntmps22
    go_wp2
    go_ret
    exact ⟨by rw [HI.out]; rfl, rfl⟩

theorem index_any (s : ByteArray) (w : World) : Calls Tryd.prog 16 #[.string s, .string ⟨#[0]⟩] w fun e w' => e = .returned (.int .i64 (idx0 s.data.toList)) ∧ w' = w := by
  go_enter Tryd.func16, Tryd.ntmps16
  go_wp2_with (go_at_call 22; refine (liteIndex_any _ _).mono ?_; rintro e w' ⟨rfl, rfl⟩)
  go_ret
  exact ⟨rfl, rfl⟩

theorem contains_any (s : ByteArray) (w : World) : Calls Tryd.prog 15 #[.string s, .string ⟨#[0]⟩] w fun e w' => e = .returned (.bool (decide (0 ≤ idx0 s.data.toList))) ∧ w' = w := by
  obtain ⟨i, hi⟩ : ∃ i, idx0 s.data.toList = i := ⟨_, rfl⟩
  have HI : Hid _ := hi
  rw [hi]
  clear hi
  go_enter Tryd.func15, Tryd.ntmps15
  go_wp2_with (go_at_call 16; refine (index_any _ _).mono ?_; rw [HI.out]; rintro e w' ⟨rfl, rfl⟩)
  go_ret
  exact ⟨rfl, rfl⟩
end Go.Proofs.YtkbnbkhloajmbaaDoor
