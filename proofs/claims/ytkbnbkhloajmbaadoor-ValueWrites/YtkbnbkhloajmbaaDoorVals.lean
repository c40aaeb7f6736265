/- The contracts of Right and Compare, the program's and the document's. -/
import Derived.Test.YtkbnbkhloajmbaaDoorLeaf
import Derived.Laws.StructEq
namespace Go.Proofs.YtkbnbkhloajmbaaDoor
open Go.RowKit

/-- a value -/
def val (k n : Int) (s : ByteArray) : Value := .agg #[.int .i64 k, .int .i64 n, .string s]

/-- which values may be -/
def rightB (k n : Int) (s : ByteArray) : Bool :=
  if k = 0 then (n == 0) && s.toList.isEmpty else if k = 1 then s.toList.isEmpty else if k = 2 then (n == 0) && textB s else false

set_option maxHeartbeats 400000 in
theorem right_any (k n : Int) (s : ByteArray) (w : World) (hs : s.size ≤ maxLen) :
    Calls Tryd.prog 13 #[.agg #[.int .i64 k, .int .i64 n, .string s]] w fun e w' => e = .returned (.bool (rightB k n s)) ∧ Below w.heap.size w w' := by
  by_cases k0 : k = 0
  · subst k0
    cases hn : (n == 0)
    · go_enter Tryd.func13, Tryd.ntmps13
      go_wp2
      go_ret
      exact ⟨ret_bool (by simp [rightB, hn]), (Below.refl _ _).alloc (Nat.le_refl _) _⟩
    · go_enter Tryd.func13, Tryd.ntmps13
      go_wp2
      go_ret
      exact ⟨ret_bool (by simp [rightB, hn]), (Below.refl _ _).alloc (Nat.le_refl _) _⟩
  have b0 : (k == 0) = false := by simp [k0]
  by_cases k1 : k = 1
  · subst k1
    go_enter Tryd.func13, Tryd.ntmps13
    go_wp2
    go_ret
    exact ⟨ret_bool (by simp [rightB]), (Below.refl _ _).alloc (Nat.le_refl _) _⟩
  have b1 : (k == 1) = false := by simp [k1]
  by_cases k2 : k = 2
  · subst k2
    cases hn : (n == 0)
    · go_enter Tryd.func13, Tryd.ntmps13
      go_wp2_with (go_at_call 20; refine (rightText_any _ _ hs).mono ?_; rintro e w' ⟨rfl, rfl⟩)
      go_ret
      exact ⟨ret_bool (by simp [rightB, hn]), (Below.refl _ _).alloc (Nat.le_refl _) _⟩
    · go_enter Tryd.func13, Tryd.ntmps13
      go_wp2_with (go_at_call 20; refine (rightText_any _ _ hs).mono ?_; rintro e w' ⟨rfl, rfl⟩)
      go_ret
      exact ⟨ret_bool (by simp [rightB, hn]), (Below.refl _ _).alloc (Nat.le_refl _) _⟩
  have b2 : (k == 2) = false := by simp [k2]
  have HR : Hid (rightB k n s = false) := by show _ = _; simp [rightB, k0, k1, k2]
  clear k0 k1 k2
  go_enter Tryd.func13, Tryd.ntmps13
  go_wp2
  go_ret
  exact ⟨ret_bool HR.out.symm, (Below.refl _ _).alloc (Nat.le_refl _) _⟩

end Go.Proofs.YtkbnbkhloajmbaaDoor
