/- The contract of the fact ordered. -/
import Derived.Test.YtkbnbkhloajmbaaSame
namespace Go.Proofs.Ytkbnbkhloajmbaa
open Go.RowKit Go.Lib

theorem number_any (n : Int) (w : World) : Calls Try.prog 23 #[.int .i64 n] w fun e w' => e = .returned (.agg #[.int .i64 1, .int .i64 n, .string ⟨#[]⟩]) ∧ Below w.heap.size w w' := by
  go_enter Try.func23, Try.ntmps23
  go_wp2
  exact bodyPost_ret (v := .agg #[.int .i64 1, .int .i64 n, .string ⟨#[]⟩]) (by simp [results, Try.results23, go_sem]) rfl ⟨rfl, (Below.refl _ _).alloc (Nat.le_refl _) _⟩
theorem text_any (s : ByteArray) (w : World) : Calls Try.prog 24 #[.string s] w fun e w' => e = .returned (.agg #[.int .i64 2, .int .i64 0, .string s]) ∧ Below w.heap.size w w' := by
  go_enter Try.func24, Try.ntmps24
  go_wp2
  exact bodyPost_ret (v := .agg #[.int .i64 2, .int .i64 0, .string s]) (by simp [results, Try.results24, go_sem]) rfl ⟨rfl, (Below.refl _ _).alloc (Nat.le_refl _) _⟩

def xs0 : List Vl := [⟨0, 0, ⟨#[]⟩⟩, ⟨1, 1, ⟨#[]⟩⟩, ⟨2, 0, ⟨#[97]⟩⟩]
theorem key0 : keyL xs0 = [1, 2, 128, 0, 0, 0, 0, 0, 0, 1, 3, 97, 0] := by decide +kernel
theorem right0 : ∀ x ∈ xs0, rightW x = true := by
  intro x hx
  simp [xs0] at hx
  rcases hx with rfl | rfl | rfl <;> decide +kernel
theorem fits0 : ∀ x ∈ xs0, Fits x := by
  intro x hx
  simp [xs0] at hx
  rcases hx with rfl | rfl | rfl <;> exact ⟨by decide +kernel, by decide +kernel⟩
theorem cmp0 : cmpV 1 5 ⟨#[]⟩ 2 0 ⟨#[]⟩ = -1 := cmpV_k1 (by decide)

theorem row0 (w : World) : Row (w.alloc (.cells #[.int .i64 0, .int .i64 0, .string ⟨#[]⟩, .int .i64 1, .int .i64 1, .string ⟨#[]⟩, .int .i64 2, .int .i64 0, .string ⟨#[97]⟩] 26)) (some ⟨w.heap.size, 0, none⟩) 3 xs0 := by
  refine ⟨rfl, by decide, .inr ⟨w.heap.size, 0, rfl, by simp, fun i hi => ?_⟩⟩
  have hi' : i < 3 := hi
  match i, hi' with
  | 0, _ => exact ⟨by simp [xs0], by simp [xs0], by simp [xs0], by show 0 ≤ maxLen; unfold maxLen; omega⟩
  | 1, _ => exact ⟨by simp [xs0], by simp [xs0], by simp [xs0], by show 0 ≤ maxLen; unfold maxLen; omega⟩
  | 2, _ => exact ⟨by simp [xs0], by simp [xs0], by simp [xs0], by show 1 ≤ maxLen; unfold maxLen; omega⟩

theorem key_ok0 {a : Option Addr} {cap : Nat} (w : World) (hr : Row w a 3 xs0) :
    Calls Try.prog 14 #[.slice a 3 cap] w fun e w' => e = .returned (.tuple #[.string (strOf (keyL xs0)), .nilIface]) ∧ Below w.heap.size w w' :=
  key_ok a 3 cap xs0 w hr fits0 (by decide) right0

set_option maxHeartbeats 1000000 in
theorem ordered_any (w : World) : Calls Try.prog 13 #[] w fun e w' => e = .returned (.bool true) ∧ Below w.heap.size w w' := by
  go_enter Try.func13, Try.ntmps13
  go_wp2_with fail
  refine (number_any _ _).mono ?_
  rintro e w1 ⟨rfl, hb1⟩
  go_wp2_with fail
  refine (text_any _ _).mono ?_
  rintro e w2 ⟨rfl, hb2⟩
  have h12 := hb1.size
  have hw2 : Below w.heap.size w w2 := hb1.trans (hb2.mono h12)
  have hs2 := hw2.size
  clear hb1 hb2
  go_wp2_with fail
  have hrow := row0 w2
  refine (key_ok0 _ hrow).mono ?_
  rintro e w3 ⟨rfl, hb3⟩
  have hw3 : Below w.heap.size w w3 := (hw2.alloc hs2 _).trans (hb3.mono (by simp; omega))
  have hs3 := hw3.size
  clear hb3 hw2 hrow
  have hk : ((strOf (keyL xs0)).toList == [1, 2, 128, 0, 0, 0, 0, 0, 0, 1, 3, 97, 0]) = true := by
    rw [ByteArray.toList_eq, key0]
    decide +kernel
  generalize strOf (keyL xs0) = ks at *
  go_wp2_with fail
  refine (number_any _ _).mono ?_
  rintro e w4 ⟨rfl, hb4⟩
  go_wp2_with fail
  refine (text_any _ _).mono ?_
  rintro e w5 ⟨rfl, hb5⟩
  go_wp2_with fail
  refine (compare_as _ _ _ _ _ _ _ cmp0 _).mono ?_
  rintro e w6 ⟨rfl, hb6⟩
  have hw4 := hw3.trans (hb4.mono hs3)
  have hs4 := hw4.size
  have hw5 := hw4.trans (hb5.mono hs4)
  have hs5 := hw5.size
  have hw6 := hw5.trans (hb6.mono hs5)
  clear hb4 hb5 hb6 hw3 hw4 hw5
  go_wp2
  go_ret
  exact ⟨rfl, hw6⟩
end Go.Proofs.Ytkbnbkhloajmbaa
