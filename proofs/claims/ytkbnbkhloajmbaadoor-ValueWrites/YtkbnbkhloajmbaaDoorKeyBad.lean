/- The contract of Key where a value may not be. -/
import Derived.Test.YtkbnbkhloajmbaaDoorKey
namespace Go.Proofs.YtkbnbkhloajmbaaDoor
open Go.RowKit

set_option maxRecDepth 100000 in
set_option maxHeartbeats 400000 in
theorem key_bad (a : Option Addr) (len cap : Nat) (xs : List Vl) (w : World) (hr : Row w a len xs) (hf : ∀ x ∈ xs, Fits x) (hlen : xs.length ≤ 1000) (j : Nat) (hj : j < xs.length) (hbad : rightW xs[j] = false) (hall : ∀ x ∈ xs.take j, rightW x = true) :
    Calls Tryd.prog 6 #[.slice a len cap] w fun e w' => ∃ g, e = .returned (.tuple #[.string ⟨#[]⟩, .iface 46 (.pointer (some ⟨g, 0, none⟩))]) ∧ w.heap.size ≤ g ∧ g < w'.heap.size ∧ w'.cell? ⟨g, 0, none⟩ = some (.int .i64 1) ∧ w'.cell? ⟨g, 1, none⟩ = some (.int .i64 j) ∧ Below w.heap.size w w' := by
  obtain ⟨rfl, hm, hx⟩ := hr
  clear hm
  go_enter Tryd.func6, Tryd.ntmps6
  go_wp2
  go_loopw [4, 9] (fun v i wr => ∃ k : Nat, k ≤ j ∧ i = .int .i64 k ∧ wr.ownsRow w.heap.size 5 1 v (keyL (xs.take k)).length (bc (keyL (xs.take k))) ∧ Below w.heap.size w wr) (fun _ i _ => xs.length - (intOf i).toNat)
  case atStart => exact ⟨0, Nat.zero_le _, rfl, World.ownsRow_nil _ _ _ _, Below.refl _ _⟩
  case round =>
    obtain ⟨k, hk, rfl, hown, hbl⟩ := hrel
    have hbs := hbl.size
    have hlt : k < xs.length := by omega
    have hlt' : (k : Int) < (xs.length : Int) := by omega
    rcases hx with hx | ⟨b, off, rfl, hb, hrow⟩
    · simp [hx] at hlt
    obtain ⟨g1, g2, g3, g4⟩ := hrow k hlt
    clear hrow
    rw [← hbl.cell (p := ⟨b, _, none⟩) hb] at g1 g2 g3
    have hb2 : b < wr.heap.size := by omega
    by_cases hkj : k < j
    · have hfx := hf _ (List.getElem_mem hlt)
      have hrx : rightW xs[k] = true := hall _ (by rw [List.mem_take_iff_getElem]; exact ⟨k, by omega, rfl⟩)
      have hkl : Hid _ := keyL_take xs k hlt
      have hle : (keyL (xs.take k)).length ≤ 900000 := by
        have := keyL_le (xs.take k) (fun x hx => hall x (List.take_subset_take_left xs hk hx))
        simp at this
        omega
      generalize xs[k] = x at *
      have HF : Hid _ := hfx
      have HR : Hid _ := hrx
      have HA : Hid _ := hall
      have HFs : Hid _ := hf
      have HBad : Hid _ := hbad
      clear hfx hrx hall hf hbad
      go_wp2_with fail
      refine (right_as _ _ _ true HR.out _ g4).mono ?_
      rintro e w1 ⟨rfl, hb1⟩
      have hown1 := own_below (hown.alloc _) hb1 (Nat.le_refl _)
      have hbl1 : Below w.heap.size w w1 := (hbl.alloc hbs _).trans (hb1.mono (by simp; omega))
      have hbs1 := hbl1.size
      have hc1 := fun o => bcell hb1 wr.heap.size o (by simp)
      clear hown hbl hb1
      go_wp2_with fail
      refine (appendValue_any w.heap.size _ (keyL (List.take k xs)) x _ hown1 hbs1 hle HF.out HR.out).mono ?_
      rintro e w2 ⟨v2, rfl, ho2, hb2⟩
      rw [← hkl.out] at ho2
      have hbl2 := hbl1.trans hb2
      clear hown1 hbl1 hb2
      go_wp2
      go_roundw
      case rel => exact ⟨k + 1, by omega, by go_num, ho2, hbl2⟩
      case measure => simp [intOf]; omega
    · obtain rfl : k = j := by omega
      generalize xs[k] = x at *
      have HR : Hid _ := hbad
      have HA : Hid _ := hall
      have HFs : Hid _ := hf
      clear hbad hall hf hown
      go_wp2_with fail
      refine (right_as _ _ _ false HR.out _ g4).mono ?_
      rintro e w1 ⟨rfl, hb1⟩
      have hbl1 : Below w.heap.size w w1 := (hbl.alloc hbs _).trans (hb1.mono (by simp; omega))
      have hbs1 := hbl1.size
      clear hbl hb1
      go_wp2
      go_ret2
      exact ⟨w1.heap.size, rfl, hbs1, by simp, by simp, by simp, hbl1.alloc hbs1 _⟩

/-- the first value that may not be -/
theorem first_bad (xs : List Vl) (h : ¬ ∀ x ∈ xs, rightW x = true) : ∃ j, ∃ hj : j < xs.length, rightW xs[j] = false ∧ ∀ x ∈ xs.take j, rightW x = true := by
  induction xs with
  | nil => exact absurd (fun x hx => by cases hx) h
  | cons y ys ih =>
    by_cases hy : rightW y = true
    · obtain ⟨j, hj, h1, h2⟩ := ih (fun hall => h (fun x hx => by
        rcases List.mem_cons.1 hx with rfl | hx
        · exact hy
        · exact hall x hx))
      refine ⟨j + 1, by simpa using hj, by simpa using h1, fun x hx => ?_⟩
      rw [List.take_succ_cons] at hx
      rcases List.mem_cons.1 hx with rfl | hx
      · exact hy
      · exact h2 x hx
    · exact ⟨0, by simp, by simpa using hy, fun x hx => by simp at hx⟩
end Go.Proofs.YtkbnbkhloajmbaaDoor
