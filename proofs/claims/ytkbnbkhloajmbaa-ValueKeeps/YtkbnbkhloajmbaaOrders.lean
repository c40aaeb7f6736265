/- The walk of ValueOrders. -/
import Derived.Test.YtkbnbkhloajmbaaOrd
namespace Go.Proofs.Ytkbnbkhloajmbaa
open Go.RowKit

theorem bcell {W w1 : World} (hb : Below W.heap.size W w1) : ∀ b o, b < W.heap.size → w1.cell? ⟨b, o, none⟩ = W.cell? ⟨b, o, none⟩ :=
  fun b o h => hb.cell (p := ⟨b, o, none⟩) h

theorem right_as (k n : Int) (s : ByteArray) (c : Bool) (hc : rightB k n s = c) (w : World) (hs : s.size ≤ maxLen) :
    Calls Try.prog 6 #[.agg #[.int .i64 k, .int .i64 n, .string s]] w fun e w' => e = .returned (.bool c) ∧ Below w.heap.size w w' := by
  rw [← hc]; exact right_any k n s w hs
theorem refRight_as (k n : Int) (s : ByteArray) (c : Bool) (hc : rightB k n s = c) (w : World) (hs : s.size ≤ maxLen) :
    Calls Try.prog 7 #[.agg #[.int .i64 k, .int .i64 n, .string s]] w fun e w' => e = .returned (.bool c) ∧ Below w.heap.size w w' := by
  rw [← hc]; exact refRight_any k n s w hs

theorem short_as (a : Option Addr) (len cap : Nat) (xs : List Vl) (c : Bool) (hc : shortB xs = c) (w : World) (hr : Row w a len xs) :
    Calls Try.prog 5 #[.slice a len cap] w fun e w' => e = .returned (.bool c) ∧ w' = w := by
  rw [← hc]; exact short_any a len cap xs w hr

set_option maxHeartbeats 1000000 in
theorem orders_walk (a : Option Addr) (len cap : Nat) (xs : List Vl) (a' : Option Addr) (len' cap' : Nat) (ys : List Vl) (w : World) (hr : Row w a len xs) (hr' : Row w a' len' ys) :
    Calls Try.prog 3 #[.slice a len cap, .slice a' len' cap'] w fun e w' => e = .returned (.bool true) ∧ Below w.heap.size w w' := by
  cases b1 : shortB xs
  · have B1 : Hid _ := b1
    clear b1
    go_enter Try.func3, Try.ntmps3
    go_wp2_with fail
    refine (short_as a len cap xs false B1.out w hr).mono ?_
    rintro e w1 ⟨rfl, rfl⟩
    go_wp2
    go_ret
    exact ⟨rfl, Below.refl _ _⟩
  have B1 : Hid _ := b1
  clear b1
  cases b2 : shortB ys
  · have B2 : Hid _ := b2
    clear b2
    go_enter Try.func3, Try.ntmps3
    go_wp2_with fail
    refine (short_as a len cap xs true B1.out w hr).mono ?_
    rintro e w1 ⟨rfl, rfl⟩
    go_wp2_with fail
    refine (short_as a' len' cap' ys false B2.out _ hr').mono ?_
    rintro e w1 ⟨rfl, rfl⟩
    go_wp2
    go_ret
    exact ⟨rfl, Below.refl _ _⟩
  have B2 : Hid _ := b2
  clear b2
  have hr0 := hr
  have hr0' := hr'
  obtain ⟨rfl, hm, hx⟩ := hr
  obtain ⟨rfl, hm', hx'⟩ := hr'
  unfold maxLen at hm hm'
  go_enter Try.func3, Try.ntmps3
  go_wp2_with fail
  refine (short_as _ _ _ xs true B1.out _ hr0).mono ?_
  rintro e w1 ⟨rfl, rfl⟩
  go_wp2_with fail
  refine (short_as _ _ _ ys true B2.out _ hr0').mono ?_
  rintro e w1 ⟨rfl, rfl⟩
  clear B1 B2
  go_wp2_with fail
  go_loopw [5] (fun i wr => ∃ k : Nat, k ≤ xs.length ∧ i = .int .i64 k ∧ Below w1.heap.size w1 wr) (fun i _ => xs.length - (intOf i).toNat)
  case atStart => exact ⟨0, Nat.zero_le _, rfl, Below.refl _ _⟩
  case round =>
    obtain ⟨k, hk, rfl, hbl⟩ := hrel
    by_cases hlt : k < xs.length
    · rcases hx with hx | ⟨b, off, rfl, hb, hrow⟩
      · simp [hx] at hlt
      obtain ⟨g1, g2, g3, g4⟩ := hrow k hlt
      rw [← hbl.cell (p := ⟨b, _, none⟩) hb] at g1 g2 g3
      have hbs := hbl.size
      have hb2 : b < wr.heap.size := by omega
      have i1 : (k : Int) < (xs.length : Int) := by omega
      generalize hx1 : xs[k] = x at *
      clear hx1
      obtain ⟨c, hc⟩ : ∃ c, rightB x.k x.n x.s = c := ⟨_, rfl⟩
      have HC : Hid _ := hc
      have HG : Hid _ := g4
      clear hc g4
      go_wp2_with fail
      go_region_held3 (fun w' => b < w'.heap.size ∧ w'.cell? ⟨b, off + k * 3, none⟩ = some (.int .i64 x.k) ∧ w'.cell? ⟨b, off + k * 3 + 1, none⟩ = some (.int .i64 x.n) ∧ w'.cell? ⟨b, off + k * 3 + 2, none⟩ = some (.string x.s)) (first | (simp [*]; done) | (refine ⟨?_, ?_, ?_, ?_⟩ <;> first | (simp [*]; done) | (simp at *; omega)))
        (first
          | (go_at_call 6; refine (right_as _ _ _ c HC.out _ HG.out).mono ?_; rintro e w2 ⟨rfl, hbw2⟩; have hz2 : wr.heap.size ≤ w2.heap.size := hbw2.size; have hc2 := fun o => bcell hbw2 b o hb2)
          | (go_at_call 7; refine (refRight_as _ _ _ c HC.out _ HG.out).mono ?_; rintro e w3 ⟨rfl, hbw3⟩; have hz3 := hbw3.size; have hc3 := fun o => bcell hbw3 b o (by omega)))
      have hb4 : Below w1.heap.size w1 w3 := hbl.drew.trans ((hbw2.mono hbs).trans (hbw3.mono (by omega)))
      clear hbw2 hbw3 hz2 hz3 hc2 hc3 HC HG hbl g1 g2 g3 hbs hb2
      go_wp2_with fail
      go_loopw [6] (fun i wi => ∃ j : Nat, j ≤ ys.length ∧ i = .int .i64 j ∧ Below w1.heap.size w1 wi) (fun i _ => ys.length - (intOf i).toNat)
      case atStart => exact ⟨0, Nat.zero_le _, rfl, hb4⟩
      case round =>
        clear hb4
        obtain ⟨j, hj, rfl, hbl⟩ := hrel
        by_cases hlt' : j < ys.length
        · rcases hx' with hx' | ⟨b', off', rfl, hb', hrow'⟩
          · simp [hx'] at hlt'
          obtain ⟨g1, g2, g3, g4⟩ := hrow k hlt
          obtain ⟨e1, e2, e3, e4⟩ := hrow' j hlt'
          clear hrow hrow' g4 e4
          rw [← hbl.cell (p := ⟨b, _, none⟩) hb] at g1 g2 g3
          rw [← hbl.cell (p := ⟨b', _, none⟩) hb'] at e1 e2 e3
          have hbs := hbl.size
          have hb2 : b < wr.heap.size := by omega
          have hb2' : b' < wr.heap.size := by omega
          have i1 : (k : Int) < (xs.length : Int) := by omega
          have i2 : (j : Int) < (ys.length : Int) := by omega
          generalize xs[k] = x at *
          generalize ys[j] = y at *
          obtain ⟨c, hc⟩ : ∃ c, cmpV x.k x.n x.s y.k y.n y.s = c := ⟨_, rfl⟩
          have HC : Hid _ := hc
          clear hc
          go_wp2_with fail
          go_region_held3 (fun w' => w'.cell? ⟨b, off + k * 3, none⟩ = some (.int .i64 x.k) ∧ w'.cell? ⟨b, off + k * 3 + 1, none⟩ = some (.int .i64 x.n) ∧ w'.cell? ⟨b, off + k * 3 + 2, none⟩ = some (.string x.s) ∧ w'.cell? ⟨b', off' + j * 3, none⟩ = some (.int .i64 y.k) ∧ w'.cell? ⟨b', off' + j * 3 + 1, none⟩ = some (.int .i64 y.n) ∧ w'.cell? ⟨b', off' + j * 3 + 2, none⟩ = some (.string y.s)) (simp [*])
            (first
              | (go_at_call 8; refine (compare_as _ _ _ _ _ _ c HC.out _).mono ?_; rintro e w2 ⟨rfl, hbw2⟩; have hz2 : wr.heap.size ≤ w2.heap.size := hbw2.size; have hc2 := fun o => bcell hbw2 b o hb2; have hd2 := fun o => bcell hbw2 b' o hb2')
              | (go_at_call 9; refine (refCompare_as _ _ _ _ _ _ c HC.out _).mono ?_; rintro e w3 ⟨rfl, hbw3⟩; have hz3 := hbw3.size; have hc3 := fun o => bcell hbw3 b o (by omega); have hd3 := fun o => bcell hbw3 b' o (by omega)))
          have hb4 : Below w1.heap.size w1 w3 := hbl.drew.trans ((hbw2.mono hbs).trans (hbw3.mono (by omega)))
          clear hbw2 hbw3 hz2 hz3 hc2 hc3 hd2 hd3 HC hbl g1 g2 g3 e1 e2 e3 hbs hb2 hb2'
          go_wp2
          go_roundw
          case rel => exact ⟨j + 1, by omega, by go_num, hb4⟩
          case measure => simp [intOf]; omega
        · go_wp2
          go_roundw
          case rel => exact ⟨k + 1, by omega, by go_num, hbl⟩
          case measure => simp [intOf]; omega
    · go_wp2_with fail
      have hbs := hbl.size
      refine (order_any _ _ _ xs _ _ _ ys _ (hr0.below hbl (Nat.le_refl _)) (hr0'.below hbl (Nat.le_refl _))).mono ?_
      rintro e w2 ⟨rfl, hbw2⟩
      have hb2 : Below w1.heap.size w1 w2 := hbl.trans (hbw2.mono hbs)
      have hbs2 := hb2.size
      clear hbw2 hbl
      go_wp2_with fail
      refine (refOrder_any _ _ _ xs _ _ _ ys _ (hr0.below hb2 (Nat.le_refl _)) (hr0'.below hb2 (Nat.le_refl _))).mono ?_
      rintro e w3 ⟨rfl, hbw3⟩
      go_wp2
      go_ret
      exact ⟨ret_bool (by simp), hb2.trans (hbw3.mono hbs2)⟩
end Go.Proofs.Ytkbnbkhloajmbaa
