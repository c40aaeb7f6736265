/- The contracts of Order, the program's (by slices.CompareFunc) and the document's. -/
import Derived.Test.YtkbnbkhloajmbaaShort
import Derived.Deep.QuietTactic
import Derived.BigQuiet
import Derived.Deep.RegionWith
import Derived.Deep.RegionHeld3
namespace Go.Proofs.Ytkbnbkhloajmbaa
open Go.RowKit

def cmpW (x y : Vl) : Int := cmpV x.k x.n x.s y.k y.n y.s

/-- the order of lists -/
def ordL : List Vl → List Vl → Int
  | [], [] => 0
  | [], _ :: _ => -1
  | _ :: _, [] => 1
  | x :: xs, y :: ys => if cmpW x y = 0 then ordL xs ys else cmpW x y

theorem ordL_step (xs ys : List Vl) (k : Nat) (h1 : k < xs.length) (h2 : k < ys.length) :
    ordL (xs.drop k) (ys.drop k) = if cmpW xs[k] ys[k] = 0 then ordL (xs.drop (k + 1)) (ys.drop (k + 1)) else cmpW xs[k] ys[k] := by
  rw [List.drop_eq_getElem_cons h1, List.drop_eq_getElem_cons h2]; rfl
theorem ordL_left (xs ys : List Vl) (k : Nat) (h1 : k < xs.length) (h2 : ys.length ≤ k) : ordL (xs.drop k) (ys.drop k) = 1 := by
  rw [List.drop_eq_getElem_cons h1, List.drop_eq_nil_of_le h2]; rfl
theorem ordL_right (xs ys : List Vl) (k : Nat) (h1 : xs.length ≤ k) (h2 : k < ys.length) : ordL (xs.drop k) (ys.drop k) = -1 := by
  rw [List.drop_eq_getElem_cons h2, List.drop_eq_nil_of_le h1]; rfl
theorem ordL_both (xs ys : List Vl) (k : Nat) (h1 : xs.length ≤ k) (h2 : ys.length ≤ k) : ordL (xs.drop k) (ys.drop k) = 0 := by
  rw [List.drop_eq_nil_of_le h1, List.drop_eq_nil_of_le h2]; rfl

theorem compare_as (k n : Int) (s : ByteArray) (k' n' : Int) (s' : ByteArray) (c : Int) (hc : cmpV k n s k' n' s' = c) (w : World) :
    Calls Try.prog 8 #[.agg #[.int .i64 k, .int .i64 n, .string s], .agg #[.int .i64 k', .int .i64 n', .string s']] w fun e w' => e = .returned (.int .i64 c) ∧ Below w.heap.size w w' := by
  rw [← hc]; exact compare_any k n s k' n' s' w
theorem refCompare_as (k n : Int) (s : ByteArray) (k' n' : Int) (s' : ByteArray) (c : Int) (hc : cmpV k n s k' n' s' = c) (w : World) :
    Calls Try.prog 9 #[.agg #[.int .i64 k, .int .i64 n, .string s], .agg #[.int .i64 k', .int .i64 n', .string s']] w fun e w' => e = .returned (.int .i64 c) ∧ Below w.heap.size w w' := by
  rw [← hc]; exact refCompare_any k n s k' n' s' w

set_option maxHeartbeats 400000 in
theorem compareFunc_any (a : Option Addr) (len cap : Nat) (xs : List Vl) (a' : Option Addr) (len' cap' : Nat) (ys : List Vl) (w : World) (hr : Row w a len xs) (hr' : Row w a' len' ys) :
    Calls Try.prog 22 #[.slice a len cap, .slice a' len' cap', .func (.func 8) #[] #[]] w fun e w' => e = .returned (.int .i64 (ordL xs ys)) ∧ Below w.heap.size w w' := by
  obtain ⟨rfl, hm, hx⟩ := hr
  obtain ⟨rfl, hm', hx'⟩ := hr'
  unfold maxLen at hm hm'
  go_enter Try.func22, Try.ntmps22
  go_wp2_with fail
  go_loopw [13] (fun i wr => ∃ k : Nat, k ≤ xs.length ∧ k ≤ ys.length ∧ i = .int .i64 k ∧ Hid (ordL (xs.drop k) (ys.drop k) = ordL xs ys) ∧ Below w.heap.size w wr) (fun i _ => xs.length - (intOf i).toNat)
  case atStart => exact ⟨0, Nat.zero_le _, Nat.zero_le _, rfl, rfl, Below.refl _ _⟩
  case round =>
    obtain ⟨k, hk, hk', rfl, ho, hbl⟩ := hrel
    by_cases hlt : k < xs.length
    · by_cases hlt' : k < ys.length
      · rcases hx with hx | ⟨b, off, rfl, hb, hrow⟩
        · simp [hx] at hlt
        rcases hx' with hx' | ⟨b', off', rfl, hb', hrow'⟩
        · simp [hx'] at hlt'
        have hst : Hid _ := ordL_step xs ys k hlt hlt'
        obtain ⟨g1, g2, g3, g4⟩ := hrow k hlt
        obtain ⟨e1, e2, e3, e4⟩ := hrow' k hlt'
        clear hrow hrow' g4 e4
        rw [← hbl.cell (p := ⟨b, _, none⟩) hb] at g1 g2 g3
        rw [← hbl.cell (p := ⟨b', _, none⟩) hb'] at e1 e2 e3
        have hbs := hbl.size
        have hb2 : b < wr.heap.size := by omega
        have hb2' : b' < wr.heap.size := by omega
        generalize hx1 : xs[k] = x at *
        generalize hy1 : ys[k] = y at *
        obtain ⟨c, hc⟩ : ∃ c, cmpV x.k x.n x.s y.k y.n y.s = c := ⟨_, rfl⟩
        have HC : Hid _ := hc
        clear hc hx1 hy1
        have HX : Hid (cmpW x y = c) := HC
        go_wp2_with fail
        refine (compare_as _ _ _ _ _ _ c HC.out _).mono ?_
        rintro e w1 ⟨rfl, hb1⟩
        have hfin : Below w.heap.size w w1 := ((hbl.alloc hbs _).alloc (by simp; omega) _).trans (hb1.mono (by simp; omega))
        clear hb1 hbl
        go_wp2
        · go_ret
          refine ⟨ret_int ?_, hfin⟩
          have hne : (c != 0) = true := by assumption
          rw [← ho.out, hst.out, HX.out, if_neg (by simpa using hne)]
        · have hne : (c != 0) = false := by assumption
          go_roundw
          case rel =>
            refine ⟨k + 1, by omega, by omega, by go_num, ?_, hfin⟩
            show _ = _
            rw [← ho.out, hst.out, HX.out, if_pos (by simpa using hne)]
          case measure => simp [intOf]; omega
      · have HR : Hid (ordL xs ys = 1) := by show _ = _; rw [← ho.out, ordL_left xs ys k hlt (by omega)]
        rcases hx with hx | ⟨b, off, rfl, hb, hrow⟩
        · simp [hx] at hlt
        obtain ⟨g1, g2, g3, g4⟩ := hrow k hlt
        clear hrow g4
        rw [← hbl.cell (p := ⟨b, _, none⟩) hb] at g1 g2 g3
        have hbs := hbl.size
        have hb2 : b < wr.heap.size := by omega
        generalize xs[k] = x at *
        go_wp2
        go_ret
        exact ⟨ret_int HR.out.symm, hbl.alloc hbs _⟩
    · by_cases hlt' : k < ys.length
      · have HR : Hid (ordL xs ys = -1) := by show _ = _; rw [← ho.out, ordL_right xs ys k (by omega) hlt']
        go_wp2
        go_ret
        exact ⟨ret_int HR.out.symm, hbl⟩
      · have HR : Hid (ordL xs ys = 0) := by show _ = _; rw [← ho.out, ordL_both xs ys k (by omega) (by omega)]
        go_wp2
        go_ret
        exact ⟨ret_int HR.out.symm, hbl⟩

set_option maxHeartbeats 400000 in
theorem order_any (a : Option Addr) (len cap : Nat) (xs : List Vl) (a' : Option Addr) (len' cap' : Nat) (ys : List Vl) (w : World) (hr : Row w a len xs) (hr' : Row w a' len' ys) :
    Calls Try.prog 10 #[.slice a len cap, .slice a' len' cap'] w fun e w' => e = .returned (.int .i64 (ordL xs ys)) ∧ Below w.heap.size w w' := by
  go_enter Try.func10, Try.ntmps10
  go_wp2_with fail
  refine (compareFunc_any a len cap xs a' len' cap' ys _ hr hr').mono ?_
  rintro e w1 ⟨rfl, hb1⟩
  go_wp2
  go_ret
  exact ⟨rfl, hb1⟩

set_option maxHeartbeats 400000 in
theorem refOrder_any (a : Option Addr) (len cap : Nat) (xs : List Vl) (a' : Option Addr) (len' cap' : Nat) (ys : List Vl) (w : World) (hr : Row w a len xs) (hr' : Row w a' len' ys) :
    Calls Try.prog 11 #[.slice a len cap, .slice a' len' cap'] w fun e w' => e = .returned (.int .i64 (ordL xs ys)) ∧ Below w.heap.size w w' := by
  obtain ⟨rfl, hm, hx⟩ := hr
  obtain ⟨rfl, hm', hx'⟩ := hr'
  unfold maxLen at hm hm'
  go_enter Try.func11, Try.ntmps11
  go_wp2_with fail
  go_loopw [5] (fun i wr => ∃ k : Nat, k ≤ xs.length ∧ k ≤ ys.length ∧ i = .int .i64 k ∧ Hid (ordL (xs.drop k) (ys.drop k) = ordL xs ys) ∧ Below w.heap.size w wr) (fun i _ => xs.length - (intOf i).toNat)
  case atStart => exact ⟨0, Nat.zero_le _, Nat.zero_le _, rfl, rfl, Below.refl _ _⟩
  case round =>
    obtain ⟨k, hk, hk', rfl, ho, hbl⟩ := hrel
    by_cases hlt : k < xs.length
    · have d1 : ((k : Int) == (xs.length : Int)) = false := by simp; omega
      by_cases hlt' : k < ys.length
      · have d2 : ((k : Int) == (ys.length : Int)) = false := by simp; omega
        rcases hx with hx | ⟨b, off, rfl, hb, hrow⟩
        · simp [hx] at hlt
        rcases hx' with hx' | ⟨b', off', rfl, hb', hrow'⟩
        · simp [hx'] at hlt'
        have hst : Hid _ := ordL_step xs ys k hlt hlt'
        obtain ⟨g1, g2, g3, g4⟩ := hrow k hlt
        obtain ⟨e1, e2, e3, e4⟩ := hrow' k hlt'
        clear hrow hrow' g4 e4
        rw [← hbl.cell (p := ⟨b, _, none⟩) hb] at g1 g2 g3
        rw [← hbl.cell (p := ⟨b', _, none⟩) hb'] at e1 e2 e3
        have hbs := hbl.size
        have i1 : (k : Int) < (xs.length : Int) := by omega
        have i2 : (k : Int) < (ys.length : Int) := by omega
        generalize hx1 : xs[k] = x at *
        generalize hy1 : ys[k] = y at *
        obtain ⟨c, hc⟩ : ∃ c, cmpV x.k x.n x.s y.k y.n y.s = c := ⟨_, rfl⟩
        have HC : Hid _ := hc
        clear hc hx1 hy1
        have HX : Hid (cmpW x y = c) := HC
        go_wp2_with fail
        go_region_with (go_at_call 9; refine (refCompare_as _ _ _ _ _ _ c HC.out _).mono ?_; rintro e w1 ⟨rfl, hb1⟩)
        all_goals
          have hfin : Below w.heap.size w w1 := hbl.drew.trans (hb1.mono (by simpa using hbs))
          clear hb1 hbl
          go_wp2
          · go_ret
            refine ⟨ret_int ?_, hfin⟩
            have hne : (c != 0) = true := by assumption
            rw [← ho.out, hst.out, HX.out, if_neg (by simpa using hne)]
          · have hne : (c != 0) = false := by assumption
            go_roundw
            case rel =>
              refine ⟨k + 1, by omega, by omega, by go_num, ?_, hfin⟩
              show _ = _
              rw [← ho.out, hst.out, HX.out, if_pos (by simpa using hne)]
            case measure => simp [intOf]; omega
      · have d2 : ((k : Int) == (ys.length : Int)) = true := by simp; omega
        have HR : Hid (ordL xs ys = 1) := by show _ = _; rw [← ho.out, ordL_left xs ys k hlt (by omega)]
        go_wp2
        go_ret
        exact ⟨ret_int HR.out.symm, hbl⟩
    · have d1 : ((k : Int) == (xs.length : Int)) = true := by simp; omega
      by_cases hlt' : k < ys.length
      · have d2 : ((k : Int) == (ys.length : Int)) = false := by simp; omega
        have HR : Hid (ordL xs ys = -1) := by show _ = _; rw [← ho.out, ordL_right xs ys k (by omega) hlt']
        go_wp2
        go_ret
        exact ⟨ret_int HR.out.symm, hbl⟩
      · have d2 : ((k : Int) == (ys.length : Int)) = true := by simp; omega
        have HR : Hid (ordL xs ys = 0) := by show _ = _; rw [← ho.out, ordL_both xs ys k (by omega) (by omega)]
        go_wp2
        go_ret
        exact ⟨ret_int HR.out.symm, hbl⟩
end Go.Proofs.Ytkbnbkhloajmbaa
