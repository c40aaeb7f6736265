/- Slices of values: what is known of one that came in; the contract of short. -/
import Derived.Test.YtkbnbkhloajmbaaDoorRefs
namespace Go.Proofs.YtkbnbkhloajmbaaDoor
open Go.RowKit

/-- a value, as plain data -/
structure Vl where
  k : Int
  n : Int
  s : ByteArray

/-- the values xs lie at block b from cell off on -/
def RowAt (w : World) (b off : Nat) (xs : List Vl) : Prop := ∀ i (h : i < xs.length),
  w.cell? ⟨b, off + i * 3, none⟩ = some (.int .i64 xs[i].k) ∧ w.cell? ⟨b, off + i * 3 + 1, none⟩ = some (.int .i64 xs[i].n) ∧ w.cell? ⟨b, off + i * 3 + 2, none⟩ = some (.string xs[i].s) ∧ xs[i].s.size ≤ maxLen

/-- a slice of values -/
def Row (w : World) (a : Option Addr) (len : Nat) (xs : List Vl) : Prop :=
  len = xs.length ∧ len ≤ maxLen ∧ (xs = [] ∨ ∃ b off, a = some ⟨b, off, none⟩ ∧ b < w.heap.size ∧ RowAt w b off xs)

theorem Row.below {w w' : World} {a : Option Addr} {len : Nat} {xs : List Vl} {B : Nat} (h : Row w a len xs) (hb : Below B w w') (hB : w.heap.size ≤ B) : Row w' a len xs := by
  obtain ⟨h1, h2, h3⟩ := h
  refine ⟨h1, h2, ?_⟩
  rcases h3 with h3 | ⟨b, off, e, hlt, hr⟩
  · exact .inl h3
  · have hs := hb.size
    refine .inr ⟨b, off, e, by omega, fun i hi => ?_⟩
    obtain ⟨g1, g2, g3, g4⟩ := hr i hi
    have hc : ∀ o, w'.cell? ⟨b, o, none⟩ = w.cell? ⟨b, o, none⟩ := fun o => hb.cell (p := ⟨b, o, none⟩) (by show b < B; omega)
    exact ⟨by rw [hc]; exact g1, by rw [hc]; exact g2, by rw [hc]; exact g3, g4⟩

def shortB (xs : List Vl) : Bool := decide (xs.length ≤ 30) && xs.all fun x => decide (x.s.size ≤ 100)

theorem shortB_no (xs : List Vl) (k : Nat) (hk : k < xs.length) (h : 100 < xs[k].s.size) : shortB xs = false := by
  have : (xs.all fun x => decide (x.s.size ≤ 100)) = false := by
    rw [List.all_eq_false]
    exact ⟨xs[k], List.getElem_mem hk, by simp; omega⟩
  simp [shortB, this]
theorem shortB_yes (xs : List Vl) (h30 : xs.length ≤ 30) (h : ∀ j (h : j < xs.length), xs[j].s.size ≤ 100) : shortB xs = true := by
  have : (xs.all fun x => decide (x.s.size ≤ 100)) = true := by
    rw [List.all_eq_true]
    intro x hx
    obtain ⟨j, hj, rfl⟩ := List.getElem_of_mem hx
    simpa using h j hj
  simp [shortB, this, h30]

set_option maxHeartbeats 400000 in
theorem short_any (a : Option Addr) (len cap : Nat) (xs : List Vl) (w : World) (hr : Row w a len xs) :
    Calls Tryd.prog 4 #[.slice a len cap] w fun e w' => e = .returned (.bool (shortB xs)) ∧ w' = w := by
  obtain ⟨rfl, hm, hx⟩ := hr
  unfold maxLen at hm
  by_cases h30 : xs.length ≤ 30
  · have h30' : ¬ (30 : Int) < (xs.length : Int) := by omega
    go_enter Tryd.func4, Tryd.ntmps4
    go_wp2
    go_loop [3] (fun i => ∃ k : Nat, k ≤ xs.length ∧ i = .int .i64 k ∧ Hid (∀ j (h : j < xs.length), j < k → xs[j].s.size ≤ 100)) (fun i => xs.length - (intOf i).toNat)
    case atStart => exact ⟨0, Nat.zero_le _, rfl, fun j _ h => absurd h (Nat.not_lt_zero _)⟩
    case round =>
      obtain ⟨k, hk, rfl, hz⟩ := hrel
      by_cases hlt : k < xs.length
      · rcases hx with hx | ⟨b, off, rfl, hb, hrow⟩
        · simp [hx] at hlt
        obtain ⟨g1, g2, g3, g4⟩ := hrow k hlt
        clear hrow g1 g2
        unfold maxLen at g4
        generalize hs : xs[k].s = s at *
        have HS : Hid (xs[k].s = s) := hs
        clear hs
        go_wp2
        · go_ret
          refine ⟨ret_bool ?_, rfl⟩
          have h100 : (100 : Int) < s.size := by assumption
          rw [shortB_no xs k hlt (by rw [HS.out]; omega)]
        · have h100 : (s.size : Int) ≤ 100 := by assumption
          go_round
          case rel =>
            refine ⟨k + 1, by omega, by go_num, ?_⟩
            intro j hj h2
            by_cases e : j = k
            · subst e; rw [HS.out]; omega
            · exact hz.out j hj (by omega)
          case measure => simp [intOf]; omega
      · go_wp2
        go_ret
        exact ⟨ret_bool (shortB_yes xs h30 fun j hj => hz.out j hj (by omega)).symm, rfl⟩
  · have h30' : (30 : Int) < (xs.length : Int) := by omega
    have HR : Hid (shortB xs = false) := by show _ = _; simp [shortB]; omega
    go_enter Tryd.func4, Tryd.ntmps4
    go_wp2
    go_ret
    exact ⟨ret_bool HR.out.symm, rfl⟩
theorem bcell {W w1 : World} (hb : Below W.heap.size W w1) : ∀ b o, b < W.heap.size → w1.cell? ⟨b, o, none⟩ = W.cell? ⟨b, o, none⟩ :=
  fun b o h => hb.cell (p := ⟨b, o, none⟩) h

theorem right_as (k n : Int) (s : ByteArray) (c : Bool) (hc : rightB k n s = c) (w : World) (hs : s.size ≤ maxLen) :
    Calls Tryd.prog 13 #[.agg #[.int .i64 k, .int .i64 n, .string s]] w fun e w' => e = .returned (.bool c) ∧ Below w.heap.size w w' := by
  rw [← hc]; exact right_any k n s w hs
theorem refRight_as (k n : Int) (s : ByteArray) (c : Bool) (hc : rightB k n s = c) (w : World) (hs : s.size ≤ maxLen) :
    Calls Tryd.prog 12 #[.agg #[.int .i64 k, .int .i64 n, .string s]] w fun e w' => e = .returned (.bool c) ∧ Below w.heap.size w w' := by
  rw [← hc]; exact refRight_any k n s w hs

theorem short_as (a : Option Addr) (len cap : Nat) (xs : List Vl) (c : Bool) (hc : shortB xs = c) (w : World) (hr : Row w a len xs) :
    Calls Tryd.prog 4 #[.slice a len cap] w fun e w' => e = .returned (.bool c) ∧ w' = w := by
  rw [← hc]; exact short_any a len cap xs w hr

end Go.Proofs.YtkbnbkhloajmbaaDoor
