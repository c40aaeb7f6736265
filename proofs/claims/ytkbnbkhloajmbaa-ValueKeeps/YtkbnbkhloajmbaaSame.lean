/- The contracts of the statement's own helpers: short, sameValues; and of strings.Compare. -/
import Derived.Test.YtkbnbkhloajmbaaBack
namespace Go.Proofs.Ytkbnbkhloajmbaa
open Go.RowKit Go.Lib

set_option maxHeartbeats 400000 in
theorem keepShort_any (a : Option Addr) (len cap : Nat) (xs : List Vl) (w : World) (hr : Row w a len xs) :
    Calls Try.prog 12 #[.slice a len cap] w fun e w' => e = .returned (.bool (shortB xs)) ∧ w' = w := by
  obtain ⟨rfl, hm, hx⟩ := hr
  unfold maxLen at hm
  by_cases h30 : xs.length ≤ 30
  · have h30' : ¬ (30 : Int) < (xs.length : Int) := by omega
    go_enter Try.func12, Try.ntmps12
    go_wp2
    go_loop [3] (fun i => ∃ k : Nat, k ≤ xs.length ∧ i = .int .i64 k ∧ Hid (∀ j (h : j < xs.length), j < k → xs[j].s.size ≤ 100)) (fun i => xs.length - (intOf i).toNat)
    case atStart => exact ⟨0, Nat.zero_le _, rfl, fun j _ h => absurd h (Nat.not_lt_zero _)⟩
    case round =>
      obtain ⟨k, hk, rfl, hz⟩ := hrel
      by_cases hlt : k < xs.length
      · rcases hx with hx | ⟨b, off, rfl, hb, hrow⟩
        · simp [hx] at hlt
        obtain ⟨g1, g2, g3, g4⟩ := hrow k hlt
        clear hrow g1 g2
        unfold maxLen at g4
        generalize hs : xs[k].s = s at *
        have HS : Hid (xs[k].s = s) := hs
        clear hs
        go_wp2
        · go_ret
          refine ⟨ret_bool ?_, rfl⟩
          have h100 : (100 : Int) < s.size := by assumption
          rw [shortB_no xs k hlt (by rw [HS.out]; omega)]
        · have h100 : (s.size : Int) ≤ 100 := by assumption
          go_round
          case rel =>
            refine ⟨k + 1, by omega, by go_num, ?_⟩
            intro j hj h2
            by_cases e : j = k
            · subst e; rw [HS.out]; omega
            · exact hz.out j hj (by omega)
          case measure => simp [intOf]; omega
      · go_wp2
        go_ret
        exact ⟨ret_bool (shortB_yes xs h30 fun j hj => hz.out j hj (by omega)).symm, rfl⟩
  · have h30' : (30 : Int) < (xs.length : Int) := by omega
    have HR : Hid (shortB xs = false) := by show _ = _; simp [shortB]; omega
    go_enter Try.func12, Try.ntmps12
    go_wp2
    go_ret
    exact ⟨ret_bool HR.out.symm, rfl⟩

theorem keepShort_as (a : Option Addr) (len cap : Nat) (xs : List Vl) (c : Bool) (hc : shortB xs = c) (w : World) (hr : Row w a len xs) :
    Calls Try.prog 12 #[.slice a len cap] w fun e w' => e = .returned (.bool c) ∧ w' = w := by
  rw [← hc]; exact keepShort_any a len cap xs w hr

set_option maxHeartbeats 400000 in
theorem cmpString_any (a b : ByteArray) (w : World) : Calls Try.prog 27 #[.string a, .string b] w fun e w' => e = .returned (.int .i64 (compareBytes a.data.toList b.data.toList)) ∧ w' = w := by
  have hx : ∀ W, (callFunc 35 #[.string a, .string b]).run Try.prog W = .ok (.value (.int .i64 (compareBytes a.data.toList b.data.toList))) W := by
    intro W
    rw [run_callFunc_extern Try.func35 (by kernel_rfl) (by kernel_rfl) (by kernel_rfl) (e := Extern.BytealgCompare.compare) (by kernel_rfl), Lib.run_compareString]
    rfl
  go_enter Try.func27, Try.ntmps27
  go_wp2
  go_ret
  exact ⟨rfl, rfl⟩

theorem stringsCompare_any (a b : ByteArray) (w : World) : Calls Try.prog 17 #[.string a, .string b] w fun e w' => e = .returned (.int .i64 (compareBytes a.data.toList b.data.toList)) ∧ w' = w := by
  go_enter Try.func17, Try.ntmps17
  go_wp2_with (go_at_call 27; refine (cmpString_any _ _ _).mono ?_; rintro e w' ⟨rfl, rfl⟩)
  go_ret
  exact ⟨rfl, rfl⟩

set_option maxRecDepth 100000 in
set_option maxHeartbeats 1000000 in
theorem same_any (a : Option Addr) (len cap : Nat) (a' : Option Addr) (len' cap' : Nat) (xs : List Vl) (w : World) (hr : Row w a len xs) (hr' : Row w a' len' xs) :
    Calls Try.prog 16 #[.slice a len cap, .slice a' len' cap'] w fun e w' => e = .returned (.bool true) ∧ Below w.heap.size w w' := by
  have st26 := stood26
  have g26 := guard26
  obtain ⟨rfl, hm, hx⟩ := hr
  obtain ⟨rfl, _, hx'⟩ := hr'
  unfold maxLen at hm
  go_enter Try.func16, Try.ntmps16
  go_wp2
  go_loopw [5] (fun i wr => ∃ k : Nat, k ≤ xs.length ∧ i = .int .i64 k ∧ Below w.heap.size w wr) (fun i _ => xs.length - (intOf i).toNat)
  case atStart => exact ⟨0, Nat.zero_le _, rfl, Below.refl _ _⟩
  case round =>
    obtain ⟨k, hk, rfl, hbl⟩ := hrel
    by_cases hlt : k < xs.length
    · rcases hx with hx | ⟨b, off, rfl, hb, hrow⟩
      · simp [hx] at hlt
      rcases hx' with hx' | ⟨b', off', rfl, hb', hrow'⟩
      · simp [hx'] at hlt
      obtain ⟨g1, g2, g3, g4⟩ := hrow k hlt
      obtain ⟨e1, e2, e3, _⟩ := hrow' k hlt
      clear hrow hrow' g4
      rw [← hbl.cell (p := ⟨b, _, none⟩) hb] at g1 g2 g3
      rw [← hbl.cell (p := ⟨b', _, none⟩) hb'] at e1 e2 e3
      have i1 : (k : Int) < (xs.length : Int) := by omega
      generalize xs[k] = x at *
      go_wp2_with fail
      go_region_held3 (fun w' => w'.cell? ⟨b, off + k * 3, none⟩ = some (.int .i64 x.k) ∧ w'.cell? ⟨b, off + k * 3 + 1, none⟩ = some (.int .i64 x.n) ∧ w'.cell? ⟨b, off + k * 3 + 2, none⟩ = some (.string x.s) ∧ w'.cell? ⟨b', off' + k * 3, none⟩ = some (.int .i64 x.k) ∧ w'.cell? ⟨b', off' + k * 3 + 1, none⟩ = some (.int .i64 x.n) ∧ w'.cell? ⟨b', off' + k * 3 + 2, none⟩ = some (.string x.s)) (simp [*])
        (fail)
      have hb2 := hbl.drew
      clear hbl
      go_wp2
      go_roundw
      case rel => exact ⟨k + 1, by omega, by go_num, hb2⟩
      case measure => simp [intOf]; omega
    · go_wp2
      go_ret
      exact ⟨rfl, hbl⟩
end Go.Proofs.Ytkbnbkhloajmbaa
