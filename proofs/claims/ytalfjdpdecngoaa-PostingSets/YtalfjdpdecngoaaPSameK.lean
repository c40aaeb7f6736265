/- The contract of the keeps samePlaces, of lists that are the same. -/
import Derived.Test.YtalfjdpdecngoaaPRight
namespace Go.Proofs.Ytalfjdpdecngoaa
open Go.RowKit

set_option maxRecDepth 100000 in
set_option maxHeartbeats 1000000 in
theorem same_keep (a a' : Option Addr) (len len' cap cap' : Nat) (xs : List Pl) (w : World) (hr : RowP w a len xs) (hr' : RowP w a' len' xs) :
    Calls Try.prog 21 #[.slice a len cap, .slice a' len' cap'] w fun e w' => e = .returned (.bool true) ∧ Below w.heap.size w w' := by
  have st := stoodPl
  have gd := guardPl
  obtain ⟨rfl, hm, hx⟩ := hr
  obtain ⟨rfl, _, hx'⟩ := hr'
  go_enter Try.func21, Try.ntmps21
  go_wp2
  go_loopw [5] (fun i wr => ∃ k : Nat, k ≤ xs.length ∧ i = .int .i64 k ∧ Hid (Below w.heap.size w wr)) (fun i _ => xs.length - (intOf i).toNat)
  case atStart => exact ⟨0, Nat.zero_le _, rfl, Below.refl _ _⟩
  case round =>
    obtain ⟨k, hk, rfl, hbl⟩ := hrel
    by_cases hlt : k < xs.length
    · rcases hx with hx | ⟨b, off, rfl, hb, hrow⟩
      · simp [hx] at hlt
      rcases hx' with hx' | ⟨b', off', rfl, hb', hrow'⟩
      · simp [hx'] at hlt
      obtain ⟨g1, g2⟩ := hrow k hlt
      obtain ⟨e1, e2⟩ := hrow' k hlt
      clear hrow hrow'
      rw [← hbl.out.cell (p := ⟨b, _, none⟩) hb] at g1 g2
      rw [← hbl.out.cell (p := ⟨b', _, none⟩) hb'] at e1 e2
      have i1 : (k : Int) < (xs.length : Int) := by omega
      generalize xs[k] = x at *
      go_wp2
      go_quiet (fail)
      have HB : Hid (Below w.heap.size w (wr.drewN nq)) := below_drewN hbl.out _
      clear hbl
      go_wp2
      go_roundw
      case rel => exact ⟨k + 1, by omega, by go_num, HB⟩
      case measure => simp [intOf]; omega
    · go_wp2
      go_ret
      exact ⟨rfl, hbl.out⟩
end Go.Proofs.Ytalfjdpdecngoaa
