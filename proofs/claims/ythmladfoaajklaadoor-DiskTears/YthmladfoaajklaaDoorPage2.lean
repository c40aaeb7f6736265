/- The pages that the second statement writes. -/
import Derived.Test.YthmladfoaajklaaDoorPage
namespace Go.Proofs.YthmladfoaajklaaDoor
open Go.RowKit

/-- which page a number picks -/
def pk (a : Int) (n : Nat) : Nat := (a % 18446744073709551616 % (n : Int)).toNat
theorem pk_lt (a : Int) (n : Nat) (hn : 0 < n) : pk a n < n := by
  unfold pk
  have h1 := Int.emod_nonneg (a % 18446744073709551616) (show (n : Int) ≠ 0 by omega)
  have h2 := Int.emod_lt_of_pos (a % 18446744073709551616) (show (0 : Int) < n by omega)
  omega

theorem pick_mod (a : Int) (n : Nat) (hn : 0 < n) (hn2 : n ≤ 1000000) : wrap64 ((IntKind.u64.wrap a).tmod (n : Int)) = (pk a n : Int) := by
  have e2 : IntKind.u64.wrap a = a % 18446744073709551616 := by
    simp [IntKind.wrap, IntKind.signed, IntKind.bits]
  have h1 : 0 ≤ a % 18446744073709551616 := by omega
  rw [e2, Int.tmod_eq_emod_of_nonneg h1]
  have h2 := Int.emod_nonneg (a % 18446744073709551616) (show (n : Int) ≠ 0 by omega)
  have h3 := Int.emod_lt_of_pos (a % 18446744073709551616) (show (0 : Int) < n by omega)
  unfold pk wrap64
  omega

theorem pick_any (a : Int) (n : Nat) (hn : 0 < n) (hn2 : n ≤ 1000000) (w : World) : Calls Tryd.prog 24 #[.int .i64 a, .int .i64 (n : Int)] w fun e w' => e = .returned (.int .i64 (pk a n : Int)) ∧ w' = w := by
  have hm := pick_mod a n hn hn2
  have hz : (IntKind.u64.wrap (n : Int) == 0) = false := by
    simp [IntKind.wrap, IntKind.signed, IntKind.bits]
    omega
  go_enter Tryd.func24, Tryd.ntmps24
  go_wp2
  go_ret
  exact ⟨ret_int hm, rfl⟩

theorem pk_1024 (n : Int) : pk n 1024 = (n % 1024).toNat := by
  unfold pk
  congr 1
  omega

set_option maxRecDepth 100000 in
set_option maxHeartbeats 1000000 in
theorem page2_any (n : Int) (w : World) :
    Calls Tryd.prog 26 #[.int .i64 n] w fun e w' => e = .returned (.string (pageOf n)) ∧ Below w.heap.size w w' := by
  have hcA := one_byte (n / 256)
  have hcB := one_byte n
  obtain ⟨k, hkk⟩ : ∃ k, k = (n % 1024).toNat := ⟨_, rfl⟩
  have hp : pageOf n = rep (UInt8.ofNat ((n / 256) % 256).toNat) k ++ rep (UInt8.ofNat (n % 256).toNat) (1024 - k) := by rw [hkk]; rfl
  have HK : Hid (pk n 1024 = k) := (pk_1024 n).trans hkk.symm
  have hk2 : IntKind.i64.wrap (1024 - (k : Int)) = ((1024 - k : Nat) : Int) := by
    simp [IntKind.wrap, IntKind.signed, IntKind.bits]
    omega
  have hle : k ≤ 1024 := by omega
  rw [hp]
  clear hp hkk
  generalize UInt8.ofNat (n / 256 % 256).toNat = ca at *
  generalize UInt8.ofNat (n % 256).toNat = cb at *
  have hr1 := rep_size ca k
  have hr2 := rep_size cb (1024 - k)
  have hlt2 : w.heap.size < w.heap.size + 1 + 1 := by omega
  go_enter Tryd.func26, Tryd.ntmps26
  go_wp2_with fail
  refine (pick_any n 1024 (by omega) (by omega) w).mono ?_
  rintro _ w ⟨rfl, rfl⟩
  rw [HK.out]
  go_wp2_with fail
  go_region_with (go_at_call 38; refine (rep_any _ _ ?_ _).mono ?_; (first | exact hle | omega); rintro _ w1 ⟨rfl, hb1⟩; have hq0 := hb1.cell (p := ⟨w.heap.size, 0, none⟩); have hq1 := hb1.cell (p := ⟨w.heap.size + 1, 0, none⟩); (try simp [hlt2] at hq0); (try simp at hq1); have hbw := below_step (w := w) (by go_grown) hb1; have hbz := hbw.size)
  all_goals (go_wp2; go_ret; exact ⟨rfl, hbw⟩)
end Go.Proofs.YthmladfoaajklaaDoor
