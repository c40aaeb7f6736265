/- The pages that the statements write. -/
import Derived.Test.YthmladfoaajklaaDoorDisk
import Derived.Laws.IdiomStrings
import Derived.Handy
namespace Go.Proofs.YthmladfoaajklaaDoor
open Go.RowKit

/-- so many of one letter -/
def rep (c : UInt8) (k : Nat) : ByteArray := ⟨(List.replicate k c).toArray⟩
theorem rep_size (c : UInt8) (k : Nat) : (rep c k).size = k := by
  show (List.replicate k c).toArray.size = k
  rw [List.size_toArray, List.length_replicate]

theorem rep_any (c : UInt8) (k : Nat) (hk : k ≤ 1024) (w : World) : Calls Tryd.prog 38 #[.string ⟨#[c]⟩, .int .i64 k] w fun e w' => e = .returned (.string (rep c k)) ∧ Below w.heap.size w w' := by
  have h := repeat38 ⟨#[c]⟩ k w (by omega) (by show 1 * k ≤ _; omega)
  have e : Lib.repeatL (ByteArray.mk #[c]).data.toList k = List.replicate k c := by
    show Lib.repeatL [c] k = _
    have h1 : ([c] : List UInt8) = List.replicate 1 c := rfl
    rw [h1, Lib.repeatL_replicate, Nat.mul_one]
  rw [e] at h
  exact h

/-- the page of a number -/
def pageOf (n : Int) : ByteArray := rep (UInt8.ofNat ((n / 256) % 256).toNat) (n % 1024).toNat ++ rep (UInt8.ofNat (n % 256).toNat) (1024 - (n % 1024).toNat)

theorem below_step {w W w1 : World} (h : Below w.heap.size w W) (hb : Below W.heap.size W w1) : Below w.heap.size w w1 := h.trans (hb.mono h.size)

theorem one_byte (x : Int) (W : World) (B : Nat) (h : W.cell? ⟨B, 0, none⟩ = some (.int .u8 (IntKind.u8.wrap x))) :
    (convert 66 9 (.slice (some ⟨B, 0, none⟩) 1 1)).run Tryd.prog W = .ok (.string ⟨#[UInt8.ofNat (x % 256).toNat]⟩) W := by
  have e : IntKind.u8.wrap x = ((UInt8.ofNat (x % 256).toNat).toNat : Int) := by
    have h1 : (x % 256).toNat < 256 := by omega
    rw [UInt8.toNat_ofNat']
    simp [IntKind.wrap, IntKind.signed, IntKind.bits]
    omega
  have := run_convert_bytes_back (P := Tryd.prog) W 66 9 5 ⟨B, 0, none⟩ 1 [UInt8.ofNat (x % 256).toNat] Tryd.underlying66 Tryd.underlying5 Tryd.underlying9 (fun j hj => by
    have : j = 0 := by simpa using hj
    subst this
    rw [Addr.add_zero', h, e]
    rfl)
  exact this

theorem page_mod (n : Int) : wrap64 ((IntKind.u64.wrap n).tmod 1024) = (((n % 1024).toNat : Nat) : Int) := by
  simp [IntKind.wrap, IntKind.signed, IntKind.bits]
  have h1 : 0 ≤ n % 18446744073709551616 := by omega
  rw [Int.tmod_eq_emod_of_nonneg h1]
  unfold wrap64
  omega

set_option maxRecDepth 100000 in
set_option maxHeartbeats 1000000 in
theorem page_any (n : Int) (w : World) :
    Calls Tryd.prog 16 #[.int .i64 n] w fun e w' => e = .returned (.string (pageOf n)) ∧ Below w.heap.size w w' := by
  have hk := page_mod n
  have hcA := one_byte (n / 256)
  have hcB := one_byte n
  obtain ⟨k, hkk⟩ : ∃ k, k = (n % 1024).toNat := ⟨_, rfl⟩
  have hp : pageOf n = rep (UInt8.ofNat ((n / 256) % 256).toNat) k ++ rep (UInt8.ofNat (n % 256).toNat) (1024 - k) := by rw [hkk]; rfl
  rw [← hkk] at hk
  have hk2 : IntKind.i64.wrap (1024 - (k : Int)) = ((1024 - k : Nat) : Int) := by
    simp [IntKind.wrap, IntKind.signed, IntKind.bits]
    omega
  have hle : k ≤ 1024 := by omega
  rw [hp]
  clear hp hkk
  generalize UInt8.ofNat (n / 256 % 256).toNat = ca at *
  generalize UInt8.ofNat (n % 256).toNat = cb at *
  have hr1 := rep_size ca k
  have hr2 := rep_size cb (1024 - k)
  have hlt2 : w.heap.size < w.heap.size + 1 + 1 := by omega
  go_enter Tryd.func16, Tryd.ntmps16
  go_wp2_with fail
  simp only [hk]
  clear hk
  go_region_with (go_at_call 38; refine (rep_any _ _ ?_ _).mono ?_; (first | exact hle | omega); rintro _ w1 ⟨rfl, hb1⟩; have hq0 := hb1.cell (p := ⟨w.heap.size, 0, none⟩); have hq1 := hb1.cell (p := ⟨w.heap.size + 1, 0, none⟩); (try simp [hlt2] at hq0); (try simp at hq1); have hbw := below_step (w := w) (by go_grown) hb1; have hbz := hbw.size)
  all_goals (go_wp2; go_ret; exact ⟨rfl, hbw⟩)
end Go.Proofs.YthmladfoaajklaaDoor
