/- The contract of the document's seven. -/
import Derived.Test.YtalfjdpdecngoaaDoorPPlaces
namespace Go.Proofs.YtalfjdpdecngoaaDoor
open Go.RowKit

theorem byte_text (W : World) (b : Nat) (x : Nat) (hx : x < 256) (h : W.cell? ⟨b, 0, none⟩ = some (.int .u8 x)) : (convert 51 9 (.slice (some ⟨b, 0, none⟩) 1 1)).run Tryd.prog W = .ok (.string ⟨#[UInt8.ofNat x]⟩) W := by
  have := run_convert_bytes_back (P := Tryd.prog) W 51 9 5 ⟨b, 0, none⟩ 1 [UInt8.ofNat x] Tryd.underlying51 Tryd.underlying5 Tryd.underlying9 (fun j hj => by
    have e : j = 0 := by simp at hj; omega
    subst e
    rw [Go.WideShapes.add_plain]
    simp only [Nat.add_zero, List.getElem_cons_zero]
    rw [h]
    have : (UInt8.ofNat x).toNat = x := by simp; omega
    rw [this])
  exact this

set_option maxRecDepth 100000 in
set_option maxHeartbeats 2000000 in
theorem seven_any (n : Nat) : ∀ w : World, n < 1099511627776 → Calls Tryd.prog 30 #[.int .i64 n] w fun e w' => e = .returned (.string ⟨(numL n).toArray⟩) ∧ Below w.heap.size w w' := by
  induction n using Nat.strongRecOn with
  | ind n ih =>
    intro w hn
    by_cases h : n < 128
    · have ht := byte_text (w.alloc (.cells #[.int .u8 (n : Int)] 5)) w.heap.size n (by omega) (by simp)
      have HE : Hid ((⟨(numL n).toArray⟩ : ByteArray) = ⟨#[UInt8.ofNat n]⟩) := by show _ = _; rw [numL_small h]
      clear ih
      go_enter Tryd.func30, Tryd.ntmps30
      go_wp2
      go_ret
      rw [HE.out]
      exact ⟨rfl, (Below.refl _ _).alloc (Nat.le_refl _) _⟩
    · have HI : Hid (∀ w : World, Calls Tryd.prog 30 #[.int .i64 ((n / 128 : Nat) : Int)] w fun e w' => e = .returned (.string ⟨(numL (n / 128)).toArray⟩) ∧ Below w.heap.size w w') := fun w => ih (n / 128) (by omega) w (by omega)
      have HE : Hid ((⟨(numL n).toArray⟩ : ByteArray) = (⟨#[UInt8.ofNat (128 + n % 128)]⟩ : ByteArray) ++ ⟨(numL (n / 128)).toArray⟩) := by
        show _ = _
        rw [numL_big h, Nat.add_comm 128]
        rfl
      obtain ⟨S, hS⟩ : ∃ S : ByteArray, (⟨(numL (n / 128)).toArray⟩ : ByteArray) = S := ⟨_, rfl⟩
      rw [hS] at HI HE
      have hsz : S.size ≤ 10 := by
        rw [← hS]
        show (numL (n / 128)).toArray.size ≤ 10
        have := numL_len 9 (n / 128) (by omega)
        simpa using this
      clear ih hS
      go_enter Tryd.func30, Tryd.ntmps30
      go_wp2_with fail
      have e1 : (n : Int).tmod 128 = ((n % 128 : Nat) : Int) := by rw [Int.tmod_eq_emod_of_nonneg (by omega)]; omega
      have e2 : IntKind.i64.wrap (128 + ((n % 128 : Nat) : Int)) = ((128 + n % 128 : Nat) : Int) := by rw [IntKind.wrap_i64]; omega
      have e3 : IntKind.u8.wrap ((128 + n % 128 : Nat) : Int) = ((128 + n % 128 : Nat) : Int) := by simp [IntKind.wrap, IntKind.signed, IntKind.bits]; omega
      have e4 : IntKind.i64.wrap ((n : Int) / 128) = ((n / 128 : Nat) : Int) := by rw [IntKind.wrap_i64]; omega
      have hconv : ∀ (W : World) (b : Nat), W.cell? ⟨b, 0, none⟩ = some (.int .u8 ((128 + n % 128 : Nat) : Int)) → (convert 51 9 (.slice (some ⟨b, 0, none⟩) 1 1)).run Tryd.prog W = .ok (.string ⟨#[UInt8.ofNat (128 + n % 128)]⟩) W := fun W b hc => byte_text W b (128 + n % 128) (by omega) hc
      obtain ⟨q, hq⟩ : ∃ q, n / 128 = q := ⟨_, rfl⟩
      obtain ⟨r, hr⟩ : ∃ r, 128 + n % 128 = r := ⟨_, rfl⟩
      obtain ⟨r0, hr0⟩ : ∃ r, n % 128 = r := ⟨_, rfl⟩
      rw [hq] at e4 HI
      rw [hr] at e2 e3 hconv HE
      rw [hr0] at e1 e2
      clear hq hr hr0
      go_region_with (go_at_call 30; refine (HI.out _).mono ?_; rintro e w1 ⟨rfl, hb1⟩; have hcl := fun b (hb : b < _) => hb1.cell (p := ⟨b, 0, none⟩) hb)
      all_goals (clear hcl hconv e1 e2 e3 e4)
      all_goals go_wp2
      all_goals go_ret
      all_goals rw [HE.out]
      all_goals refine ⟨rfl, ?_⟩
      all_goals (have hsz1 := hb1.size; simp at hsz1)
      all_goals try refine Below.alloc ?_ (by omega) _
      all_goals refine Below.trans ?_ (hb1.mono (by simp))
      all_goals repeat (first | exact Below.refl _ _ | apply Below.drew | refine Below.alloc ?_ (by simp) _)
end Go.Proofs.YtalfjdpdecngoaaDoor
