/- The contract of the program's Stem. -/
import Derived.Test.YtleegplecdknlaaDoorWSmall
import Derived.Test.YtleegplecdknlaaDoorWShelf
namespace Go.Proofs.YtleegplecdknlaaDoor
open Go.RowKit

/-- the package's variable holds the ends -/
def EndsAt (w : World) : Prop := w.cell? ⟨2, 0, none⟩ = some (.string ⟨#[115, 115, 101, 115]⟩) ∧ w.cell? ⟨2, 1, none⟩ = some (.string ⟨#[115, 115]⟩) ∧ w.cell? ⟨2, 2, none⟩ = some (.string ⟨#[105, 101, 115]⟩) ∧ w.cell? ⟨2, 3, none⟩ = some (.string ⟨#[121]⟩) ∧ w.cell? ⟨2, 4, none⟩ = some (.string ⟨#[115, 115]⟩) ∧ w.cell? ⟨2, 5, none⟩ = some (.string ⟨#[115, 115]⟩) ∧ w.cell? ⟨2, 6, none⟩ = some (.string ⟨#[105, 110, 103]⟩) ∧ w.cell? ⟨2, 7, none⟩ = some (.string ⟨#[]⟩) ∧ w.cell? ⟨2, 8, none⟩ = some (.string ⟨#[101, 100]⟩) ∧ w.cell? ⟨2, 9, none⟩ = some (.string ⟨#[]⟩) ∧ w.cell? ⟨2, 10, none⟩ = some (.string ⟨#[101, 115]⟩) ∧ w.cell? ⟨2, 11, none⟩ = some (.string ⟨#[101]⟩) ∧ w.cell? ⟨2, 12, none⟩ = some (.string ⟨#[115]⟩) ∧ w.cell? ⟨2, 13, none⟩ = some (.string ⟨#[]⟩)
theorem EndsAt.below {w w' : World} (h : EndsAt w) (hb : Below w.heap.size w w') : EndsAt w' := by
  have h0 : 2 < w.heap.size := World.block_lt_of_cell? w _ h.1
  unfold EndsAt at h ⊢
  have e : ∀ o, w'.cell? ⟨2, o, none⟩ = w.cell? ⟨2, o, none⟩ := fun o => hb.cell (p := ⟨2, o, none⟩) h0
  simp only [e]
  exact h
theorem ixE0 (W : World) : (Instr.index 133 (.agg #[.string ⟨#[115, 115, 101, 115]⟩, .string ⟨#[115, 115]⟩, .string ⟨#[105, 101, 115]⟩, .string ⟨#[121]⟩, .string ⟨#[115, 115]⟩, .string ⟨#[115, 115]⟩, .string ⟨#[105, 110, 103]⟩, .string ⟨#[]⟩, .string ⟨#[101, 100]⟩, .string ⟨#[]⟩, .string ⟨#[101, 115]⟩, .string ⟨#[101]⟩, .string ⟨#[115]⟩, .string ⟨#[]⟩]) (.int .i64 0)).run Tryd.prog W = .ok (.agg #[.string ⟨#[115, 115, 101, 115]⟩, .string ⟨#[115, 115]⟩]) W := by kernel_rfl
theorem ixE1 (W : World) : (Instr.index 133 (.agg #[.string ⟨#[115, 115, 101, 115]⟩, .string ⟨#[115, 115]⟩, .string ⟨#[105, 101, 115]⟩, .string ⟨#[121]⟩, .string ⟨#[115, 115]⟩, .string ⟨#[115, 115]⟩, .string ⟨#[105, 110, 103]⟩, .string ⟨#[]⟩, .string ⟨#[101, 100]⟩, .string ⟨#[]⟩, .string ⟨#[101, 115]⟩, .string ⟨#[101]⟩, .string ⟨#[115]⟩, .string ⟨#[]⟩]) (.int .i64 1)).run Tryd.prog W = .ok (.agg #[.string ⟨#[105, 101, 115]⟩, .string ⟨#[121]⟩]) W := by kernel_rfl
theorem ixE2 (W : World) : (Instr.index 133 (.agg #[.string ⟨#[115, 115, 101, 115]⟩, .string ⟨#[115, 115]⟩, .string ⟨#[105, 101, 115]⟩, .string ⟨#[121]⟩, .string ⟨#[115, 115]⟩, .string ⟨#[115, 115]⟩, .string ⟨#[105, 110, 103]⟩, .string ⟨#[]⟩, .string ⟨#[101, 100]⟩, .string ⟨#[]⟩, .string ⟨#[101, 115]⟩, .string ⟨#[101]⟩, .string ⟨#[115]⟩, .string ⟨#[]⟩]) (.int .i64 2)).run Tryd.prog W = .ok (.agg #[.string ⟨#[115, 115]⟩, .string ⟨#[115, 115]⟩]) W := by kernel_rfl
theorem ixE3 (W : World) : (Instr.index 133 (.agg #[.string ⟨#[115, 115, 101, 115]⟩, .string ⟨#[115, 115]⟩, .string ⟨#[105, 101, 115]⟩, .string ⟨#[121]⟩, .string ⟨#[115, 115]⟩, .string ⟨#[115, 115]⟩, .string ⟨#[105, 110, 103]⟩, .string ⟨#[]⟩, .string ⟨#[101, 100]⟩, .string ⟨#[]⟩, .string ⟨#[101, 115]⟩, .string ⟨#[101]⟩, .string ⟨#[115]⟩, .string ⟨#[]⟩]) (.int .i64 3)).run Tryd.prog W = .ok (.agg #[.string ⟨#[105, 110, 103]⟩, .string ⟨#[]⟩]) W := by kernel_rfl
theorem ixE4 (W : World) : (Instr.index 133 (.agg #[.string ⟨#[115, 115, 101, 115]⟩, .string ⟨#[115, 115]⟩, .string ⟨#[105, 101, 115]⟩, .string ⟨#[121]⟩, .string ⟨#[115, 115]⟩, .string ⟨#[115, 115]⟩, .string ⟨#[105, 110, 103]⟩, .string ⟨#[]⟩, .string ⟨#[101, 100]⟩, .string ⟨#[]⟩, .string ⟨#[101, 115]⟩, .string ⟨#[101]⟩, .string ⟨#[115]⟩, .string ⟨#[]⟩]) (.int .i64 4)).run Tryd.prog W = .ok (.agg #[.string ⟨#[101, 100]⟩, .string ⟨#[]⟩]) W := by kernel_rfl
theorem ixE5 (W : World) : (Instr.index 133 (.agg #[.string ⟨#[115, 115, 101, 115]⟩, .string ⟨#[115, 115]⟩, .string ⟨#[105, 101, 115]⟩, .string ⟨#[121]⟩, .string ⟨#[115, 115]⟩, .string ⟨#[115, 115]⟩, .string ⟨#[105, 110, 103]⟩, .string ⟨#[]⟩, .string ⟨#[101, 100]⟩, .string ⟨#[]⟩, .string ⟨#[101, 115]⟩, .string ⟨#[101]⟩, .string ⟨#[115]⟩, .string ⟨#[]⟩]) (.int .i64 5)).run Tryd.prog W = .ok (.agg #[.string ⟨#[101, 115]⟩, .string ⟨#[101]⟩]) W := by kernel_rfl
theorem ixE6 (W : World) : (Instr.index 133 (.agg #[.string ⟨#[115, 115, 101, 115]⟩, .string ⟨#[115, 115]⟩, .string ⟨#[105, 101, 115]⟩, .string ⟨#[121]⟩, .string ⟨#[115, 115]⟩, .string ⟨#[115, 115]⟩, .string ⟨#[105, 110, 103]⟩, .string ⟨#[]⟩, .string ⟨#[101, 100]⟩, .string ⟨#[]⟩, .string ⟨#[101, 115]⟩, .string ⟨#[101]⟩, .string ⟨#[115]⟩, .string ⟨#[]⟩]) (.int .i64 6)).run Tryd.prog W = .ok (.agg #[.string ⟨#[115]⟩, .string ⟨#[]⟩]) W := by kernel_rfl
set_option maxRecDepth 100000 in
set_option maxHeartbeats 4000000 in
theorem stem_any (s : ByteArray) (w : World) (hs : s.size ≤ 1000000) (he : EndsAt w) :
    Calls Tryd.prog 68 #[.string s] w fun e w' => e = .returned (.string (stemS s)) ∧ Below w.heap.size w w' := by
  obtain ⟨q0, q1, q2, q3, q4, q5, q6, q7, q8, q9, q10, q11, q12, q13⟩ := he
  have HR : Hid (stemFrom (endsT.drop 0) s = stemS s) := rfl
  generalize stemS s = R at *
  go_enter Tryd.func68, Tryd.ntmps68
  go_wp2
  clear q0 q1 q2 q3 q4 q5 q6 q7 q8 q9 q10 q11 q12 q13
  go_loopw [0, 7] (fun x i wr => ∃ k : Nat, k ≤ 7 ∧ x = .string s ∧ i = .int .i64 k ∧ Hid (Below w.heap.size w wr ∧ stemFrom (endsT.drop k) s = R)) (fun _ i _ => 7 - (intOf i).toNat)
  case atStart => exact ⟨0, Nat.zero_le _, rfl, rfl, Below.refl _ _, HR.out⟩
  case round =>
    clear HR
    obtain ⟨k, hk, rfl, rfl, hz⟩ := hrel
    have hk7 : k = 0 ∨ k = 1 ∨ k = 2 ∨ k = 3 ∨ k = 4 ∨ k = 5 ∨ k = 6 ∨ k = 7 := by omega
    rcases hk7 with rfl | rfl | rfl | rfl | rfl | rfl | rfl | rfl
    · have hix := ixE0 wr
      cases hb : hasB s ⟨#[115, 115, 101, 115]⟩
      · go_wp2_with (go_at_call 76; refine (suffix27 _ _ _ hs (by decide)).mono ?_; rintro e w' ⟨rfl, rfl⟩)
        go_roundw
        case rel => exact ⟨1, by omega, rfl, by go_num, by have := hz.out.1.size; exact hz.out.1.alloc (by omega) _, (stem_no hb).symm.trans hz.out.2⟩
        case measure => simp [intOf]
      · by_cases h3 : 4 + 3 ≤ s.size
        · have HS : Hid (s.extract 0 (s.size - 4) ++ ⟨#[115, 115]⟩ = R) := (stem_yes (r := ⟨#[115, 115]⟩) (t := endsT.drop 1) hb h3).symm.trans hz.out.2
          have h3' : (3 : Int) ≤ (s.size : Int) - 4 := by omega
          go_wp2_with (go_at_call 76; refine (suffix27 _ _ _ hs (by decide)).mono ?_; rintro e w' ⟨rfl, rfl⟩)
          go_region
          have HL : Hid (R.size ≤ 281474976710656) := by show _ ≤ _; rw [← HS.out]; have e : (⟨#[115, 115]⟩ : ByteArray).size = 2 := rfl; simp only [ByteArray.size_append, ByteArray.size_extract, e]; omega
          go_wp2_with (go_at_call 77; rw [HS.out]; refine (clone28 _ _ HL.out).mono ?_; rintro e w' ⟨rfl, hb⟩)
          go_ret
          exact ⟨rfl, by have := hz.out.1.size; exact ((hz.out.1.alloc this _).drew).trans (hb.mono (by simp; omega))⟩
        · have HS : Hid (s = R) := (stem_short (r := ⟨#[115, 115]⟩) (t := endsT.drop 1) hb h3).symm.trans hz.out.2
          have h3' : (s.size : Int) - 4 < 3 := by omega
          go_wp2_with (first | (go_at_call 76; refine (suffix27 _ _ _ hs (by decide)).mono ?_; rintro e w' ⟨rfl, rfl⟩) | (go_at_call 77; refine (clone28 _ _ (by omega)).mono ?_; rintro e w' ⟨rfl, hb⟩))
          go_ret
          rw [HS.out]
          exact ⟨rfl, by have := hz.out.1.size; exact (hz.out.1.alloc (by omega) _).trans (hb.mono (by simp; omega))⟩
    · have hix := ixE1 wr
      cases hb : hasB s ⟨#[105, 101, 115]⟩
      · go_wp2_with (go_at_call 76; refine (suffix27 _ _ _ hs (by decide)).mono ?_; rintro e w' ⟨rfl, rfl⟩)
        go_roundw
        case rel => exact ⟨2, by omega, rfl, by go_num, by have := hz.out.1.size; exact hz.out.1.alloc (by omega) _, (stem_no hb).symm.trans hz.out.2⟩
        case measure => simp [intOf]
      · by_cases h3 : 3 + 3 ≤ s.size
        · have HS : Hid (s.extract 0 (s.size - 3) ++ ⟨#[121]⟩ = R) := (stem_yes (r := ⟨#[121]⟩) (t := endsT.drop 2) hb h3).symm.trans hz.out.2
          have h3' : (3 : Int) ≤ (s.size : Int) - 3 := by omega
          go_wp2_with (go_at_call 76; refine (suffix27 _ _ _ hs (by decide)).mono ?_; rintro e w' ⟨rfl, rfl⟩)
          go_region
          have HL : Hid (R.size ≤ 281474976710656) := by show _ ≤ _; rw [← HS.out]; have e : (⟨#[121]⟩ : ByteArray).size = 1 := rfl; simp only [ByteArray.size_append, ByteArray.size_extract, e]; omega
          go_wp2_with (go_at_call 77; rw [HS.out]; refine (clone28 _ _ HL.out).mono ?_; rintro e w' ⟨rfl, hb⟩)
          go_ret
          exact ⟨rfl, by have := hz.out.1.size; exact ((hz.out.1.alloc this _).drew).trans (hb.mono (by simp; omega))⟩
        · have HS : Hid (s = R) := (stem_short (r := ⟨#[121]⟩) (t := endsT.drop 2) hb h3).symm.trans hz.out.2
          have h3' : (s.size : Int) - 3 < 3 := by omega
          go_wp2_with (first | (go_at_call 76; refine (suffix27 _ _ _ hs (by decide)).mono ?_; rintro e w' ⟨rfl, rfl⟩) | (go_at_call 77; refine (clone28 _ _ (by omega)).mono ?_; rintro e w' ⟨rfl, hb⟩))
          go_ret
          rw [HS.out]
          exact ⟨rfl, by have := hz.out.1.size; exact (hz.out.1.alloc (by omega) _).trans (hb.mono (by simp; omega))⟩
    · have hix := ixE2 wr
      cases hb : hasB s ⟨#[115, 115]⟩
      · go_wp2_with (go_at_call 76; refine (suffix27 _ _ _ hs (by decide)).mono ?_; rintro e w' ⟨rfl, rfl⟩)
        go_roundw
        case rel => exact ⟨3, by omega, rfl, by go_num, by have := hz.out.1.size; exact hz.out.1.alloc (by omega) _, (stem_no hb).symm.trans hz.out.2⟩
        case measure => simp [intOf]
      · by_cases h3 : 2 + 3 ≤ s.size
        · have HS : Hid (s.extract 0 (s.size - 2) ++ ⟨#[115, 115]⟩ = R) := (stem_yes (r := ⟨#[115, 115]⟩) (t := endsT.drop 3) hb h3).symm.trans hz.out.2
          have h3' : (3 : Int) ≤ (s.size : Int) - 2 := by omega
          go_wp2_with (go_at_call 76; refine (suffix27 _ _ _ hs (by decide)).mono ?_; rintro e w' ⟨rfl, rfl⟩)
          go_region
          have HL : Hid (R.size ≤ 281474976710656) := by show _ ≤ _; rw [← HS.out]; have e : (⟨#[115, 115]⟩ : ByteArray).size = 2 := rfl; simp only [ByteArray.size_append, ByteArray.size_extract, e]; omega
          go_wp2_with (go_at_call 77; rw [HS.out]; refine (clone28 _ _ HL.out).mono ?_; rintro e w' ⟨rfl, hb⟩)
          go_ret
          exact ⟨rfl, by have := hz.out.1.size; exact ((hz.out.1.alloc this _).drew).trans (hb.mono (by simp; omega))⟩
        · have HS : Hid (s = R) := (stem_short (r := ⟨#[115, 115]⟩) (t := endsT.drop 3) hb h3).symm.trans hz.out.2
          have h3' : (s.size : Int) - 2 < 3 := by omega
          go_wp2_with (first | (go_at_call 76; refine (suffix27 _ _ _ hs (by decide)).mono ?_; rintro e w' ⟨rfl, rfl⟩) | (go_at_call 77; refine (clone28 _ _ (by omega)).mono ?_; rintro e w' ⟨rfl, hb⟩))
          go_ret
          rw [HS.out]
          exact ⟨rfl, by have := hz.out.1.size; exact (hz.out.1.alloc (by omega) _).trans (hb.mono (by simp; omega))⟩
    · have hix := ixE3 wr
      cases hb : hasB s ⟨#[105, 110, 103]⟩
      · go_wp2_with (go_at_call 76; refine (suffix27 _ _ _ hs (by decide)).mono ?_; rintro e w' ⟨rfl, rfl⟩)
        go_roundw
        case rel => exact ⟨4, by omega, rfl, by go_num, by have := hz.out.1.size; exact hz.out.1.alloc (by omega) _, (stem_no hb).symm.trans hz.out.2⟩
        case measure => simp [intOf]
      · by_cases h3 : 3 + 3 ≤ s.size
        · have HS : Hid (s.extract 0 (s.size - 3) ++ ⟨#[]⟩ = R) := (stem_yes (r := ⟨#[]⟩) (t := endsT.drop 4) hb h3).symm.trans hz.out.2
          have h3' : (3 : Int) ≤ (s.size : Int) - 3 := by omega
          go_wp2_with (go_at_call 76; refine (suffix27 _ _ _ hs (by decide)).mono ?_; rintro e w' ⟨rfl, rfl⟩)
          go_region
          have HL : Hid (R.size ≤ 281474976710656) := by show _ ≤ _; rw [← HS.out]; have e : (⟨#[]⟩ : ByteArray).size = 0 := rfl; simp only [ByteArray.size_append, ByteArray.size_extract, e]; omega
          go_wp2_with (go_at_call 77; rw [HS.out]; refine (clone28 _ _ HL.out).mono ?_; rintro e w' ⟨rfl, hb⟩)
          go_ret
          exact ⟨rfl, by have := hz.out.1.size; exact ((hz.out.1.alloc this _).drew).trans (hb.mono (by simp; omega))⟩
        · have HS : Hid (s = R) := (stem_short (r := ⟨#[]⟩) (t := endsT.drop 4) hb h3).symm.trans hz.out.2
          have h3' : (s.size : Int) - 3 < 3 := by omega
          go_wp2_with (first | (go_at_call 76; refine (suffix27 _ _ _ hs (by decide)).mono ?_; rintro e w' ⟨rfl, rfl⟩) | (go_at_call 77; refine (clone28 _ _ (by omega)).mono ?_; rintro e w' ⟨rfl, hb⟩))
          go_ret
          rw [HS.out]
          exact ⟨rfl, by have := hz.out.1.size; exact (hz.out.1.alloc (by omega) _).trans (hb.mono (by simp; omega))⟩
    · have hix := ixE4 wr
      cases hb : hasB s ⟨#[101, 100]⟩
      · go_wp2_with (go_at_call 76; refine (suffix27 _ _ _ hs (by decide)).mono ?_; rintro e w' ⟨rfl, rfl⟩)
        go_roundw
        case rel => exact ⟨5, by omega, rfl, by go_num, by have := hz.out.1.size; exact hz.out.1.alloc (by omega) _, (stem_no hb).symm.trans hz.out.2⟩
        case measure => simp [intOf]
      · by_cases h3 : 2 + 3 ≤ s.size
        · have HS : Hid (s.extract 0 (s.size - 2) ++ ⟨#[]⟩ = R) := (stem_yes (r := ⟨#[]⟩) (t := endsT.drop 5) hb h3).symm.trans hz.out.2
          have h3' : (3 : Int) ≤ (s.size : Int) - 2 := by omega
          go_wp2_with (go_at_call 76; refine (suffix27 _ _ _ hs (by decide)).mono ?_; rintro e w' ⟨rfl, rfl⟩)
          go_region
          have HL : Hid (R.size ≤ 281474976710656) := by show _ ≤ _; rw [← HS.out]; have e : (⟨#[]⟩ : ByteArray).size = 0 := rfl; simp only [ByteArray.size_append, ByteArray.size_extract, e]; omega
          go_wp2_with (go_at_call 77; rw [HS.out]; refine (clone28 _ _ HL.out).mono ?_; rintro e w' ⟨rfl, hb⟩)
          go_ret
          exact ⟨rfl, by have := hz.out.1.size; exact ((hz.out.1.alloc this _).drew).trans (hb.mono (by simp; omega))⟩
        · have HS : Hid (s = R) := (stem_short (r := ⟨#[]⟩) (t := endsT.drop 5) hb h3).symm.trans hz.out.2
          have h3' : (s.size : Int) - 2 < 3 := by omega
          go_wp2_with (first | (go_at_call 76; refine (suffix27 _ _ _ hs (by decide)).mono ?_; rintro e w' ⟨rfl, rfl⟩) | (go_at_call 77; refine (clone28 _ _ (by omega)).mono ?_; rintro e w' ⟨rfl, hb⟩))
          go_ret
          rw [HS.out]
          exact ⟨rfl, by have := hz.out.1.size; exact (hz.out.1.alloc (by omega) _).trans (hb.mono (by simp; omega))⟩
    · have hix := ixE5 wr
      cases hb : hasB s ⟨#[101, 115]⟩
      · go_wp2_with (go_at_call 76; refine (suffix27 _ _ _ hs (by decide)).mono ?_; rintro e w' ⟨rfl, rfl⟩)
        go_roundw
        case rel => exact ⟨6, by omega, rfl, by go_num, by have := hz.out.1.size; exact hz.out.1.alloc (by omega) _, (stem_no hb).symm.trans hz.out.2⟩
        case measure => simp [intOf]
      · by_cases h3 : 2 + 3 ≤ s.size
        · have HS : Hid (s.extract 0 (s.size - 2) ++ ⟨#[101]⟩ = R) := (stem_yes (r := ⟨#[101]⟩) (t := endsT.drop 6) hb h3).symm.trans hz.out.2
          have h3' : (3 : Int) ≤ (s.size : Int) - 2 := by omega
          go_wp2_with (go_at_call 76; refine (suffix27 _ _ _ hs (by decide)).mono ?_; rintro e w' ⟨rfl, rfl⟩)
          go_region
          have HL : Hid (R.size ≤ 281474976710656) := by show _ ≤ _; rw [← HS.out]; have e : (⟨#[101]⟩ : ByteArray).size = 1 := rfl; simp only [ByteArray.size_append, ByteArray.size_extract, e]; omega
          go_wp2_with (go_at_call 77; rw [HS.out]; refine (clone28 _ _ HL.out).mono ?_; rintro e w' ⟨rfl, hb⟩)
          go_ret
          exact ⟨rfl, by have := hz.out.1.size; exact ((hz.out.1.alloc this _).drew).trans (hb.mono (by simp; omega))⟩
        · have HS : Hid (s = R) := (stem_short (r := ⟨#[101]⟩) (t := endsT.drop 6) hb h3).symm.trans hz.out.2
          have h3' : (s.size : Int) - 2 < 3 := by omega
          go_wp2_with (first | (go_at_call 76; refine (suffix27 _ _ _ hs (by decide)).mono ?_; rintro e w' ⟨rfl, rfl⟩) | (go_at_call 77; refine (clone28 _ _ (by omega)).mono ?_; rintro e w' ⟨rfl, hb⟩))
          go_ret
          rw [HS.out]
          exact ⟨rfl, by have := hz.out.1.size; exact (hz.out.1.alloc (by omega) _).trans (hb.mono (by simp; omega))⟩
    · have hix := ixE6 wr
      cases hb : hasB s ⟨#[115]⟩
      · go_wp2_with (go_at_call 76; refine (suffix27 _ _ _ hs (by decide)).mono ?_; rintro e w' ⟨rfl, rfl⟩)
        go_roundw
        case rel => exact ⟨7, by omega, rfl, by go_num, by have := hz.out.1.size; exact hz.out.1.alloc (by omega) _, (stem_no hb).symm.trans hz.out.2⟩
        case measure => simp [intOf]
      · by_cases h3 : 1 + 3 ≤ s.size
        · have HS : Hid (s.extract 0 (s.size - 1) ++ ⟨#[]⟩ = R) := (stem_yes (r := ⟨#[]⟩) (t := endsT.drop 7) hb h3).symm.trans hz.out.2
          have h3' : (3 : Int) ≤ (s.size : Int) - 1 := by omega
          go_wp2_with (go_at_call 76; refine (suffix27 _ _ _ hs (by decide)).mono ?_; rintro e w' ⟨rfl, rfl⟩)
          go_region
          have HL : Hid (R.size ≤ 281474976710656) := by show _ ≤ _; rw [← HS.out]; have e : (⟨#[]⟩ : ByteArray).size = 0 := rfl; simp only [ByteArray.size_append, ByteArray.size_extract, e]; omega
          go_wp2_with (go_at_call 77; rw [HS.out]; refine (clone28 _ _ HL.out).mono ?_; rintro e w' ⟨rfl, hb⟩)
          go_ret
          exact ⟨rfl, by have := hz.out.1.size; exact ((hz.out.1.alloc this _).drew).trans (hb.mono (by simp; omega))⟩
        · have HS : Hid (s = R) := (stem_short (r := ⟨#[]⟩) (t := endsT.drop 7) hb h3).symm.trans hz.out.2
          have h3' : (s.size : Int) - 1 < 3 := by omega
          go_wp2_with (first | (go_at_call 76; refine (suffix27 _ _ _ hs (by decide)).mono ?_; rintro e w' ⟨rfl, rfl⟩) | (go_at_call 77; refine (clone28 _ _ (by omega)).mono ?_; rintro e w' ⟨rfl, hb⟩))
          go_ret
          rw [HS.out]
          exact ⟨rfl, by have := hz.out.1.size; exact (hz.out.1.alloc (by omega) _).trans (hb.mono (by simp; omega))⟩
    · have HS : Hid (s = R) := hz.out.2
      go_wp2_with (go_at_call 77; refine (clone28 _ _ (by omega)).mono ?_; rintro e w' ⟨rfl, hb⟩)
      go_ret
      rw [HS.out]
      exact ⟨rfl, hz.out.1.trans (hb.mono hz.out.1.size)⟩

end Go.Proofs.YtleegplecdknlaaDoor
