/- Texts of the proof of MatchSets: WStem, APcs, PPure, QMe, HMe, HSt. -/
import Derived.Test.YtjgdnainhoipgaaGreatDoorM08
import Derived.Laws.OwnMore
namespace Go.Proofs.YtjgdnainhoipgaaGreatDoor
open Go.RowKit

/-- the package's variable holds the ends -/
def EndsAt (w : World) : Prop := w.cell? ⟨0, 0, none⟩ = some (.string ⟨#[115, 115, 101, 115]⟩) ∧ w.cell? ⟨0, 1, none⟩ = some (.string ⟨#[115, 115]⟩) ∧ w.cell? ⟨0, 2, none⟩ = some (.string ⟨#[105, 101, 115]⟩) ∧ w.cell? ⟨0, 3, none⟩ = some (.string ⟨#[121]⟩) ∧ w.cell? ⟨0, 4, none⟩ = some (.string ⟨#[115, 115]⟩) ∧ w.cell? ⟨0, 5, none⟩ = some (.string ⟨#[115, 115]⟩) ∧ w.cell? ⟨0, 6, none⟩ = some (.string ⟨#[105, 110, 103]⟩) ∧ w.cell? ⟨0, 7, none⟩ = some (.string ⟨#[]⟩) ∧ w.cell? ⟨0, 8, none⟩ = some (.string ⟨#[101, 100]⟩) ∧ w.cell? ⟨0, 9, none⟩ = some (.string ⟨#[]⟩) ∧ w.cell? ⟨0, 10, none⟩ = some (.string ⟨#[101, 115]⟩) ∧ w.cell? ⟨0, 11, none⟩ = some (.string ⟨#[101]⟩) ∧ w.cell? ⟨0, 12, none⟩ = some (.string ⟨#[115]⟩) ∧ w.cell? ⟨0, 13, none⟩ = some (.string ⟨#[]⟩)
theorem EndsAt.below {w w' : World} (h : EndsAt w) (hb : Below w.heap.size w w') : EndsAt w' := by
  have h0 : 0 < w.heap.size := World.block_lt_of_cell? w _ h.1
  unfold EndsAt at h ⊢
  have e : ∀ o, w'.cell? ⟨0, o, none⟩ = w.cell? ⟨0, o, none⟩ := fun o => hb.cell (p := ⟨0, o, none⟩) h0
  simp only [e]
  exact h
theorem ixE0 (W : World) : (Instr.index 127 (.agg #[.string ⟨#[115, 115, 101, 115]⟩, .string ⟨#[115, 115]⟩, .string ⟨#[105, 101, 115]⟩, .string ⟨#[121]⟩, .string ⟨#[115, 115]⟩, .string ⟨#[115, 115]⟩, .string ⟨#[105, 110, 103]⟩, .string ⟨#[]⟩, .string ⟨#[101, 100]⟩, .string ⟨#[]⟩, .string ⟨#[101, 115]⟩, .string ⟨#[101]⟩, .string ⟨#[115]⟩, .string ⟨#[]⟩]) (.int .i64 0)).run Tryz.prog W = .ok (.agg #[.string ⟨#[115, 115, 101, 115]⟩, .string ⟨#[115, 115]⟩]) W := by kernel_rfl
theorem ixE1 (W : World) : (Instr.index 127 (.agg #[.string ⟨#[115, 115, 101, 115]⟩, .string ⟨#[115, 115]⟩, .string ⟨#[105, 101, 115]⟩, .string ⟨#[121]⟩, .string ⟨#[115, 115]⟩, .string ⟨#[115, 115]⟩, .string ⟨#[105, 110, 103]⟩, .string ⟨#[]⟩, .string ⟨#[101, 100]⟩, .string ⟨#[]⟩, .string ⟨#[101, 115]⟩, .string ⟨#[101]⟩, .string ⟨#[115]⟩, .string ⟨#[]⟩]) (.int .i64 1)).run Tryz.prog W = .ok (.agg #[.string ⟨#[105, 101, 115]⟩, .string ⟨#[121]⟩]) W := by kernel_rfl
theorem ixE2 (W : World) : (Instr.index 127 (.agg #[.string ⟨#[115, 115, 101, 115]⟩, .string ⟨#[115, 115]⟩, .string ⟨#[105, 101, 115]⟩, .string ⟨#[121]⟩, .string ⟨#[115, 115]⟩, .string ⟨#[115, 115]⟩, .string ⟨#[105, 110, 103]⟩, .string ⟨#[]⟩, .string ⟨#[101, 100]⟩, .string ⟨#[]⟩, .string ⟨#[101, 115]⟩, .string ⟨#[101]⟩, .string ⟨#[115]⟩, .string ⟨#[]⟩]) (.int .i64 2)).run Tryz.prog W = .ok (.agg #[.string ⟨#[115, 115]⟩, .string ⟨#[115, 115]⟩]) W := by kernel_rfl
theorem ixE3 (W : World) : (Instr.index 127 (.agg #[.string ⟨#[115, 115, 101, 115]⟩, .string ⟨#[115, 115]⟩, .string ⟨#[105, 101, 115]⟩, .string ⟨#[121]⟩, .string ⟨#[115, 115]⟩, .string ⟨#[115, 115]⟩, .string ⟨#[105, 110, 103]⟩, .string ⟨#[]⟩, .string ⟨#[101, 100]⟩, .string ⟨#[]⟩, .string ⟨#[101, 115]⟩, .string ⟨#[101]⟩, .string ⟨#[115]⟩, .string ⟨#[]⟩]) (.int .i64 3)).run Tryz.prog W = .ok (.agg #[.string ⟨#[105, 110, 103]⟩, .string ⟨#[]⟩]) W := by kernel_rfl
theorem ixE4 (W : World) : (Instr.index 127 (.agg #[.string ⟨#[115, 115, 101, 115]⟩, .string ⟨#[115, 115]⟩, .string ⟨#[105, 101, 115]⟩, .string ⟨#[121]⟩, .string ⟨#[115, 115]⟩, .string ⟨#[115, 115]⟩, .string ⟨#[105, 110, 103]⟩, .string ⟨#[]⟩, .string ⟨#[101, 100]⟩, .string ⟨#[]⟩, .string ⟨#[101, 115]⟩, .string ⟨#[101]⟩, .string ⟨#[115]⟩, .string ⟨#[]⟩]) (.int .i64 4)).run Tryz.prog W = .ok (.agg #[.string ⟨#[101, 100]⟩, .string ⟨#[]⟩]) W := by kernel_rfl
theorem ixE5 (W : World) : (Instr.index 127 (.agg #[.string ⟨#[115, 115, 101, 115]⟩, .string ⟨#[115, 115]⟩, .string ⟨#[105, 101, 115]⟩, .string ⟨#[121]⟩, .string ⟨#[115, 115]⟩, .string ⟨#[115, 115]⟩, .string ⟨#[105, 110, 103]⟩, .string ⟨#[]⟩, .string ⟨#[101, 100]⟩, .string ⟨#[]⟩, .string ⟨#[101, 115]⟩, .string ⟨#[101]⟩, .string ⟨#[115]⟩, .string ⟨#[]⟩]) (.int .i64 5)).run Tryz.prog W = .ok (.agg #[.string ⟨#[101, 115]⟩, .string ⟨#[101]⟩]) W := by kernel_rfl
theorem ixE6 (W : World) : (Instr.index 127 (.agg #[.string ⟨#[115, 115, 101, 115]⟩, .string ⟨#[115, 115]⟩, .string ⟨#[105, 101, 115]⟩, .string ⟨#[121]⟩, .string ⟨#[115, 115]⟩, .string ⟨#[115, 115]⟩, .string ⟨#[105, 110, 103]⟩, .string ⟨#[]⟩, .string ⟨#[101, 100]⟩, .string ⟨#[]⟩, .string ⟨#[101, 115]⟩, .string ⟨#[101]⟩, .string ⟨#[115]⟩, .string ⟨#[]⟩]) (.int .i64 6)).run Tryz.prog W = .ok (.agg #[.string ⟨#[115]⟩, .string ⟨#[]⟩]) W := by kernel_rfl
set_option maxRecDepth 100000 in
set_option maxHeartbeats 4000000 in
theorem stem_any (s : ByteArray) (w : World) (hs : s.size ≤ 1000000) (he : EndsAt w) :
    Calls Tryz.prog 29 #[.string s] w fun e w' => e = .returned (.string (stemS s)) ∧ Below w.heap.size w w' := by
  obtain ⟨q0, q1, q2, q3, q4, q5, q6, q7, q8, q9, q10, q11, q12, q13⟩ := he
  have HR : Hid (stemFrom (endsT.drop 0) s = stemS s) := rfl
  generalize stemS s = R at *
  go_enter Tryz.func29, Tryz.ntmps29
  go_wp2
  clear q0 q1 q2 q3 q4 q5 q6 q7 q8 q9 q10 q11 q12 q13
  go_loopw [0, 7] (fun x i wr => ∃ k : Nat, k ≤ 7 ∧ x = .string s ∧ i = .int .i64 k ∧ Hid (Below w.heap.size w wr ∧ stemFrom (endsT.drop k) s = R)) (fun _ i _ => 7 - (intOf i).toNat)
  case atStart => exact ⟨0, Nat.zero_le _, rfl, rfl, Below.refl _ _, HR.out⟩
  case round =>
    clear HR
    obtain ⟨k, hk, rfl, rfl, hz⟩ := hrel
    have hk7 : k = 0 ∨ k = 1 ∨ k = 2 ∨ k = 3 ∨ k = 4 ∨ k = 5 ∨ k = 6 ∨ k = 7 := by omega
    rcases hk7 with rfl | rfl | rfl | rfl | rfl | rfl | rfl | rfl
    · have hix := ixE0 wr
      cases hb : hasB s ⟨#[115, 115, 101, 115]⟩
      · go_wp2_with (go_at_call 56; refine (suffix27 _ _ _ hs (by decide)).mono ?_; rintro e w' ⟨rfl, rfl⟩)
        go_roundw
        case rel => exact ⟨1, by omega, rfl, by go_num, by have := hz.out.1.size; exact hz.out.1.alloc (by omega) _, (stem_no hb).symm.trans hz.out.2⟩
        case measure => simp [intOf]
      · by_cases h3 : 4 + 3 ≤ s.size
        · have HS : Hid (s.extract 0 (s.size - 4) ++ ⟨#[115, 115]⟩ = R) := (stem_yes (r := ⟨#[115, 115]⟩) (t := endsT.drop 1) hb h3).symm.trans hz.out.2
          have h3' : (3 : Int) ≤ (s.size : Int) - 4 := by omega
          go_wp2_with (go_at_call 56; refine (suffix27 _ _ _ hs (by decide)).mono ?_; rintro e w' ⟨rfl, rfl⟩)
          go_region
          have HL : Hid (R.size ≤ 281474976710656) := by show _ ≤ _; rw [← HS.out]; have e : (⟨#[115, 115]⟩ : ByteArray).size = 2 := rfl; simp only [ByteArray.size_append, ByteArray.size_extract, e]; omega
          go_wp2_with (go_at_call 57; rw [HS.out]; refine (clone28 _ _ HL.out).mono ?_; rintro e w' ⟨rfl, hb⟩)
          go_ret
          exact ⟨rfl, by have := hz.out.1.size; exact ((hz.out.1.alloc this _).drew).trans (hb.mono (by simp; omega))⟩
        · have HS : Hid (s = R) := (stem_short (r := ⟨#[115, 115]⟩) (t := endsT.drop 1) hb h3).symm.trans hz.out.2
          have h3' : (s.size : Int) - 4 < 3 := by omega
          go_wp2_with (first | (go_at_call 56; refine (suffix27 _ _ _ hs (by decide)).mono ?_; rintro e w' ⟨rfl, rfl⟩) | (go_at_call 57; refine (clone28 _ _ (by omega)).mono ?_; rintro e w' ⟨rfl, hb⟩))
          go_ret
          rw [HS.out]
          exact ⟨rfl, by have := hz.out.1.size; exact (hz.out.1.alloc (by omega) _).trans (hb.mono (by simp; omega))⟩
    · have hix := ixE1 wr
      cases hb : hasB s ⟨#[105, 101, 115]⟩
      · go_wp2_with (go_at_call 56; refine (suffix27 _ _ _ hs (by decide)).mono ?_; rintro e w' ⟨rfl, rfl⟩)
        go_roundw
        case rel => exact ⟨2, by omega, rfl, by go_num, by have := hz.out.1.size; exact hz.out.1.alloc (by omega) _, (stem_no hb).symm.trans hz.out.2⟩
        case measure => simp [intOf]
      · by_cases h3 : 3 + 3 ≤ s.size
        · have HS : Hid (s.extract 0 (s.size - 3) ++ ⟨#[121]⟩ = R) := (stem_yes (r := ⟨#[121]⟩) (t := endsT.drop 2) hb h3).symm.trans hz.out.2
          have h3' : (3 : Int) ≤ (s.size : Int) - 3 := by omega
          go_wp2_with (go_at_call 56; refine (suffix27 _ _ _ hs (by decide)).mono ?_; rintro e w' ⟨rfl, rfl⟩)
          go_region
          have HL : Hid (R.size ≤ 281474976710656) := by show _ ≤ _; rw [← HS.out]; have e : (⟨#[121]⟩ : ByteArray).size = 1 := rfl; simp only [ByteArray.size_append, ByteArray.size_extract, e]; omega
          go_wp2_with (go_at_call 57; rw [HS.out]; refine (clone28 _ _ HL.out).mono ?_; rintro e w' ⟨rfl, hb⟩)
          go_ret
          exact ⟨rfl, by have := hz.out.1.size; exact ((hz.out.1.alloc this _).drew).trans (hb.mono (by simp; omega))⟩
        · have HS : Hid (s = R) := (stem_short (r := ⟨#[121]⟩) (t := endsT.drop 2) hb h3).symm.trans hz.out.2
          have h3' : (s.size : Int) - 3 < 3 := by omega
          go_wp2_with (first | (go_at_call 56; refine (suffix27 _ _ _ hs (by decide)).mono ?_; rintro e w' ⟨rfl, rfl⟩) | (go_at_call 57; refine (clone28 _ _ (by omega)).mono ?_; rintro e w' ⟨rfl, hb⟩))
          go_ret
          rw [HS.out]
          exact ⟨rfl, by have := hz.out.1.size; exact (hz.out.1.alloc (by omega) _).trans (hb.mono (by simp; omega))⟩
    · have hix := ixE2 wr
      cases hb : hasB s ⟨#[115, 115]⟩
      · go_wp2_with (go_at_call 56; refine (suffix27 _ _ _ hs (by decide)).mono ?_; rintro e w' ⟨rfl, rfl⟩)
        go_roundw
        case rel => exact ⟨3, by omega, rfl, by go_num, by have := hz.out.1.size; exact hz.out.1.alloc (by omega) _, (stem_no hb).symm.trans hz.out.2⟩
        case measure => simp [intOf]
      · by_cases h3 : 2 + 3 ≤ s.size
        · have HS : Hid (s.extract 0 (s.size - 2) ++ ⟨#[115, 115]⟩ = R) := (stem_yes (r := ⟨#[115, 115]⟩) (t := endsT.drop 3) hb h3).symm.trans hz.out.2
          have h3' : (3 : Int) ≤ (s.size : Int) - 2 := by omega
          go_wp2_with (go_at_call 56; refine (suffix27 _ _ _ hs (by decide)).mono ?_; rintro e w' ⟨rfl, rfl⟩)
          go_region
          have HL : Hid (R.size ≤ 281474976710656) := by show _ ≤ _; rw [← HS.out]; have e : (⟨#[115, 115]⟩ : ByteArray).size = 2 := rfl; simp only [ByteArray.size_append, ByteArray.size_extract, e]; omega
          go_wp2_with (go_at_call 57; rw [HS.out]; refine (clone28 _ _ HL.out).mono ?_; rintro e w' ⟨rfl, hb⟩)
          go_ret
          exact ⟨rfl, by have := hz.out.1.size; exact ((hz.out.1.alloc this _).drew).trans (hb.mono (by simp; omega))⟩
        · have HS : Hid (s = R) := (stem_short (r := ⟨#[115, 115]⟩) (t := endsT.drop 3) hb h3).symm.trans hz.out.2
          have h3' : (s.size : Int) - 2 < 3 := by omega
          go_wp2_with (first | (go_at_call 56; refine (suffix27 _ _ _ hs (by decide)).mono ?_; rintro e w' ⟨rfl, rfl⟩) | (go_at_call 57; refine (clone28 _ _ (by omega)).mono ?_; rintro e w' ⟨rfl, hb⟩))
          go_ret
          rw [HS.out]
          exact ⟨rfl, by have := hz.out.1.size; exact (hz.out.1.alloc (by omega) _).trans (hb.mono (by simp; omega))⟩
    · have hix := ixE3 wr
      cases hb : hasB s ⟨#[105, 110, 103]⟩
      · go_wp2_with (go_at_call 56; refine (suffix27 _ _ _ hs (by decide)).mono ?_; rintro e w' ⟨rfl, rfl⟩)
        go_roundw
        case rel => exact ⟨4, by omega, rfl, by go_num, by have := hz.out.1.size; exact hz.out.1.alloc (by omega) _, (stem_no hb).symm.trans hz.out.2⟩
        case measure => simp [intOf]
      · by_cases h3 : 3 + 3 ≤ s.size
        · have HS : Hid (s.extract 0 (s.size - 3) ++ ⟨#[]⟩ = R) := (stem_yes (r := ⟨#[]⟩) (t := endsT.drop 4) hb h3).symm.trans hz.out.2
          have h3' : (3 : Int) ≤ (s.size : Int) - 3 := by omega
          go_wp2_with (go_at_call 56; refine (suffix27 _ _ _ hs (by decide)).mono ?_; rintro e w' ⟨rfl, rfl⟩)
          go_region
          have HL : Hid (R.size ≤ 281474976710656) := by show _ ≤ _; rw [← HS.out]; have e : (⟨#[]⟩ : ByteArray).size = 0 := rfl; simp only [ByteArray.size_append, ByteArray.size_extract, e]; omega
          go_wp2_with (go_at_call 57; rw [HS.out]; refine (clone28 _ _ HL.out).mono ?_; rintro e w' ⟨rfl, hb⟩)
          go_ret
          exact ⟨rfl, by have := hz.out.1.size; exact ((hz.out.1.alloc this _).drew).trans (hb.mono (by simp; omega))⟩
        · have HS : Hid (s = R) := (stem_short (r := ⟨#[]⟩) (t := endsT.drop 4) hb h3).symm.trans hz.out.2
          have h3' : (s.size : Int) - 3 < 3 := by omega
          go_wp2_with (first | (go_at_call 56; refine (suffix27 _ _ _ hs (by decide)).mono ?_; rintro e w' ⟨rfl, rfl⟩) | (go_at_call 57; refine (clone28 _ _ (by omega)).mono ?_; rintro e w' ⟨rfl, hb⟩))
          go_ret
          rw [HS.out]
          exact ⟨rfl, by have := hz.out.1.size; exact (hz.out.1.alloc (by omega) _).trans (hb.mono (by simp; omega))⟩
    · have hix := ixE4 wr
      cases hb : hasB s ⟨#[101, 100]⟩
      · go_wp2_with (go_at_call 56; refine (suffix27 _ _ _ hs (by decide)).mono ?_; rintro e w' ⟨rfl, rfl⟩)
        go_roundw
        case rel => exact ⟨5, by omega, rfl, by go_num, by have := hz.out.1.size; exact hz.out.1.alloc (by omega) _, (stem_no hb).symm.trans hz.out.2⟩
        case measure => simp [intOf]
      · by_cases h3 : 2 + 3 ≤ s.size
        · have HS : Hid (s.extract 0 (s.size - 2) ++ ⟨#[]⟩ = R) := (stem_yes (r := ⟨#[]⟩) (t := endsT.drop 5) hb h3).symm.trans hz.out.2
          have h3' : (3 : Int) ≤ (s.size : Int) - 2 := by omega
          go_wp2_with (go_at_call 56; refine (suffix27 _ _ _ hs (by decide)).mono ?_; rintro e w' ⟨rfl, rfl⟩)
          go_region
          have HL : Hid (R.size ≤ 281474976710656) := by show _ ≤ _; rw [← HS.out]; have e : (⟨#[]⟩ : ByteArray).size = 0 := rfl; simp only [ByteArray.size_append, ByteArray.size_extract, e]; omega
          go_wp2_with (go_at_call 57; rw [HS.out]; refine (clone28 _ _ HL.out).mono ?_; rintro e w' ⟨rfl, hb⟩)
          go_ret
          exact ⟨rfl, by have := hz.out.1.size; exact ((hz.out.1.alloc this _).drew).trans (hb.mono (by simp; omega))⟩
        · have HS : Hid (s = R) := (stem_short (r := ⟨#[]⟩) (t := endsT.drop 5) hb h3).symm.trans hz.out.2
          have h3' : (s.size : Int) - 2 < 3 := by omega
          go_wp2_with (first | (go_at_call 56; refine (suffix27 _ _ _ hs (by decide)).mono ?_; rintro e w' ⟨rfl, rfl⟩) | (go_at_call 57; refine (clone28 _ _ (by omega)).mono ?_; rintro e w' ⟨rfl, hb⟩))
          go_ret
          rw [HS.out]
          exact ⟨rfl, by have := hz.out.1.size; exact (hz.out.1.alloc (by omega) _).trans (hb.mono (by simp; omega))⟩
    · have hix := ixE5 wr
      cases hb : hasB s ⟨#[101, 115]⟩
      · go_wp2_with (go_at_call 56; refine (suffix27 _ _ _ hs (by decide)).mono ?_; rintro e w' ⟨rfl, rfl⟩)
        go_roundw
        case rel => exact ⟨6, by omega, rfl, by go_num, by have := hz.out.1.size; exact hz.out.1.alloc (by omega) _, (stem_no hb).symm.trans hz.out.2⟩
        case measure => simp [intOf]
      · by_cases h3 : 2 + 3 ≤ s.size
        · have HS : Hid (s.extract 0 (s.size - 2) ++ ⟨#[101]⟩ = R) := (stem_yes (r := ⟨#[101]⟩) (t := endsT.drop 6) hb h3).symm.trans hz.out.2
          have h3' : (3 : Int) ≤ (s.size : Int) - 2 := by omega
          go_wp2_with (go_at_call 56; refine (suffix27 _ _ _ hs (by decide)).mono ?_; rintro e w' ⟨rfl, rfl⟩)
          go_region
          have HL : Hid (R.size ≤ 281474976710656) := by show _ ≤ _; rw [← HS.out]; have e : (⟨#[101]⟩ : ByteArray).size = 1 := rfl; simp only [ByteArray.size_append, ByteArray.size_extract, e]; omega
          go_wp2_with (go_at_call 57; rw [HS.out]; refine (clone28 _ _ HL.out).mono ?_; rintro e w' ⟨rfl, hb⟩)
          go_ret
          exact ⟨rfl, by have := hz.out.1.size; exact ((hz.out.1.alloc this _).drew).trans (hb.mono (by simp; omega))⟩
        · have HS : Hid (s = R) := (stem_short (r := ⟨#[101]⟩) (t := endsT.drop 6) hb h3).symm.trans hz.out.2
          have h3' : (s.size : Int) - 2 < 3 := by omega
          go_wp2_with (first | (go_at_call 56; refine (suffix27 _ _ _ hs (by decide)).mono ?_; rintro e w' ⟨rfl, rfl⟩) | (go_at_call 57; refine (clone28 _ _ (by omega)).mono ?_; rintro e w' ⟨rfl, hb⟩))
          go_ret
          rw [HS.out]
          exact ⟨rfl, by have := hz.out.1.size; exact (hz.out.1.alloc (by omega) _).trans (hb.mono (by simp; omega))⟩
    · have hix := ixE6 wr
      cases hb : hasB s ⟨#[115]⟩
      · go_wp2_with (go_at_call 56; refine (suffix27 _ _ _ hs (by decide)).mono ?_; rintro e w' ⟨rfl, rfl⟩)
        go_roundw
        case rel => exact ⟨7, by omega, rfl, by go_num, by have := hz.out.1.size; exact hz.out.1.alloc (by omega) _, (stem_no hb).symm.trans hz.out.2⟩
        case measure => simp [intOf]
      · by_cases h3 : 1 + 3 ≤ s.size
        · have HS : Hid (s.extract 0 (s.size - 1) ++ ⟨#[]⟩ = R) := (stem_yes (r := ⟨#[]⟩) (t := endsT.drop 7) hb h3).symm.trans hz.out.2
          have h3' : (3 : Int) ≤ (s.size : Int) - 1 := by omega
          go_wp2_with (go_at_call 56; refine (suffix27 _ _ _ hs (by decide)).mono ?_; rintro e w' ⟨rfl, rfl⟩)
          go_region
          have HL : Hid (R.size ≤ 281474976710656) := by show _ ≤ _; rw [← HS.out]; have e : (⟨#[]⟩ : ByteArray).size = 0 := rfl; simp only [ByteArray.size_append, ByteArray.size_extract, e]; omega
          go_wp2_with (go_at_call 57; rw [HS.out]; refine (clone28 _ _ HL.out).mono ?_; rintro e w' ⟨rfl, hb⟩)
          go_ret
          exact ⟨rfl, by have := hz.out.1.size; exact ((hz.out.1.alloc this _).drew).trans (hb.mono (by simp; omega))⟩
        · have HS : Hid (s = R) := (stem_short (r := ⟨#[]⟩) (t := endsT.drop 7) hb h3).symm.trans hz.out.2
          have h3' : (s.size : Int) - 1 < 3 := by omega
          go_wp2_with (first | (go_at_call 56; refine (suffix27 _ _ _ hs (by decide)).mono ?_; rintro e w' ⟨rfl, rfl⟩) | (go_at_call 57; refine (clone28 _ _ (by omega)).mono ?_; rintro e w' ⟨rfl, hb⟩))
          go_ret
          rw [HS.out]
          exact ⟨rfl, by have := hz.out.1.size; exact (hz.out.1.alloc (by omega) _).trans (hb.mono (by simp; omega))⟩
    · have HS : Hid (s = R) := hz.out.2
      go_wp2_with (go_at_call 57; refine (clone28 _ _ (by omega)).mono ?_; rintro e w' ⟨rfl, hb⟩)
      go_ret
      rw [HS.out]
      exact ⟨rfl, hz.out.1.trans (hb.mono hz.out.1.size)⟩

end Go.Proofs.YtjgdnainhoipgaaGreatDoor
namespace Go.Proofs.YtjgdnainhoipgaaGreatDoor
open Go.RowKit

/-- where a run of such bytes ends -/
def endW (p : UInt8 → Bool) (s : ByteArray) (k : Nat) : Nat := k + ((s.data.toList.drop k).takeWhile p).length
theorem endW_step {p : UInt8 → Bool} {s : ByteArray} {k : Nat} (h : k < s.size) (hp : p s[k] = true) : endW p s k = endW p s (k + 1) := by
  unfold endW
  rw [drop_at s k h, List.takeWhile_cons_of_pos hp, List.length_cons]
  omega
theorem endW_stop {p : UInt8 → Bool} {s : ByteArray} {k : Nat} (h : k < s.size) (hp : p s[k] = false) : endW p s k = k := by
  unfold endW
  rw [drop_at s k h, List.takeWhile_cons_of_neg (by rw [hp]; decide)]
  rfl
theorem endW_end {p : UInt8 → Bool} {s : ByteArray} {k : Nat} (h : s.size ≤ k) : endW p s k = k := by
  unfold endW
  rw [List.drop_eq_nil_of_le (by rw [ba_len]; exact h)]
  rfl
theorem endW_le {p : UInt8 → Bool} {s : ByteArray} {k : Nat} (h : k ≤ s.size) : endW p s k ≤ s.size := by
  unfold endW
  have h1 := (List.takeWhile_sublist p (l := s.data.toList.drop k)).length_le
  rw [List.length_drop, ba_len] at h1
  omega
def notQ (c : UInt8) : Bool := !decide (c.toNat = 34)
def isCut (c : UInt8) : Bool := c == 32 || c == 40 || c == 41 || c == 42 || c == 34
def notC (c : UInt8) : Bool := !isCut c
def piecesM (s : ByteArray) : Nat → Nat → Option (List ByteArray)
  | 0, _ => some []
  | f + 1, i =>
    if h : i < s.size then
      if s[i].toNat = 32 then piecesM s f (i + 1)
      else if s[i].toNat = 40 ∨ s[i].toNat = 41 ∨ s[i].toNat = 42 then (piecesM s f (i + 1)).map (s.extract i (i + 1) :: ·)
      else if s[i].toNat = 34 then
        if endW notQ s (i + 1) = s.size then none else (piecesM s f (endW notQ s (i + 1) + 1)).map (s.extract i (endW notQ s (i + 1)) :: ·)
      else (piecesM s f (endW notC s i)).map (s.extract i (endW notC s i) :: ·)
    else some []
theorem extract_le (s : ByteArray) (i k : Nat) (h : k ≤ s.size) : (s.extract i k).size ≤ s.size := by simp; omega
theorem pieces_spec (s : ByteArray) (f : Nat) : ∀ i L, piecesM s f i = some L → L.length ≤ f ∧ ∀ x ∈ L, x.size ≤ s.size := by
  induction f with
  | zero => intro i L h; cases h; exact ⟨Nat.le_refl _, fun x h => by cases h⟩
  | succ f ih =>
    have key : ∀ (x : ByteArray) (j : Nat) (L : List ByteArray), x.size ≤ s.size → (piecesM s f j).map (x :: ·) = some L → L.length ≤ f + 1 ∧ ∀ y ∈ L, y.size ≤ s.size := by
      intro x j L hx h
      cases hm : piecesM s f j with
      | none => rw [hm] at h; cases h
      | some M =>
        rw [hm] at h
        cases h
        obtain ⟨h1, h2⟩ := ih j M hm
        refine ⟨by simp; omega, fun y hy => ?_⟩
        rcases List.mem_cons.1 hy with rfl | hy
        · exact hx
        · exact h2 y hy
    intro i L h
    rw [piecesM] at h
    split at h
    · rename_i hi
      split at h
      · obtain ⟨h1, h2⟩ := ih _ _ h; exact ⟨by omega, h2⟩
      · split at h
        · exact key _ _ _ (extract_le _ _ _ (by omega)) h
        · split at h
          · split at h
            · cases h
            · exact key _ _ _ (extract_le _ _ _ (endW_le (by omega))) h
          · exact key _ _ _ (extract_le _ _ _ (endW_le (by omega))) h
    · cases h; exact ⟨by simp, fun x h => by cases h⟩
end Go.Proofs.YtjgdnainhoipgaaGreatDoor
namespace Go.Proofs.YtjgdnainhoipgaaGreatDoor
open Go.RowKit

def pcs : Nat → List UInt8 → Option (List ByteArray)
  | 0, _ => some []
  | _ + 1, [] => some []
  | f + 1, c :: l =>
    if c.toNat = 32 then pcs f l
    else if c.toNat = 40 ∨ c.toNat = 41 ∨ c.toNat = 42 then (pcs f l).map (⟨#[c]⟩ :: ·)
    else if c.toNat = 34 then
      if (l.takeWhile notQ).length = l.length then none else (pcs f (l.drop ((l.takeWhile notQ).length + 1))).map (⟨(c :: l.takeWhile notQ).toArray⟩ :: ·)
    else (pcs f (l.drop (l.takeWhile notC).length)).map (⟨(c :: l.takeWhile notC).toArray⟩ :: ·)

theorem take_while {α : Type} (p : α → Bool) (l : List α) : l.take (l.takeWhile p).length = l.takeWhile p := by
  have h := List.takeWhile_prefix p (l := l)
  exact (List.prefix_iff_eq_take.1 h).symm
theorem ext_take (s : ByteArray) (i n : Nat) (h : i < s.size) (L : List UInt8) (hL : (s.data.toList.drop (i + 1)).take n = L) : s.extract i (i + 1 + n) = ⟨(s[i] :: L).toArray⟩ := by
  apply ba_ext
  rw [ba_extract, List.drop_take, drop_at s i h, show i + 1 + n - i = n + 1 by omega, List.take_succ_cons, hL]
theorem notC_of {c : UInt8} (h1 : c.toNat ≠ 32) (h2 : ¬ (c.toNat = 40 ∨ c.toNat = 41 ∨ c.toNat = 42)) (h3 : c.toNat ≠ 34) : notC c = true := by
  have e : ∀ n : UInt8, c.toNat ≠ n.toNat → (c == n) = false := fun n hn => by
    rw [beq_eq_false_iff_ne]; exact fun e => hn (by rw [e])
  simp only [notC, isCut, e 32 h1, e 40 (fun h => h2 (.inl h)), e 41 (fun h => h2 (.inr (.inl h))), e 42 (fun h => h2 (.inr (.inr h))), e 34 h3]; rfl
theorem notC_ne {c : UInt8} (h : notC c = true) : c.toNat ≠ 32 ∧ ¬ (c.toNat = 40 ∨ c.toNat = 41 ∨ c.toNat = 42) ∧ c.toNat ≠ 34 := by
  have key : ∀ n : UInt8, c.toNat = n.toNat → c = n := fun n hn => UInt8.toNat_inj.1 hn
  refine ⟨fun e => ?_, fun e => ?_, fun e => ?_⟩
  · rw [key 32 e] at h; exact absurd h (by decide)
  · rcases e with e | e | e
    · rw [key 40 e] at h; exact absurd h (by decide)
    · rw [key 41 e] at h; exact absurd h (by decide)
    · rw [key 42 e] at h; exact absurd h (by decide)
  · rw [key 34 e] at h; exact absurd h (by decide)

theorem pcs_at (s : ByteArray) (f : Nat) : ∀ i, piecesM s f i = pcs f (s.data.toList.drop i) := by
  induction f with
  | zero => intro i; rfl
  | succ f ih =>
    intro i
    rw [piecesM]
    by_cases h : i < s.size
    · rw [dif_pos h, drop_at s i h, pcs]
      by_cases h1 : s[i].toNat = 32
      · rw [if_pos h1, if_pos h1, ih]
      · rw [if_neg h1, if_neg h1]
        by_cases h2 : s[i].toNat = 40 ∨ s[i].toNat = 41 ∨ s[i].toNat = 42
        · rw [if_pos h2, if_pos h2, ih]
          have e := ext_take s i 0 h [] (List.take_zero)
          simp only [Nat.add_zero] at e
          rw [e]
        · rw [if_neg h2, if_neg h2]
          by_cases h3 : s[i].toNat = 34
          · rw [if_pos h3, if_pos h3]
            have hl : (s.data.toList.drop (i + 1)).length = s.size - (i + 1) := by rw [List.length_drop, ba_len]
            have he : endW notQ s (i + 1) = i + 1 + ((s.data.toList.drop (i + 1)).takeWhile notQ).length := rfl
            by_cases h4 : endW notQ s (i + 1) = s.size
            · rw [if_pos h4, if_pos (by omega)]
            · rw [if_neg h4, if_neg (by omega), ih, he, List.drop_drop, show i + 1 + ((s.data.toList.drop (i + 1)).takeWhile notQ).length + 1 = i + 1 + (((s.data.toList.drop (i + 1)).takeWhile notQ).length + 1) by omega]
              rw [ext_take s i _ h _ (take_while _ _)]
          · rw [if_neg h3, if_neg h3, endW_step h (notC_of h1 h2 h3), ih]
            have he : endW notC s (i + 1) = i + 1 + ((s.data.toList.drop (i + 1)).takeWhile notC).length := rfl
            rw [he, List.drop_drop, ext_take s i _ h _ (take_while _ _)]
    · rw [dif_neg h, List.drop_eq_nil_of_le (by rw [ba_len]; omega)]
      rfl
theorem pcs_fuel (f : Nat) : ∀ g l, l.length ≤ f → l.length ≤ g → pcs f l = pcs g l := by
  induction f with
  | zero =>
    intro g l h1 h2
    obtain rfl : l = [] := List.length_eq_zero_iff.1 (by omega)
    cases g <;> rfl
  | succ f ih =>
    intro g l h1 h2
    cases l with
    | nil => cases g <;> rfl
    | cons c l =>
      cases g with
      | zero => simp at h2
      | succ g =>
        simp only [List.length_cons] at h1 h2
        have key : ∀ n, pcs f (l.drop n) = pcs g (l.drop n) := fun n => ih g _ (by simp; omega) (by simp; omega)
        have k0 := key 0
        rw [List.drop_zero] at k0
        rw [pcs, pcs, k0, key, key]

/-- a text is cut into these -/
def Cuts (l : List UInt8) (L : List ByteArray) : Prop := pcs l.length l = some L
theorem Cuts.of {f : Nat} {l : List UInt8} {L : List ByteArray} (hl : l.length ≤ f) (h : pcs f l = some L) : Cuts l L := by
  unfold Cuts; rw [pcs_fuel _ f l (Nat.le_refl _) hl]; exact h
theorem cuts_nil {L : List ByteArray} (h : Cuts [] L) : L = [] := (Option.some.inj h).symm
theorem cuts_nil_mk : Cuts [] [] := rfl
theorem cuts_blank {c : UInt8} {l : List UInt8} {L : List ByteArray} (hc : c.toNat = 32) (h : Cuts (c :: l) L) : Cuts l L := by
  unfold Cuts at h
  rw [List.length_cons, pcs, if_pos hc] at h
  exact h
theorem map_cons {x : ByteArray} {o : Option (List ByteArray)} {L : List ByteArray} (h : o.map (x :: ·) = some L) : ∃ L', L = x :: L' ∧ o = some L' := by
  cases o with
  | none => cases h
  | some M => exact ⟨M, (Option.some.inj h).symm, rfl⟩
theorem cuts_sign {c : UInt8} {l : List UInt8} {L : List ByteArray} (hc : c.toNat = 40 ∨ c.toNat = 41 ∨ c.toNat = 42) (h : Cuts (c :: l) L) : ∃ L', L = ⟨#[c]⟩ :: L' ∧ Cuts l L' := by
  unfold Cuts at h
  rw [List.length_cons, pcs, if_neg (by omega), if_pos hc] at h
  exact map_cons h
theorem cuts_quote {c : UInt8} {l : List UInt8} {L : List ByteArray} (hc : c.toNat = 34) (h : Cuts (c :: l) L) : (l.takeWhile notQ).length < l.length ∧ ∃ L', L = ⟨(c :: l.takeWhile notQ).toArray⟩ :: L' ∧ Cuts (l.drop ((l.takeWhile notQ).length + 1)) L' := by
  unfold Cuts at h
  rw [List.length_cons, pcs, if_neg (by omega), if_neg (by omega), if_pos hc] at h
  have hle := (List.takeWhile_sublist notQ (l := l)).length_le
  by_cases h4 : (l.takeWhile notQ).length = l.length
  · rw [if_pos h4] at h; cases h
  · rw [if_neg h4] at h
    obtain ⟨L', e, h'⟩ := map_cons h
    exact ⟨by omega, L', e, Cuts.of (by rw [List.length_drop]; omega) h'⟩
theorem cuts_run {c : UInt8} {l : List UInt8} {L : List ByteArray} (hc : notC c = true) (h : Cuts (c :: l) L) : ∃ L', L = ⟨(c :: l.takeWhile notC).toArray⟩ :: L' ∧ Cuts (l.drop (l.takeWhile notC).length) L' := by
  obtain ⟨h1, h2, h3⟩ := notC_ne hc
  unfold Cuts at h
  rw [List.length_cons, pcs, if_neg h1, if_neg h2, if_neg h3] at h
  obtain ⟨L', e, h'⟩ := map_cons h
  exact ⟨L', e, Cuts.of (by rw [List.length_drop]; omega) h'⟩
theorem cuts_trim {l : List UInt8} {L : List ByteArray} (h : Cuts l L) : Cuts (l.dropWhile (· == 32)) L := by
  induction l with
  | nil => exact h
  | cons c l ih =>
    rw [List.dropWhile_cons]
    by_cases hc : (c == 32) = true
    · rw [if_pos hc]
      exact ih (cuts_blank (by rw [beq_iff_eq.1 hc]; rfl) h)
    · rw [if_neg hc]; exact h

/-- quotes that do not end -/
theorem count_none {p : UInt8 → Bool} (hp : p 34 = false) (l : List UInt8) : (l.takeWhile p).count 34 = 0 := by
  rw [List.count_eq_zero]
  intro hm
  have h := List.all_takeWhile (p := p) (l := l)
  rw [List.all_eq_true] at h
  exact absurd (h 34 hm) (by rw [hp]; decide)
theorem count_drop {p : UInt8 → Bool} (hp : p 34 = false) (l : List UInt8) : l.count 34 = (l.drop (l.takeWhile p).length).count 34 := by
  have h := List.take_append_drop (l.takeWhile p).length l
  rw [take_while] at h
  conv => lhs; rw [← h]
  rw [List.count_append, count_none hp, Nat.zero_add]
theorem count_ne {c : UInt8} (l : List UInt8) (h : c.toNat ≠ 34) : (c :: l).count 34 = l.count 34 := by
  rw [List.count_cons, if_neg (by rw [beq_iff_eq]; intro e; exact h (by rw [e]; rfl))]; rfl
theorem while_stop {p : UInt8 → Bool} (l : List UInt8) (h : (l.takeWhile p).length < l.length) : ∃ d, p d = false ∧ l.drop (l.takeWhile p).length = d :: l.drop ((l.takeWhile p).length + 1) := by
  induction l with
  | nil => simp at h
  | cons c l ih =>
    by_cases hc : p c = true
    · rw [List.takeWhile_cons_of_pos hc] at h ⊢
      simp only [List.length_cons] at h ⊢
      obtain ⟨d, h1, h2⟩ := ih (by omega)
      exact ⟨d, h1, by simpa using h2⟩
    · rw [List.takeWhile_cons_of_neg hc]
      exact ⟨c, by simpa using hc, by simp⟩
theorem pcs_odd (f : Nat) : ∀ l, l.length ≤ f → (pcs f l = none ↔ l.count 34 % 2 = 1) := by
  induction f with
  | zero =>
    intro l h
    obtain rfl : l = [] := List.length_eq_zero_iff.1 (by omega)
    simp [pcs]
  | succ f ih =>
    intro l h
    cases l with
    | nil => simp [pcs]
    | cons c l =>
      simp only [List.length_cons] at h
      rw [pcs]
      by_cases h1 : c.toNat = 32
      · rw [if_pos h1, ih l (by omega), count_ne l (by omega)]
      · rw [if_neg h1]
        by_cases h2 : c.toNat = 40 ∨ c.toNat = 41 ∨ c.toNat = 42
        · rw [if_pos h2, Option.map_eq_none_iff, ih l (by omega), count_ne l (by omega)]
        · rw [if_neg h2]
          by_cases h3 : c.toNat = 34
          · rw [if_pos h3]
            obtain rfl : c = 34 := UInt8.toNat_inj.1 h3
            have hq : notQ 34 = false := by decide
            have e := count_drop hq l
            rw [List.count_cons_self, e]
            by_cases h4 : (l.takeWhile notQ).length = l.length
            · rw [if_pos h4, h4, List.drop_length]
              simp
            · have hle := (List.takeWhile_sublist notQ (l := l)).length_le
              obtain ⟨d, hd, hdr⟩ := while_stop (p := notQ) l (by omega)
              rw [if_neg h4, Option.map_eq_none_iff, ih _ (by simp; omega), hdr]
              obtain rfl : d = 34 := by
                have : d.toNat = 34 := by simpa [notQ] using hd
                exact UInt8.toNat_inj.1 this
              rw [List.count_cons_self]
              omega
          · rw [if_neg h3, Option.map_eq_none_iff, ih _ (by simp; omega), count_ne l h3, ← count_drop (p := notC) (by decide) l]
/-- one byte of a kind of its own, quotes, or a run -/
def kindT (x : ByteArray) : Int × ByteArray :=
  if x = tOpen then (1, ⟨#[]⟩) else if x = tShut then (2, ⟨#[]⟩) else if x = tStar then (3, ⟨#[]⟩)
  else if firstB x = 34 then (4, ⟨(x.data.toList.drop 1).toArray⟩) else (5, x)
def headP : List ByteArray → Int × ByteArray
  | [] => (0, ⟨#[]⟩)
  | x :: _ => kindT x
/-- a piece that may be -/
inductive Good : ByteArray → Prop
  | opens : Good tOpen
  | shuts : Good tShut
  | star : Good tStar
  | quoted (r : List UInt8) : r.length ≤ 400 → Good ⟨(34 :: r).toArray⟩
  | run (c : UInt8) (r : List UInt8) : r.length < 400 → (∀ d ∈ c :: r, notC d = true) → Good ⟨(c :: r).toArray⟩
theorem first_mk (c : UInt8) (r : List UInt8) : firstB ⟨(c :: r).toArray⟩ = c := by simp [firstB]
theorem mk_ne {c d : UInt8} {r : List UInt8} (h : c ≠ d) : (⟨(c :: r).toArray⟩ : ByteArray) ≠ ⟨#[d]⟩ := by
  intro e
  have := congrArg firstB e
  rw [first_mk] at this
  exact h this
theorem kind_quoted (r : List UInt8) : kindT ⟨(34 :: r).toArray⟩ = (4, ⟨r.toArray⟩) := by
  unfold kindT tOpen tShut tStar
  rw [if_neg (mk_ne (by decide)), if_neg (mk_ne (by decide)), if_neg (mk_ne (by decide)), if_pos (first_mk _ _)]
  simp
theorem kind_run {c : UInt8} {r : List UInt8} (h : notC c = true) : kindT ⟨(c :: r).toArray⟩ = (5, ⟨(c :: r).toArray⟩) := by
  have key : ∀ d : UInt8, notC d = false → c ≠ d := fun d hd e => by rw [e, hd] at h; cases h
  unfold kindT tOpen tShut tStar
  rw [if_neg (mk_ne (key 40 (by decide))), if_neg (mk_ne (key 41 (by decide))), if_neg (mk_ne (key 42 (by decide))), if_neg (by rw [first_mk]; exact key 34 (by decide))]
theorem mk_none (c : UInt8) (r : List UInt8) : (⟨(c :: r).toArray⟩ : ByteArray) ≠ tNone := by
  intro e
  have := congrArg (fun x : ByteArray => x.data.toList.length) e
  simp [tNone] at this
end Go.Proofs.YtjgdnainhoipgaaGreatDoor
namespace Go.Proofs.YtjgdnainhoipgaaGreatDoor
open Go.RowKit

theorem grownA_refl (w : World) (r : Option Nat) : w.grownBy w r := ⟨rfl, rfl, rfl, Nat.le_refl _, fun _ _ _ => rfl⟩
theorem grown_of_belowA {w w' : World} (h : Below w.heap.size w w') (row : Option Nat) : w.grownBy w' row := ⟨h.os, h.tape, h.output, h.size, fun k hk _ => h.block k hk⟩
theorem grownA_set (W : World) (b o : Nat) (v : Value) : W.grownBy (W.setCell ⟨b, o, none⟩ v) (some b) :=
  ⟨rfl, rfl, rfl, by simp [World.setCell], fun k _ hk => Below.heap_setCell W ⟨b, o, none⟩ v k (fun e => hk (by rw [e]))⟩
theorem beqT (p : ByteArray) (l : List UInt8) : (p.toList == l) = decide (p = (⟨l.toArray⟩ : ByteArray)) := by
  rw [Bool.eq_iff_iff, ByteArray.toList_eq]
  simp only [beq_iff_eq, decide_eq_true_eq]
  constructor
  · intro h
    apply ba_ext
    rw [h]
  · intro h; rw [h]
/-- texts in a row that lies behind A -/
def RowW (A : Nat) (w : World) (v : Value) (ws : List ByteArray) : Prop :=
  ∃ a c, v = .slice a ws.length c ∧ ws.length ≤ 1000000 ∧ (ws = [] ∨ ∃ b off, a = some ⟨b, off, none⟩ ∧ A < b ∧ b < w.heap.size ∧ ∀ i (h : i < ws.length), w.cell? ⟨b, off + i, none⟩ = some (.string ws[i]))
theorem RowW.grown {A : Nat} {w w' : World} {v : Value} {ws : List ByteArray} (h : RowW A w v ws) (hg : w.grownBy w' (some A)) : RowW A w' v ws := by
  obtain ⟨a, c, rfl, hl, h⟩ := h
  refine ⟨a, c, rfl, hl, ?_⟩
  rcases h with h | ⟨b, off, e, h1, h2, h3⟩
  · exact .inl h
  · exact .inr ⟨b, off, e, h1, Nat.lt_of_lt_of_le h2 hg.size, fun i hi => by rw [World.cell?_of_block (w := w) (a := ⟨b, off + i, none⟩) (hg.block b h2 (fun e => by cases e; omega))]; exact h3 i hi⟩
theorem rowW_none (A : Nat) (w : World) : RowW A w (.slice none 0 0) [] := ⟨none, 0, rfl, by simp, .inl rfl⟩
theorem rowW_of_own {A : Nat} {w : World} {B : Nat} {v : Value} {ws : List ByteArray} (h : w.ownsRow B 9 1 v ws.length (sc ws)) (hA : A < B) (hl : ws.length ≤ 1000000) : RowW A w v ws := by
  rcases h.2 with ⟨rfl, h0⟩ | ⟨g, cap, cur, rfl, hBg, hg, _⟩
  · have : ws = [] := List.length_eq_zero_iff.1 h0
    subst this
    exact rowW_none A w
  · refine ⟨_, cap, rfl, hl, .inr ⟨g, 0, rfl, by omega, (Array.getElem?_eq_some_iff.1 hg).1, fun i hi => ?_⟩⟩
    have k0 := h.cells (g := g) rfl i (.string ws[i]) (by simp [sc, hi])
    rw [Go.WideShapes.add_plain] at k0
    exact k0
/-- what a text looks for, and what is wrong with it -/
def askS (s : ByteArray) : Qy × Int := match piecesM s s.size 0 with
  | none => (.nil, 3)
  | some L => askM L
theorem askS_none {s : ByteArray} (h : piecesM s s.size 0 = none) : askS s = (.nil, 3) := by rw [askS, h]
theorem askS_some {s : ByteArray} {L : List ByteArray} (h : piecesM s s.size 0 = some L) : askS s = askM L := by rw [askS, h]
theorem RowS.drewN {w : World} {a : Option Addr} {len : Nat} {xs : List ByteArray} (h : RowS w a len xs) (n : Nat) : RowS (w.drewN n) a len xs := h.below (below_drewN (Below.refl _ _) n)
/-- how far apart two words may stand -/
def farOf (k : Int) : Int := if k = 3 then 3 else 0
/-- what lies there is this, as the program has it -/
def MIs (w : World) : Option Addr → Qy → Prop
  | p, .nil => p = none
  | p, .node k ws a b => ∃ B x n c pa pb, p = some ⟨B, 0, none⟩ ∧ B < w.heap.size ∧ (w.cell? ⟨B, 0, none⟩ = some (.int .i64 k) ∧ w.cell? ⟨B, 1, none⟩ = some (.slice x n c) ∧ w.cell? ⟨B, 2, none⟩ = some (.int .i64 (farOf k)) ∧ w.cell? ⟨B, 3, none⟩ = some (.pointer pa) ∧ w.cell? ⟨B, 4, none⟩ = some (.pointer pb)) ∧ RowS w x n ws ∧ MIs w pa a ∧ MIs w pb b
theorem MIs.below {w w' : World} (hb : Below w.heap.size w w') (q : Qy) : ∀ {p : Option Addr}, MIs w p q → MIs w' p q := by
  induction q with
  | nil => intro p h; exact h
  | node k ws a b ha hb' =>
    intro p h
    obtain ⟨B, x, n, c, pa, pb, e, h2, ⟨c0, c1, c2, c3, c4⟩, hr, qa, qb⟩ := h
    have key : ∀ o, w'.cell? ⟨B, o, none⟩ = w.cell? ⟨B, o, none⟩ := fun o => hb.cell (p := ⟨B, o, none⟩) h2
    exact ⟨B, x, n, c, pa, pb, e, Nat.lt_of_lt_of_le h2 hb.size, ⟨by rw [key]; exact c0, by rw [key]; exact c1, by rw [key]; exact c2, by rw [key]; exact c3, by rw [key]; exact c4⟩, hr.below hb, ha qa, hb' qb⟩
theorem rowS_of_W {A : Nat} {w : World} {v : Value} {ws : List ByteArray} (h : RowW A w v ws) : ∃ a c, v = .slice a ws.length c ∧ RowS w a ws.length ws := by
  obtain ⟨a, c, rfl, hl, h⟩ := h
  refine ⟨a, c, rfl, rfl, hl, ?_⟩
  rcases h with h | ⟨b, off, e, _, h2, h3⟩
  · exact .inl h
  · exact .inr ⟨b, off, e, h2, h3⟩
theorem peek_badQ {s : Rst} (h : s.bad ≠ 0) : s.peek = tNone := by unfold Rst.peek; rw [if_neg h]; rfl
theorem near_no {t : ByteArray} {s : Rst} (h : (s.plain t).2.peek ≠ tNear) : nearM t s = (.node 1 [(s.plain t).1] .nil .nil, (s.plain t).2) := by
  unfold nearM; simp only; rw [take_no h]; rfl
theorem near_bad {t : ByteArray} {s : Rst} (h : (s.plain t).2.peek = tNear) {s3 : Rst} (h3 : ((s.plain t).2.take tNear).2 = s3) (hb : s3.peek = tNone ∨ isSign (firstB s3.peek) = true) : nearM t s = (.node 1 [(s.plain t).1] .nil .nil, s3.fails 3) := by
  unfold nearM; simp only; rw [h3, take_yes h]; simp only; rw [if_pos trivial, if_pos hb]
theorem near_yes {t : ByteArray} {s : Rst} (h : (s.plain t).2.peek = tNear) {s3 : Rst} (h3 : ((s.plain t).2.take tNear).2 = s3) (hb : ¬ (s3.peek = tNone ∨ isSign (firstB s3.peek) = true)) : nearM t s = (.node 3 [(s.plain t).1, ((s3.take s3.peek).2.plain s3.peek).1] .nil .nil, ((s3.take s3.peek).2.plain s3.peek).2) := by
  unfold nearM; simp only; rw [h3, take_yes h]; simp only; rw [if_pos trivial, if_neg hb]
theorem row_one {A : Nat} {w : World} (x : ByteArray) (hA : A < w.heap.size) : RowW A (w.alloc (.cells #[.string x] 9)) (.slice (some ⟨w.heap.size, 0, none⟩) 1 1) [x] := by
  refine ⟨_, 1, rfl, by simp, .inr ⟨w.heap.size, 0, rfl, hA, by simp, fun i hi => ?_⟩⟩
  have : i = 0 := by simp at hi; omega
  subst this
  simp
theorem row_two {A : Nat} {w : World} (x y : ByteArray) (hA : A < w.heap.size) : RowW A (w.alloc (.cells #[.string x, .string y] 9)) (.slice (some ⟨w.heap.size, 0, none⟩) 2 2) [x, y] := by
  refine ⟨_, 2, rfl, by simp, .inr ⟨w.heap.size, 0, rfl, hA, by simp, fun i hi => ?_⟩⟩
  have : i = 0 ∨ i = 1 := by simp at hi; omega
  rcases this with rfl | rfl <;> simp
/-- what the reader made, whoever looks at it later: base B -/
theorem grown_below {w w' : World} {A : Nat} (h : w.grownBy w' (some A)) (B : Nat) (hB : B ≤ A) (hw : B ≤ w.heap.size) : Below B w w' := (Below.refl B w).grown h hw (fun g hg => by cases hg; exact hB)
end Go.Proofs.YtjgdnainhoipgaaGreatDoor
namespace Go.Proofs.YtjgdnainhoipgaaGreatDoor
open Go.RowKit

theorem infoHt : (Tryz.prog.info? 61).map (fun i => (i.zero, i.size, i.bytes)) = some (some (.agg #[.int .i64 0, .int .i64 0]), 2, 16) := by kernel_rfl
def htc (l : List Ht) : List Value := l.flatMap fun p => [.int .i64 p.r, .int .i64 p.o]
theorem htc_cons (p : Ht) (l : List Ht) : htc (p :: l) = .int .i64 p.r :: .int .i64 p.o :: htc l := rfl
theorem htc_append (a b : List Ht) : htc (a ++ b) = htc a ++ htc b := by simp [htc]
theorem htc_get (xs : List Ht) (i : Nat) (h : i < xs.length) : (htc xs)[i * 2]? = some (.int .i64 xs[i].r) ∧ (htc xs)[i * 2 + 1]? = some (.int .i64 xs[i].o) := by
  induction xs generalizing i with
  | nil => simp at h
  | cons x xs ih =>
    cases i with
    | zero => simp [htc_cons]
    | succ i =>
      have := ih i (by simpa using h)
      rw [htc_cons, show (i + 1) * 2 = i * 2 + 2 by omega]
      simpa using this
theorem htc_one (xs : List Ht) : ∀ u ∈ htc xs, u.oneCell' = true := by
  intro u hu
  simp [htc] at hu
  obtain ⟨x, _, h⟩ := hu
  rcases h with rfl | rfl <;> rfl
/-- hits in a row -/
def RowH (w : World) (a : Option Addr) (len : Nat) (xs : List Ht) : Prop :=
  len = xs.length ∧ xs.length ≤ 200000000 ∧ (xs = [] ∨ ∃ b off, a = some ⟨b, off, none⟩ ∧ b < w.heap.size ∧ ∀ i (h : i < xs.length), w.cell? ⟨b, off + i * 2, none⟩ = some (.int .i64 xs[i].r) ∧ w.cell? ⟨b, off + i * 2 + 1, none⟩ = some (.int .i64 xs[i].o))
theorem RowH.below {w w' : World} {a : Option Addr} {len : Nat} {xs : List Ht} (h : RowH w a len xs) (hb : Below w.heap.size w w') : RowH w' a len xs := by
  obtain ⟨h1, h2, h3⟩ := h
  refine ⟨h1, h2, ?_⟩
  rcases h3 with h3 | ⟨b, off, e, hlt, hc⟩
  · exact .inl h3
  · exact .inr ⟨b, off, e, Nat.lt_of_lt_of_le hlt hb.size, fun i hi => by rw [hb.cell (p := ⟨b, _, none⟩) hlt, hb.cell (p := ⟨b, _, none⟩) hlt]; exact hc i hi⟩
theorem rowH_of_own {w : World} {B : Nat} {v : Value} {xs : List Ht} (h : w.ownsRow B 61 2 v xs.length (htc xs)) (hl : xs.length ≤ 200000000) : ∃ a cap, v = .slice a xs.length cap ∧ RowH w a xs.length xs ∧ (a = none → cap = 0) := by
  rcases h.2 with ⟨rfl, h0⟩ | ⟨g, cap, cur, rfl, _, hg, _⟩
  · have : xs = [] := List.length_eq_zero_iff.1 h0
    subst this
    exact ⟨none, 0, rfl, ⟨rfl, hl, .inl rfl⟩, fun _ => rfl⟩
  · refine ⟨some ⟨g, 0, none⟩, cap, rfl, ⟨rfl, hl, .inr ⟨g, 0, rfl, (Array.getElem?_eq_some_iff.1 hg).1, fun i hi => ?_⟩⟩, fun e => by simp at e⟩
    obtain ⟨c0, c1⟩ := htc_get xs i hi
    have k0 := h.cells (g := g) rfl _ _ c0
    have k1 := h.cells (g := g) rfl _ _ c1
    rw [Go.WideShapes.add_plain] at k0 k1
    exact ⟨k0, k1⟩
/-- a list of hits, as it stands in a walk -/
def InH (w : World) (v : Value) (xs : List Ht) : Prop := ∃ a cap, v = .slice a xs.length cap ∧ xs.length ≤ cap ∧ RowH w a xs.length xs ∧ (a = none → cap = 0)
theorem InH.below {w w' : World} {v : Value} {xs : List Ht} (h : InH w v xs) (hb : Below w.heap.size w w') : InH w' v xs := by
  obtain ⟨a, cap, h1, h2, h3, h4⟩ := h
  exact ⟨a, cap, h1, h2, h3.below hb, h4⟩
theorem InH.of_own {w : World} {B : Nat} {v : Value} {xs : List Ht} (h : w.ownsRow B 61 2 v xs.length (htc xs)) (hl : xs.length ≤ 200000000) : InH w v xs := by
  obtain ⟨a, cap, rfl, hr, hn⟩ := rowH_of_own h hl
  refine ⟨a, cap, rfl, ?_, hr, hn⟩
  rcases h.2 with ⟨e, h0⟩ | ⟨g, c, cur, e, _, _, hc, _⟩
  · omega
  · cases e; exact hc
theorem InH.nil (w : World) : InH w (.slice none 0 0) [] := ⟨none, 0, rfl, Nat.le_refl _, ⟨rfl, by simp, .inl rfl⟩, fun _ => rfl⟩
theorem InH.tail {w : World} {b o n c : Nat} {x : Ht} {xs : List Ht} (h : InH w (.slice (some ⟨b, o, none⟩) (n + 1) c) (x :: xs)) : InH w (.slice (if c = 1 then some ⟨b, o, none⟩ else some ⟨b, o + 2, none⟩) n (c - 1)) xs := by
  obtain ⟨a, cap, h1, h2, ⟨_, hm, hr⟩, _⟩ := h
  cases h1
  simp only [List.length_cons] at h2 hm
  refine ⟨_, _, rfl, by omega, ⟨rfl, by omega, ?_⟩, fun e => by split at e <;> cases e⟩
  by_cases hc : c = 1
  · exact .inl (List.length_eq_zero_iff.1 (by omega))
  · rw [if_neg hc]
    rcases hr with hr | ⟨b', o', e, hb, hrow⟩
    · cases hr
    · cases e
      refine .inr ⟨b, o + 2, rfl, hb, fun i hi => ?_⟩
      have := hrow (i + 1) (by simp; omega)
      simp only [List.getElem_cons_succ] at this
      rw [show o + 2 + i * 2 = o + (i + 1) * 2 by omega]
      exact this
theorem news_ht (w : World) (q : Ht) (t : TypeId) : ∀ j u, (htc [q])[j]? = some u → (w.alloc (.cells #[.int .i64 q.r, .int .i64 q.o] t)).cell? ((⟨w.heap.size, 0, none⟩ : Addr).add j) = some u := by
  intro j u hj
  have hn := heap_alloc_new w (.cells #[.int .i64 q.r, .int .i64 q.o] t)
  rw [Go.WideShapes.add_plain]
  match j with
  | 0 => simp [htc] at hj; subst hj; simp
  | 1 => simp [htc] at hj; subst hj; simp
  | j + 2 => simp [htc] at hj
theorem one_ht (q : Ht) : ∀ u ∈ htc [q], u.oneCell' = true := htc_one [q]
theorem htc_set (xs : List Ht) (i : Nat) (h : i < xs.length) (x : Ht) (hr : xs[i].r = x.r) : (htc xs).set (i * 2 + 1) (.int .i64 x.o) = htc (xs.set i x) := by
  induction xs generalizing i with
  | nil => simp at h
  | cons y xs ih =>
    cases i with
    | zero => simp at hr; simp [htc_cons, hr]
    | succ i =>
      have := ih i (by simpa using h) (by simpa using hr)
      rw [htc_cons, show (i + 1) * 2 + 1 = (i * 2 + 1) + 2 by omega]
      simp only [List.set_cons_succ, htc_cons, this]
end Go.Proofs.YtjgdnainhoipgaaGreatDoor
namespace Go.Proofs.YtjgdnainhoipgaaGreatDoor
open Go.RowKit

set_option maxHeartbeats 1000000 in
theorem stays_any (k : Int) (f s : Bool) (w : World) : Calls Tryz.prog 114 #[.int .i64 k, .bool f, .bool s] w fun e w' => e = .returned (.bool (staysB k f s)) ∧ w' = w := by
  by_cases h4 : k = 4
  · subst h4
    have e : staysB 4 f s = (f && s) := rfl
    rw [e]
    cases f
    · go_enter Tryz.func114, Tryz.ntmps114
      go_wp2
      go_ret
      exact ⟨rfl, rfl⟩
    · go_enter Tryz.func114, Tryz.ntmps114
      go_wp2
      go_ret
      exact ⟨by simp, rfl⟩
  · have j4 : (k == 4) = false := by simpa using h4
    by_cases h6 : k = 6
    · subst h6
      have e : staysB 6 f s = !s := rfl
      rw [e]
      go_enter Tryz.func114, Tryz.ntmps114
      go_wp2
      go_ret
      exact ⟨rfl, rfl⟩
    · have j6 : (k == 6) = false := by simpa using h6
      have e : staysB k f s = true := by unfold staysB; rw [if_neg h4, if_neg h6]
      rw [e]
      clear h4 h6 e
      go_enter Tryz.func114, Tryz.ntmps114
      go_wp2
      go_ret
      exact ⟨rfl, rfl⟩
theorem stays_as (k : Int) (f s b : Bool) (h : staysB k f s = b) (w : World) : Calls Tryz.prog 114 #[.int .i64 k, .bool f, .bool s] w fun e w' => e = .returned (.bool b) ∧ w' = w := by
  rw [← h]; exact stays_any k f s w
end Go.Proofs.YtjgdnainhoipgaaGreatDoor
