/- The contract of the document's Stem. -/
import Derived.Test.YtalfjdpdecngoaaDoorStem
namespace Go.Proofs.YtalfjdpdecngoaaDoor
open Go.RowKit
theorem ixR0 (W : World) : (Instr.index 57 (.agg #[.string ⟨#[115, 115, 101, 115]⟩, .string ⟨#[115, 115]⟩, .string ⟨#[105, 101, 115]⟩, .string ⟨#[121]⟩, .string ⟨#[115, 115]⟩, .string ⟨#[115, 115]⟩, .string ⟨#[105, 110, 103]⟩, .string ⟨#[]⟩, .string ⟨#[101, 100]⟩, .string ⟨#[]⟩, .string ⟨#[101, 115]⟩, .string ⟨#[101]⟩, .string ⟨#[115]⟩, .string ⟨#[]⟩]) (.int .i64 0)).run Tryd.prog W = .ok (.agg #[.string ⟨#[115, 115, 101, 115]⟩, .string ⟨#[115, 115]⟩]) W := by kernel_rfl
theorem ixR1 (W : World) : (Instr.index 57 (.agg #[.string ⟨#[115, 115, 101, 115]⟩, .string ⟨#[115, 115]⟩, .string ⟨#[105, 101, 115]⟩, .string ⟨#[121]⟩, .string ⟨#[115, 115]⟩, .string ⟨#[115, 115]⟩, .string ⟨#[105, 110, 103]⟩, .string ⟨#[]⟩, .string ⟨#[101, 100]⟩, .string ⟨#[]⟩, .string ⟨#[101, 115]⟩, .string ⟨#[101]⟩, .string ⟨#[115]⟩, .string ⟨#[]⟩]) (.int .i64 1)).run Tryd.prog W = .ok (.agg #[.string ⟨#[105, 101, 115]⟩, .string ⟨#[121]⟩]) W := by kernel_rfl
theorem ixR2 (W : World) : (Instr.index 57 (.agg #[.string ⟨#[115, 115, 101, 115]⟩, .string ⟨#[115, 115]⟩, .string ⟨#[105, 101, 115]⟩, .string ⟨#[121]⟩, .string ⟨#[115, 115]⟩, .string ⟨#[115, 115]⟩, .string ⟨#[105, 110, 103]⟩, .string ⟨#[]⟩, .string ⟨#[101, 100]⟩, .string ⟨#[]⟩, .string ⟨#[101, 115]⟩, .string ⟨#[101]⟩, .string ⟨#[115]⟩, .string ⟨#[]⟩]) (.int .i64 2)).run Tryd.prog W = .ok (.agg #[.string ⟨#[115, 115]⟩, .string ⟨#[115, 115]⟩]) W := by kernel_rfl
theorem ixR3 (W : World) : (Instr.index 57 (.agg #[.string ⟨#[115, 115, 101, 115]⟩, .string ⟨#[115, 115]⟩, .string ⟨#[105, 101, 115]⟩, .string ⟨#[121]⟩, .string ⟨#[115, 115]⟩, .string ⟨#[115, 115]⟩, .string ⟨#[105, 110, 103]⟩, .string ⟨#[]⟩, .string ⟨#[101, 100]⟩, .string ⟨#[]⟩, .string ⟨#[101, 115]⟩, .string ⟨#[101]⟩, .string ⟨#[115]⟩, .string ⟨#[]⟩]) (.int .i64 3)).run Tryd.prog W = .ok (.agg #[.string ⟨#[105, 110, 103]⟩, .string ⟨#[]⟩]) W := by kernel_rfl
theorem ixR4 (W : World) : (Instr.index 57 (.agg #[.string ⟨#[115, 115, 101, 115]⟩, .string ⟨#[115, 115]⟩, .string ⟨#[105, 101, 115]⟩, .string ⟨#[121]⟩, .string ⟨#[115, 115]⟩, .string ⟨#[115, 115]⟩, .string ⟨#[105, 110, 103]⟩, .string ⟨#[]⟩, .string ⟨#[101, 100]⟩, .string ⟨#[]⟩, .string ⟨#[101, 115]⟩, .string ⟨#[101]⟩, .string ⟨#[115]⟩, .string ⟨#[]⟩]) (.int .i64 4)).run Tryd.prog W = .ok (.agg #[.string ⟨#[101, 100]⟩, .string ⟨#[]⟩]) W := by kernel_rfl
theorem ixR5 (W : World) : (Instr.index 57 (.agg #[.string ⟨#[115, 115, 101, 115]⟩, .string ⟨#[115, 115]⟩, .string ⟨#[105, 101, 115]⟩, .string ⟨#[121]⟩, .string ⟨#[115, 115]⟩, .string ⟨#[115, 115]⟩, .string ⟨#[105, 110, 103]⟩, .string ⟨#[]⟩, .string ⟨#[101, 100]⟩, .string ⟨#[]⟩, .string ⟨#[101, 115]⟩, .string ⟨#[101]⟩, .string ⟨#[115]⟩, .string ⟨#[]⟩]) (.int .i64 5)).run Tryd.prog W = .ok (.agg #[.string ⟨#[101, 115]⟩, .string ⟨#[101]⟩]) W := by kernel_rfl
theorem ixR6 (W : World) : (Instr.index 57 (.agg #[.string ⟨#[115, 115, 101, 115]⟩, .string ⟨#[115, 115]⟩, .string ⟨#[105, 101, 115]⟩, .string ⟨#[121]⟩, .string ⟨#[115, 115]⟩, .string ⟨#[115, 115]⟩, .string ⟨#[105, 110, 103]⟩, .string ⟨#[]⟩, .string ⟨#[101, 100]⟩, .string ⟨#[]⟩, .string ⟨#[101, 115]⟩, .string ⟨#[101]⟩, .string ⟨#[115]⟩, .string ⟨#[]⟩]) (.int .i64 6)).run Tryd.prog W = .ok (.agg #[.string ⟨#[115]⟩, .string ⟨#[]⟩]) W := by kernel_rfl

theorem hasB_small {s e : ByteArray} (h : s.size < e.size) : hasB s e = false := by simp [hasB]; omega
theorem hasB_eq {s e : ByteArray} {l : List UInt8} (h : e.size ≤ s.size) (hl : e.toList = l) : hasB s e = ((s.extract (s.size - e.size) s.size).toList == l) := by simp [hasB, h, hl]

set_option maxRecDepth 100000 in
set_option maxHeartbeats 4000000 in
theorem refStem_any (s : ByteArray) (w : World) (hs : s.size ≤ 1000000) :
    Calls Tryd.prog 9 #[.string s] w fun e w' => e = .returned (.string (stemS s)) ∧ Below w.heap.size w w' := by
  have HR : Hid (stemFrom (endsT.drop 0) s = stemS s) := rfl
  generalize stemS s = R at *
  go_enter Tryd.func9, Tryd.ntmps9
  go_wp2
  go_loopw [14] (fun i wr => ∃ k : Nat, k ≤ 7 ∧ i = .int .i64 k ∧ Hid (Below w.heap.size w wr ∧ stemFrom (endsT.drop k) s = R)) (fun i _ => 7 - (intOf i).toNat)
  case atStart => exact ⟨0, Nat.zero_le _, rfl, Below.refl _ _, HR.out⟩
  case round =>
    clear HR
    obtain ⟨k, hk, rfl, hz⟩ := hrel
    have hk7 : k = 0 ∨ k = 1 ∨ k = 2 ∨ k = 3 ∨ k = 4 ∨ k = 5 ∨ k = 6 ∨ k = 7 := by omega
    rcases hk7 with rfl | rfl | rfl | rfl | rfl | rfl | rfl | rfl
    · have hix := ixR0 wr
      by_cases hle : 4 ≤ s.size
      · have hd : decide ((s.size : Int) - 4 < 0) = false := by simp; omega
        have hlt : ¬ ((s.size : Int) - 4 < 0) := by omega
        have hq := hasB_eq (s := s) (e := ⟨#[115, 115, 101, 115]⟩) (l := [115, 115, 101, 115]) hle (by kernel_rfl)
        cases hb : hasB s ⟨#[115, 115, 101, 115]⟩
        · rw [hb] at hq
          have hq2 : ((s.extract (s.size - 4) s.size).toList == [115, 115, 101, 115]) = false := hq.symm
          clear hq
          go_wp2
          go_quiet (fail)
          go_wp2
          go_roundw
          case rel => exact ⟨1, by omega, by go_num, by have := hz.out.1.size; exact below_drewN (hz.out.1.alloc this _) _, (stem_no hb).symm.trans hz.out.2⟩
          case measure => simp [intOf]
        · rw [hb] at hq
          have hq2 : ((s.extract (s.size - 4) s.size).toList == [115, 115, 101, 115]) = true := hq.symm
          clear hq
          by_cases h3 : 4 + 3 ≤ s.size
          · have HS : Hid (s.extract 0 (s.size - 4) ++ ⟨#[115, 115]⟩ = R) := (stem_yes (r := ⟨#[115, 115]⟩) (t := endsT.drop 1) hb h3).symm.trans hz.out.2
            have h3' : (3 : Int) ≤ (s.size : Int) - 4 := by omega
            go_wp2
            go_quiet (fail)
            go_wp2
            go_region
            go_wp2
            go_ret
            rw [HS.out]
            exact ⟨rfl, by have := hz.out.1.size; exact (below_drewN (hz.out.1.alloc this _) _).drew⟩
          · have HS : Hid (s = R) := (stem_short (r := ⟨#[115, 115]⟩) (t := endsT.drop 1) hb h3).symm.trans hz.out.2
            have h3' : (s.size : Int) - 4 < 3 := by omega
            go_wp2
            go_quiet (fail)
            go_wp2
            go_ret
            rw [HS.out]
            exact ⟨rfl, by have := hz.out.1.size; exact below_drewN (hz.out.1.alloc this _) _⟩
      · have hd : decide ((s.size : Int) - 4 < 0) = true := by simp; omega
        have hlt : (s.size : Int) - 4 < 0 := by omega
        have hb : hasB s ⟨#[115, 115, 101, 115]⟩ = false := hasB_small (by show s.size < 4; omega)
        go_wp2
        go_quiet (fail)
        go_wp2
        go_roundw
        case rel => exact ⟨1, by omega, by go_num, by have := hz.out.1.size; exact below_drewN (hz.out.1.alloc this _) _, (stem_no hb).symm.trans hz.out.2⟩
        case measure => simp [intOf]
    · have hix := ixR1 wr
      by_cases hle : 3 ≤ s.size
      · have hd : decide ((s.size : Int) - 3 < 0) = false := by simp; omega
        have hlt : ¬ ((s.size : Int) - 3 < 0) := by omega
        have hq := hasB_eq (s := s) (e := ⟨#[105, 101, 115]⟩) (l := [105, 101, 115]) hle (by kernel_rfl)
        cases hb : hasB s ⟨#[105, 101, 115]⟩
        · rw [hb] at hq
          have hq2 : ((s.extract (s.size - 3) s.size).toList == [105, 101, 115]) = false := hq.symm
          clear hq
          go_wp2
          go_quiet (fail)
          go_wp2
          go_roundw
          case rel => exact ⟨2, by omega, by go_num, by have := hz.out.1.size; exact below_drewN (hz.out.1.alloc this _) _, (stem_no hb).symm.trans hz.out.2⟩
          case measure => simp [intOf]
        · rw [hb] at hq
          have hq2 : ((s.extract (s.size - 3) s.size).toList == [105, 101, 115]) = true := hq.symm
          clear hq
          by_cases h3 : 3 + 3 ≤ s.size
          · have HS : Hid (s.extract 0 (s.size - 3) ++ ⟨#[121]⟩ = R) := (stem_yes (r := ⟨#[121]⟩) (t := endsT.drop 2) hb h3).symm.trans hz.out.2
            have h3' : (3 : Int) ≤ (s.size : Int) - 3 := by omega
            go_wp2
            go_quiet (fail)
            go_wp2
            go_region
            go_wp2
            go_ret
            rw [HS.out]
            exact ⟨rfl, by have := hz.out.1.size; exact (below_drewN (hz.out.1.alloc this _) _).drew⟩
          · have HS : Hid (s = R) := (stem_short (r := ⟨#[121]⟩) (t := endsT.drop 2) hb h3).symm.trans hz.out.2
            have h3' : (s.size : Int) - 3 < 3 := by omega
            go_wp2
            go_quiet (fail)
            go_wp2
            go_ret
            rw [HS.out]
            exact ⟨rfl, by have := hz.out.1.size; exact below_drewN (hz.out.1.alloc this _) _⟩
      · have hd : decide ((s.size : Int) - 3 < 0) = true := by simp; omega
        have hlt : (s.size : Int) - 3 < 0 := by omega
        have hb : hasB s ⟨#[105, 101, 115]⟩ = false := hasB_small (by show s.size < 3; omega)
        go_wp2
        go_quiet (fail)
        go_wp2
        go_roundw
        case rel => exact ⟨2, by omega, by go_num, by have := hz.out.1.size; exact below_drewN (hz.out.1.alloc this _) _, (stem_no hb).symm.trans hz.out.2⟩
        case measure => simp [intOf]
    · have hix := ixR2 wr
      by_cases hle : 2 ≤ s.size
      · have hd : decide ((s.size : Int) - 2 < 0) = false := by simp; omega
        have hlt : ¬ ((s.size : Int) - 2 < 0) := by omega
        have hq := hasB_eq (s := s) (e := ⟨#[115, 115]⟩) (l := [115, 115]) hle (by kernel_rfl)
        cases hb : hasB s ⟨#[115, 115]⟩
        · rw [hb] at hq
          have hq2 : ((s.extract (s.size - 2) s.size).toList == [115, 115]) = false := hq.symm
          clear hq
          go_wp2
          go_quiet (fail)
          go_wp2
          go_roundw
          case rel => exact ⟨3, by omega, by go_num, by have := hz.out.1.size; exact below_drewN (hz.out.1.alloc this _) _, (stem_no hb).symm.trans hz.out.2⟩
          case measure => simp [intOf]
        · rw [hb] at hq
          have hq2 : ((s.extract (s.size - 2) s.size).toList == [115, 115]) = true := hq.symm
          clear hq
          by_cases h3 : 2 + 3 ≤ s.size
          · have HS : Hid (s.extract 0 (s.size - 2) ++ ⟨#[115, 115]⟩ = R) := (stem_yes (r := ⟨#[115, 115]⟩) (t := endsT.drop 3) hb h3).symm.trans hz.out.2
            have h3' : (3 : Int) ≤ (s.size : Int) - 2 := by omega
            go_wp2
            go_quiet (fail)
            go_wp2
            go_region
            go_wp2
            go_ret
            rw [HS.out]
            exact ⟨rfl, by have := hz.out.1.size; exact (below_drewN (hz.out.1.alloc this _) _).drew⟩
          · have HS : Hid (s = R) := (stem_short (r := ⟨#[115, 115]⟩) (t := endsT.drop 3) hb h3).symm.trans hz.out.2
            have h3' : (s.size : Int) - 2 < 3 := by omega
            go_wp2
            go_quiet (fail)
            go_wp2
            go_ret
            rw [HS.out]
            exact ⟨rfl, by have := hz.out.1.size; exact below_drewN (hz.out.1.alloc this _) _⟩
      · have hd : decide ((s.size : Int) - 2 < 0) = true := by simp; omega
        have hlt : (s.size : Int) - 2 < 0 := by omega
        have hb : hasB s ⟨#[115, 115]⟩ = false := hasB_small (by show s.size < 2; omega)
        go_wp2
        go_quiet (fail)
        go_wp2
        go_roundw
        case rel => exact ⟨3, by omega, by go_num, by have := hz.out.1.size; exact below_drewN (hz.out.1.alloc this _) _, (stem_no hb).symm.trans hz.out.2⟩
        case measure => simp [intOf]
    · have hix := ixR3 wr
      by_cases hle : 3 ≤ s.size
      · have hd : decide ((s.size : Int) - 3 < 0) = false := by simp; omega
        have hlt : ¬ ((s.size : Int) - 3 < 0) := by omega
        have hq := hasB_eq (s := s) (e := ⟨#[105, 110, 103]⟩) (l := [105, 110, 103]) hle (by kernel_rfl)
        cases hb : hasB s ⟨#[105, 110, 103]⟩
        · rw [hb] at hq
          have hq2 : ((s.extract (s.size - 3) s.size).toList == [105, 110, 103]) = false := hq.symm
          clear hq
          go_wp2
          go_quiet (fail)
          go_wp2
          go_roundw
          case rel => exact ⟨4, by omega, by go_num, by have := hz.out.1.size; exact below_drewN (hz.out.1.alloc this _) _, (stem_no hb).symm.trans hz.out.2⟩
          case measure => simp [intOf]
        · rw [hb] at hq
          have hq2 : ((s.extract (s.size - 3) s.size).toList == [105, 110, 103]) = true := hq.symm
          clear hq
          by_cases h3 : 3 + 3 ≤ s.size
          · have HS : Hid (s.extract 0 (s.size - 3) ++ ⟨#[]⟩ = R) := (stem_yes (r := ⟨#[]⟩) (t := endsT.drop 4) hb h3).symm.trans hz.out.2
            have h3' : (3 : Int) ≤ (s.size : Int) - 3 := by omega
            go_wp2
            go_quiet (fail)
            go_wp2
            go_region
            go_wp2
            go_ret
            rw [HS.out]
            exact ⟨rfl, by have := hz.out.1.size; exact (below_drewN (hz.out.1.alloc this _) _).drew⟩
          · have HS : Hid (s = R) := (stem_short (r := ⟨#[]⟩) (t := endsT.drop 4) hb h3).symm.trans hz.out.2
            have h3' : (s.size : Int) - 3 < 3 := by omega
            go_wp2
            go_quiet (fail)
            go_wp2
            go_ret
            rw [HS.out]
            exact ⟨rfl, by have := hz.out.1.size; exact below_drewN (hz.out.1.alloc this _) _⟩
      · have hd : decide ((s.size : Int) - 3 < 0) = true := by simp; omega
        have hlt : (s.size : Int) - 3 < 0 := by omega
        have hb : hasB s ⟨#[105, 110, 103]⟩ = false := hasB_small (by show s.size < 3; omega)
        go_wp2
        go_quiet (fail)
        go_wp2
        go_roundw
        case rel => exact ⟨4, by omega, by go_num, by have := hz.out.1.size; exact below_drewN (hz.out.1.alloc this _) _, (stem_no hb).symm.trans hz.out.2⟩
        case measure => simp [intOf]
    · have hix := ixR4 wr
      by_cases hle : 2 ≤ s.size
      · have hd : decide ((s.size : Int) - 2 < 0) = false := by simp; omega
        have hlt : ¬ ((s.size : Int) - 2 < 0) := by omega
        have hq := hasB_eq (s := s) (e := ⟨#[101, 100]⟩) (l := [101, 100]) hle (by kernel_rfl)
        cases hb : hasB s ⟨#[101, 100]⟩
        · rw [hb] at hq
          have hq2 : ((s.extract (s.size - 2) s.size).toList == [101, 100]) = false := hq.symm
          clear hq
          go_wp2
          go_quiet (fail)
          go_wp2
          go_roundw
          case rel => exact ⟨5, by omega, by go_num, by have := hz.out.1.size; exact below_drewN (hz.out.1.alloc this _) _, (stem_no hb).symm.trans hz.out.2⟩
          case measure => simp [intOf]
        · rw [hb] at hq
          have hq2 : ((s.extract (s.size - 2) s.size).toList == [101, 100]) = true := hq.symm
          clear hq
          by_cases h3 : 2 + 3 ≤ s.size
          · have HS : Hid (s.extract 0 (s.size - 2) ++ ⟨#[]⟩ = R) := (stem_yes (r := ⟨#[]⟩) (t := endsT.drop 5) hb h3).symm.trans hz.out.2
            have h3' : (3 : Int) ≤ (s.size : Int) - 2 := by omega
            go_wp2
            go_quiet (fail)
            go_wp2
            go_region
            go_wp2
            go_ret
            rw [HS.out]
            exact ⟨rfl, by have := hz.out.1.size; exact (below_drewN (hz.out.1.alloc this _) _).drew⟩
          · have HS : Hid (s = R) := (stem_short (r := ⟨#[]⟩) (t := endsT.drop 5) hb h3).symm.trans hz.out.2
            have h3' : (s.size : Int) - 2 < 3 := by omega
            go_wp2
            go_quiet (fail)
            go_wp2
            go_ret
            rw [HS.out]
            exact ⟨rfl, by have := hz.out.1.size; exact below_drewN (hz.out.1.alloc this _) _⟩
      · have hd : decide ((s.size : Int) - 2 < 0) = true := by simp; omega
        have hlt : (s.size : Int) - 2 < 0 := by omega
        have hb : hasB s ⟨#[101, 100]⟩ = false := hasB_small (by show s.size < 2; omega)
        go_wp2
        go_quiet (fail)
        go_wp2
        go_roundw
        case rel => exact ⟨5, by omega, by go_num, by have := hz.out.1.size; exact below_drewN (hz.out.1.alloc this _) _, (stem_no hb).symm.trans hz.out.2⟩
        case measure => simp [intOf]
    · have hix := ixR5 wr
      by_cases hle : 2 ≤ s.size
      · have hd : decide ((s.size : Int) - 2 < 0) = false := by simp; omega
        have hlt : ¬ ((s.size : Int) - 2 < 0) := by omega
        have hq := hasB_eq (s := s) (e := ⟨#[101, 115]⟩) (l := [101, 115]) hle (by kernel_rfl)
        cases hb : hasB s ⟨#[101, 115]⟩
        · rw [hb] at hq
          have hq2 : ((s.extract (s.size - 2) s.size).toList == [101, 115]) = false := hq.symm
          clear hq
          go_wp2
          go_quiet (fail)
          go_wp2
          go_roundw
          case rel => exact ⟨6, by omega, by go_num, by have := hz.out.1.size; exact below_drewN (hz.out.1.alloc this _) _, (stem_no hb).symm.trans hz.out.2⟩
          case measure => simp [intOf]
        · rw [hb] at hq
          have hq2 : ((s.extract (s.size - 2) s.size).toList == [101, 115]) = true := hq.symm
          clear hq
          by_cases h3 : 2 + 3 ≤ s.size
          · have HS : Hid (s.extract 0 (s.size - 2) ++ ⟨#[101]⟩ = R) := (stem_yes (r := ⟨#[101]⟩) (t := endsT.drop 6) hb h3).symm.trans hz.out.2
            have h3' : (3 : Int) ≤ (s.size : Int) - 2 := by omega
            go_wp2
            go_quiet (fail)
            go_wp2
            go_region
            go_wp2
            go_ret
            rw [HS.out]
            exact ⟨rfl, by have := hz.out.1.size; exact (below_drewN (hz.out.1.alloc this _) _).drew⟩
          · have HS : Hid (s = R) := (stem_short (r := ⟨#[101]⟩) (t := endsT.drop 6) hb h3).symm.trans hz.out.2
            have h3' : (s.size : Int) - 2 < 3 := by omega
            go_wp2
            go_quiet (fail)
            go_wp2
            go_ret
            rw [HS.out]
            exact ⟨rfl, by have := hz.out.1.size; exact below_drewN (hz.out.1.alloc this _) _⟩
      · have hd : decide ((s.size : Int) - 2 < 0) = true := by simp; omega
        have hlt : (s.size : Int) - 2 < 0 := by omega
        have hb : hasB s ⟨#[101, 115]⟩ = false := hasB_small (by show s.size < 2; omega)
        go_wp2
        go_quiet (fail)
        go_wp2
        go_roundw
        case rel => exact ⟨6, by omega, by go_num, by have := hz.out.1.size; exact below_drewN (hz.out.1.alloc this _) _, (stem_no hb).symm.trans hz.out.2⟩
        case measure => simp [intOf]
    · have hix := ixR6 wr
      by_cases hle : 1 ≤ s.size
      · have hd : decide ((s.size : Int) - 1 < 0) = false := by simp; omega
        have hlt : ¬ ((s.size : Int) - 1 < 0) := by omega
        have hq := hasB_eq (s := s) (e := ⟨#[115]⟩) (l := [115]) hle (by kernel_rfl)
        cases hb : hasB s ⟨#[115]⟩
        · rw [hb] at hq
          have hq2 : ((s.extract (s.size - 1) s.size).toList == [115]) = false := hq.symm
          clear hq
          go_wp2
          go_quiet (fail)
          go_wp2
          go_roundw
          case rel => exact ⟨7, by omega, by go_num, by have := hz.out.1.size; exact below_drewN (hz.out.1.alloc this _) _, (stem_no hb).symm.trans hz.out.2⟩
          case measure => simp [intOf]
        · rw [hb] at hq
          have hq2 : ((s.extract (s.size - 1) s.size).toList == [115]) = true := hq.symm
          clear hq
          by_cases h3 : 1 + 3 ≤ s.size
          · have HS : Hid (s.extract 0 (s.size - 1) ++ ⟨#[]⟩ = R) := (stem_yes (r := ⟨#[]⟩) (t := endsT.drop 7) hb h3).symm.trans hz.out.2
            have h3' : (3 : Int) ≤ (s.size : Int) - 1 := by omega
            go_wp2
            go_quiet (fail)
            go_wp2
            go_region
            go_wp2
            go_ret
            rw [HS.out]
            exact ⟨rfl, by have := hz.out.1.size; exact (below_drewN (hz.out.1.alloc this _) _).drew⟩
          · have HS : Hid (s = R) := (stem_short (r := ⟨#[]⟩) (t := endsT.drop 7) hb h3).symm.trans hz.out.2
            have h3' : (s.size : Int) - 1 < 3 := by omega
            go_wp2
            go_quiet (fail)
            go_wp2
            go_ret
            rw [HS.out]
            exact ⟨rfl, by have := hz.out.1.size; exact below_drewN (hz.out.1.alloc this _) _⟩
      · have hd : decide ((s.size : Int) - 1 < 0) = true := by simp; omega
        have hlt : (s.size : Int) - 1 < 0 := by omega
        have hb : hasB s ⟨#[115]⟩ = false := hasB_small (by show s.size < 1; omega)
        go_wp2
        go_quiet (fail)
        go_wp2
        go_roundw
        case rel => exact ⟨7, by omega, by go_num, by have := hz.out.1.size; exact below_drewN (hz.out.1.alloc this _) _, (stem_no hb).symm.trans hz.out.2⟩
        case measure => simp [intOf]
    · have HS : Hid (s = R) := hz.out.2
      go_wp2
      go_ret
      rw [HS.out]
      exact ⟨rfl, hz.out.1⟩
end Go.Proofs.YtalfjdpdecngoaaDoor
