/- The program's small functions: which bytes are so, and how many of them stand ahead. -/
import Derived.Test.YtgmibjcccdgkgaaDoorQPure
namespace Go.Proofs.YtgmibjcccdgkgaaDoor
open Go.RowKit

def blankN (x : Nat) : Bool := decide (x = 32) || decide (x = 9) || decide (x = 13) || decide (x = 10)
def nameN (x : Nat) : Bool := alphaN x || digN x
set_option maxHeartbeats 2000000 in
theorem pblank_any (x : Nat) (w : World) : Calls Tryd.prog 32 #[.int .u8 (x : Int)] w fun e w' => e = .returned (.bool (blankN x)) ∧ w' = w := by
  obtain ⟨a1, e1⟩ : ∃ b, ((x : Int) == 32) = b := ⟨_, rfl⟩
  obtain ⟨a2, e2⟩ : ∃ b, ((x : Int) == 9) = b := ⟨_, rfl⟩
  obtain ⟨a3, e3⟩ : ∃ b, ((x : Int) == 13) = b := ⟨_, rfl⟩
  obtain ⟨a4, e4⟩ : ∃ b, ((x : Int) == 10) = b := ⟨_, rfl⟩
  have HR : Hid (blankN x = (a1 || a2 || a3 || a4)) := by
    show _ = _
    rw [← e1, ← e2, ← e3, ← e4, Bool.eq_iff_iff]
    simp [blankN]
    omega
  cases a1 <;> cases a2 <;> cases a3 <;> cases a4 <;> first
    | (exfalso; simp only [beq_iff_eq, beq_eq_false_iff_ne] at e1 e2 e3 e4; clear HR; omega)
    | (go_enter Tryd.func32, Tryd.ntmps32
       go_wp2
       go_ret
       exact ⟨ret_bool (by rw [HR.out]; simp), rfl⟩)
set_option maxHeartbeats 2000000 in
theorem pdigit_any (x : Nat) (w : World) : Calls Tryd.prog 34 #[.int .u8 (x : Int)] w fun e w' => e = .returned (.bool (digN x)) ∧ w' = w := by
  obtain ⟨a1, e1⟩ : ∃ b, decide ((48 : Int) ≤ (x : Int)) = b := ⟨_, rfl⟩
  obtain ⟨a2, e2⟩ : ∃ b, decide ((x : Int) ≤ 57) = b := ⟨_, rfl⟩
  have HR : Hid (digN x = (a1 && a2)) := by
    show _ = _
    rw [← e1, ← e2, Bool.eq_iff_iff]
    simp [digN]
    omega
  cases a1 <;> cases a2 <;> first
    | (exfalso; simp only [decide_eq_true_eq, decide_eq_false_iff_not] at e1 e2; clear HR; omega)
    | (go_enter Tryd.func34, Tryd.ntmps34
       go_wp2
       go_ret
       exact ⟨ret_bool (by rw [HR.out]; simp), rfl⟩)
set_option maxHeartbeats 4000000 in
theorem pname_any (x : Nat) (w : World) : Calls Tryd.prog 35 #[.int .u8 (x : Int)] w fun e w' => e = .returned (.bool (nameN x)) ∧ w' = w := by
  obtain ⟨a1, e1⟩ : ∃ b, decide ((97 : Int) ≤ (x : Int)) = b := ⟨_, rfl⟩
  obtain ⟨a2, e2⟩ : ∃ b, decide ((x : Int) ≤ 122) = b := ⟨_, rfl⟩
  obtain ⟨a3, e3⟩ : ∃ b, decide ((65 : Int) ≤ (x : Int)) = b := ⟨_, rfl⟩
  obtain ⟨a4, e4⟩ : ∃ b, decide ((x : Int) ≤ 90) = b := ⟨_, rfl⟩
  obtain ⟨a5, e5⟩ : ∃ b, ((x : Int) == 95) = b := ⟨_, rfl⟩
  obtain ⟨a6, e6⟩ : ∃ b, digN x = b := ⟨_, rfl⟩
  have HD : Hid (digN x = a6) := e6
  have HR : Hid (nameN x = (a1 && a2 || a3 && a4 || a5 || a6)) := by
    show _ = _
    rw [← e1, ← e2, ← e3, ← e4, ← e5, ← e6, Bool.eq_iff_iff]
    simp [nameN, alphaN, digN]
    omega
  clear e6
  cases a1 <;> cases a2 <;> cases a3 <;> cases a4 <;> cases a5 <;> first
    | (exfalso; simp only [decide_eq_true_eq, decide_eq_false_iff_not, beq_iff_eq, beq_eq_false_iff_ne] at e1 e2 e3 e4 e5; clear HR; omega)
    | (go_enter Tryd.func35, Tryd.ntmps35
       go_wp2_with (go_at_call 34; refine (pdigit_any x _).mono ?_; rw [HD.out]; rintro e w' ⟨rfl, rfl⟩)
       go_ret
       exact ⟨ret_bool (by rw [HR.out]; simp), rfl⟩)
set_option maxRecDepth 100000 in
set_option maxHeartbeats 2000000 in
theorem run_blank (s : ByteArray) (E : Nat) (hE : endW blankC s 0 = E) (w : World) (hs : s.size ≤ 100000) : Calls Tryd.prog 31 #[.string s, .func (.func 32) #[] #[]] w fun e w' => e = .returned (.int .i64 (E : Int)) ∧ w' = w := by
  have HE : Hid (endW blankC s 0 = E) := hE
  clear hE
  go_enter Tryd.func31, Tryd.ntmps31
  go_wp2
  go_loopw [8] (fun i wr => ∃ j : Nat, j ≤ s.size ∧ i = .int .i64 j ∧ Hid (endW blankC s j = E) ∧ wr = w) (fun i _ => s.size - (intOf i).toNat)
  case atStart => exact ⟨0, Nat.zero_le _, rfl, HE, rfl⟩
  case round =>
    clear HE
    obtain ⟨j, hj, rfl, hej, rfl⟩ := hrel
    by_cases hjs : j < s.size
    · have hjs' : (j : Int) < (s.size : Int) := by omega
      obtain ⟨y, hy⟩ : ∃ y, s[j].toNat = y := ⟨_, rfl⟩
      obtain ⟨b, hb⟩ : ∃ b, blankN y = b := ⟨_, rfl⟩
      have HB : Hid (blankN y = b) := hb
      have hpb : blankC s[j] = b := by rw [← hb, ← hy]; rfl
      cases b
      · have e : j = E := by rw [← hej.out, endW_stop hjs hpb]
        subst e
        clear hej hb hpb
        go_wp2_with (go_at_call 32; refine (pblank_any y _).mono ?_; rw [HB.out]; rintro e w' ⟨rfl, rfl⟩)
        go_ret
        exact ⟨rfl, rfl⟩
      · have HE2 : Hid (endW blankC s (j + 1) = E) := by show _ = _; rw [← endW_step hjs hpb]; exact hej.out
        clear hej hb hpb
        go_wp2_with (go_at_call 32; refine (pblank_any y _).mono ?_; rw [HB.out]; rintro e w' ⟨rfl, rfl⟩)
        go_roundw
        case rel => exact ⟨j + 1, by omega, by go_num, HE2, trivial⟩
        case measure => simp [intOf]; omega
    · have hjs' : ¬ (j : Int) < (s.size : Int) := by omega
      obtain rfl : j = s.size := by omega
      have e : s.size = E := by rw [← hej.out, endW_end (Nat.le_refl _)]
      subst e
      clear hej
      go_wp2
      go_ret
      exact ⟨rfl, rfl⟩
set_option maxRecDepth 100000 in
set_option maxHeartbeats 2000000 in
theorem run_digit (s : ByteArray) (E : Nat) (hE : endW isDg s 0 = E) (w : World) (hs : s.size ≤ 100000) : Calls Tryd.prog 31 #[.string s, .func (.func 34) #[] #[]] w fun e w' => e = .returned (.int .i64 (E : Int)) ∧ w' = w := by
  have HE : Hid (endW isDg s 0 = E) := hE
  clear hE
  go_enter Tryd.func31, Tryd.ntmps31
  go_wp2
  go_loopw [8] (fun i wr => ∃ j : Nat, j ≤ s.size ∧ i = .int .i64 j ∧ Hid (endW isDg s j = E) ∧ wr = w) (fun i _ => s.size - (intOf i).toNat)
  case atStart => exact ⟨0, Nat.zero_le _, rfl, HE, rfl⟩
  case round =>
    clear HE
    obtain ⟨j, hj, rfl, hej, rfl⟩ := hrel
    by_cases hjs : j < s.size
    · have hjs' : (j : Int) < (s.size : Int) := by omega
      obtain ⟨y, hy⟩ : ∃ y, s[j].toNat = y := ⟨_, rfl⟩
      obtain ⟨b, hb⟩ : ∃ b, digN y = b := ⟨_, rfl⟩
      have HB : Hid (digN y = b) := hb
      have hpb : isDg s[j] = b := by rw [← hb, ← hy]; rfl
      cases b
      · have e : j = E := by rw [← hej.out, endW_stop hjs hpb]
        subst e
        clear hej hb hpb
        go_wp2_with (go_at_call 34; refine (pdigit_any y _).mono ?_; rw [HB.out]; rintro e w' ⟨rfl, rfl⟩)
        go_ret
        exact ⟨rfl, rfl⟩
      · have HE2 : Hid (endW isDg s (j + 1) = E) := by show _ = _; rw [← endW_step hjs hpb]; exact hej.out
        clear hej hb hpb
        go_wp2_with (go_at_call 34; refine (pdigit_any y _).mono ?_; rw [HB.out]; rintro e w' ⟨rfl, rfl⟩)
        go_roundw
        case rel => exact ⟨j + 1, by omega, by go_num, HE2, trivial⟩
        case measure => simp [intOf]; omega
    · have hjs' : ¬ (j : Int) < (s.size : Int) := by omega
      obtain rfl : j = s.size := by omega
      have e : s.size = E := by rw [← hej.out, endW_end (Nat.le_refl _)]
      subst e
      clear hej
      go_wp2
      go_ret
      exact ⟨rfl, rfl⟩
set_option maxRecDepth 100000 in
set_option maxHeartbeats 2000000 in
theorem run_name (s : ByteArray) (E : Nat) (hE : endW wordC s 0 = E) (w : World) (hs : s.size ≤ 100000) : Calls Tryd.prog 31 #[.string s, .func (.func 35) #[] #[]] w fun e w' => e = .returned (.int .i64 (E : Int)) ∧ w' = w := by
  have HE : Hid (endW wordC s 0 = E) := hE
  clear hE
  go_enter Tryd.func31, Tryd.ntmps31
  go_wp2
  go_loopw [8] (fun i wr => ∃ j : Nat, j ≤ s.size ∧ i = .int .i64 j ∧ Hid (endW wordC s j = E) ∧ wr = w) (fun i _ => s.size - (intOf i).toNat)
  case atStart => exact ⟨0, Nat.zero_le _, rfl, HE, rfl⟩
  case round =>
    clear HE
    obtain ⟨j, hj, rfl, hej, rfl⟩ := hrel
    by_cases hjs : j < s.size
    · have hjs' : (j : Int) < (s.size : Int) := by omega
      obtain ⟨y, hy⟩ : ∃ y, s[j].toNat = y := ⟨_, rfl⟩
      obtain ⟨b, hb⟩ : ∃ b, nameN y = b := ⟨_, rfl⟩
      have HB : Hid (nameN y = b) := hb
      have hpb : wordC s[j] = b := by rw [← hb, ← hy]; rfl
      cases b
      · have e : j = E := by rw [← hej.out, endW_stop hjs hpb]
        subst e
        clear hej hb hpb
        go_wp2_with (go_at_call 35; refine (pname_any y _).mono ?_; rw [HB.out]; rintro e w' ⟨rfl, rfl⟩)
        go_ret
        exact ⟨rfl, rfl⟩
      · have HE2 : Hid (endW wordC s (j + 1) = E) := by show _ = _; rw [← endW_step hjs hpb]; exact hej.out
        clear hej hb hpb
        go_wp2_with (go_at_call 35; refine (pname_any y _).mono ?_; rw [HB.out]; rintro e w' ⟨rfl, rfl⟩)
        go_roundw
        case rel => exact ⟨j + 1, by omega, by go_num, HE2, trivial⟩
        case measure => simp [intOf]; omega
    · have hjs' : ¬ (j : Int) < (s.size : Int) := by omega
      obtain rfl : j = s.size := by omega
      have e : s.size = E := by rw [← hej.out, endW_end (Nat.le_refl _)]
      subst e
      clear hej
      go_wp2
      go_ret
      exact ⟨rfl, rfl⟩
set_option maxHeartbeats 1000000 in
theorem blanks_any (s : ByteArray) (E : Nat) (hE : endW blankC s 0 = E) (w : World) (hs : s.size ≤ 100000) : Calls Tryd.prog 19 #[.string s] w fun e w' => e = .returned (.int .i64 (E : Int)) ∧ w' = w := by
  have HE : Hid (endW blankC s 0 = E) := hE
  clear hE
  go_enter Tryd.func19, Tryd.ntmps19
  go_wp2_with (go_at_call 31; refine (run_blank s E HE.out _ hs).mono ?_; rintro e w' ⟨rfl, rfl⟩)
  go_ret
  exact ⟨rfl, rfl⟩
end Go.Proofs.YtgmibjcccdgkgaaDoor
