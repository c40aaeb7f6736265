/- Texts of the proof of FinderPlays: PSort7, PSort8. -/
import Derived.Test.YtabcficlnhajeaaGreatDoorF30
namespace Go.Proofs.YtabcficlnhajeaaGreatDoor
open Go.RowKit

theorem up_go {p : Pl → Bool} {d : Array Pl} {j i : Nat} (h : i ≤ j) (hp : p d[i]! = true) : Sort.scanUp p d j i = Sort.scanUp p d j (i + 1) := by
  rw [Sort.scanUp, if_pos (by simp only [Bool.and_eq_true, decide_eq_true_eq]; exact ⟨h, hp⟩)]
theorem up_stop {p : Pl → Bool} {d : Array Pl} {j i : Nat} (h : ¬ i ≤ j ∨ p d[i]! = false) : Sort.scanUp p d j i = i := by
  rw [Sort.scanUp, if_neg]
  simp only [Bool.and_eq_true, decide_eq_true_eq]
  rintro ⟨h1, h2⟩
  rcases h with h | h
  · exact h h1
  · rw [h] at h2; cases h2
theorem down_go {p : Pl → Bool} {d : Array Pl} {j i : Nat} (h0 : 1 ≤ i) (h : i ≤ j) (hp : p d[j]! = true) : Sort.scanDown p d i j = Sort.scanDown p d i (j - 1) := by
  obtain ⟨k, rfl⟩ : ∃ k, j = k + 1 := ⟨j - 1, by omega⟩
  rw [Sort.scanDown, if_pos (by simp only [Bool.and_eq_true, decide_eq_true_eq]; exact ⟨h, hp⟩)]
  rfl
theorem down_stop {p : Pl → Bool} {d : Array Pl} {j i : Nat} (h : ¬ i ≤ j ∨ p d[j]! = false) : Sort.scanDown p d i j = j := by
  cases j with
  | zero => rw [Sort.scanDown]
  | succ k =>
    rw [Sort.scanDown, if_neg]
    simp only [Bool.and_eq_true, decide_eq_true_eq]
    rintro ⟨h1, h2⟩
    rcases h with h | h
    · exact h h1
    · rw [h] at h2; cases h2

theorem peq_end {lt : Pl → Pl → Bool} {a i j i2 j2 : Nat} {d : Array Pl} (h1 : Sort.scanUp (fun x => !lt d[a]! x) d j i = i2) (h2 : Sort.scanDown (fun x => lt d[a]! x) d i2 j = j2) (h : i2 > j2) : Sort.partEqLoop lt a i j d = (i2, d) := by
  rw [Sort.partEqLoop]
  simp only [h1, h2]
  rw [if_pos h]
theorem peq_go {lt : Pl → Pl → Bool} {a i j i2 j2 : Nat} {d : Array Pl} (h1 : Sort.scanUp (fun x => !lt d[a]! x) d j i = i2) (h2 : Sort.scanDown (fun x => lt d[a]! x) d i2 j = j2) (h : ¬ i2 > j2) (hi : i ≤ i2) (hj : j2 ≤ j) (h0 : 1 ≤ i2) : Sort.partEqLoop lt a i j d = Sort.partEqLoop lt a (i2 + 1) (j2 - 1) (Sort.swp d i2 j2) := by
  rw [Sort.partEqLoop]
  simp only [h1, h2]
  rw [if_neg h, dif_pos (by omega)]

set_option maxRecDepth 100000 in
set_option maxHeartbeats 4000000 in
set_option maxRecDepth 100000 in
theorem equal_ss (s : Sl) (d : Array Pl) (w : World) (h : SS s d w) (a b pv : Nat) (hab : a < b) (hb : b ≤ s.n) (hp : pv < s.n) :
    Calls Tryz.prog 168 #[.agg #[(Value.func (.func 86) #[] #[.pointer (some ⟨s.Bs, 0, none⟩)]), (Value.func (.func s.sf) #[] s.sb)], .int .i64 a, .int .i64 b, .int .i64 pv] w fun e w' =>
      e = .returned (.int .i64 (Sort.partitionEqual ltB d a b pv).1) ∧ SS s (Sort.partitionEqual ltB d a b pv).2 w' ∧ w.grownBy w' (some s.blk) := by
  have hn := h.2.2.2.1.2.2.2
  have HE : Hid (SE s w.heap.size w d (w.alloc (.cells #[(Value.func (.func 86) #[] #[.pointer (some ⟨s.Bs, 0, none⟩)]), (Value.func (.func s.sf) #[] s.sb)] 202))) := SE.box h
  clear h
  obtain ⟨R, hR⟩ : ∃ R, Sort.partitionEqual ltB d a b pv = R := ⟨_, rfl⟩
  have HR : Hid (Sort.partEqLoop ltB a (a + 1) (b - 1) (Sort.swp d a pv) = R) := hR
  rw [hR]
  clear hR
  go_enter Tryz.func168, Tryz.ntmps168
  go_wp2_with (fail)
  refine swap_upon HE.out a pv (by omega) (by omega) (by omega) (by omega) ?_
  intro w1 he1
  rw [Oper.upon_value]
  have HE1 : Hid _ := he1
  clear he1 HE
  go_wp2
  go_loopw [9, 10] (fun vi vj wr => ∃ (i j : Nat) (dk : Array Pl), vi = .int .i64 i ∧ vj = .int .i64 j ∧ a + 1 ≤ i ∧ j < b ∧ i ≤ j + 2 ∧ Hid (SE s w.heap.size w dk wr ∧ Sort.partEqLoop ltB a i j dk = R)) (fun _ vj _ => (intOf vj).toNat)
  case atStart => exact ⟨a + 1, b - 1, _, by go_num, by congr 1; omega, by omega, by omega, by omega, HE1.out, HR.out⟩
  case round =>
    clear HE1 HR
    obtain ⟨i, j, dk, rfl, rfl, hai, hjb, hij, hz⟩ := hrel
    go_wp2
    go_loopw [9] (fun vi wr => ∃ (i' : Nat), vi = .int .i64 i' ∧ i ≤ i' ∧ i' ≤ j + 2 ∧ Hid (SE s w.heap.size w dk wr ∧ Sort.scanUp (fun x => !ltB dk[a]! x) dk j i' = Sort.scanUp (fun x => !ltB dk[a]! x) dk j i)) (fun vi _ => j + 1 - (intOf vi).toNat)
    case atStart => exact ⟨i, rfl, Nat.le_refl _, hij, hz.out.1, rfl⟩
    case round =>
      have HZ : Hid (Sort.partEqLoop ltB a i j dk = R) := hz.out.2
      clear hz
      obtain ⟨i2, rfl, hi2, hi3, hy⟩ := hrel
      obtain ⟨c0, c1⟩ := hy.out.1.1
      have HE : Hid _ := hy.out.1
      have HU : Hid _ := hy.out.2
      clear hy
      by_cases hc : i2 ≤ j
      · have q1 : (i2 : Int) ≤ (j : Int) := by omega
        obtain ⟨lb, hlb⟩ : ∃ lb, ltB dk[a]! dk[i2]! = lb := ⟨_, rfl⟩
        have HL : Hid _ := hlb
        cases lb
        · have HU2 : Hid _ := (up_go (p := fun x => !ltB dk[a]! x) hc (by simp [hlb])).symm.trans HU.out
          clear HU hlb
          go_wp2_with (go_at_call 86; refine (less_at HE.out (a) (i2) (by omega) (by omega) _ HL.out (by omega) (by omega)).mono ?_; rintro e w4 ⟨rfl, he4⟩; have k1 := he4.1.1; have k2 := he4.1.2; have HE : Hid _ := he4; clear he4)
          go_roundw
          case rel => exact ⟨i2 + 1, by go_num, by omega, by omega, HE.out, HU2.out⟩
          case measure => simp [intOf]; omega
        · have HS : Hid (Sort.scanUp (fun x => !ltB dk[a]! x) dk j i = i2) := by
            show _ = _
            rw [← HU.out, up_stop (.inr (by simp [hlb]))]
          clear HU hlb
          go_wp2_with (go_at_call 86; refine (less_at HE.out (a) (i2) (by omega) (by omega) _ HL.out (by omega) (by omega)).mono ?_; rintro e w4 ⟨rfl, he4⟩; have k1 := he4.1.1; have k2 := he4.1.2; have HE : Hid _ := he4; clear he4)
          clear HL
          go_loopw [10] (fun vj wr => ∃ (j' : Nat), vj = .int .i64 j' ∧ j' ≤ j ∧ Hid (SE s w.heap.size w dk wr ∧ Sort.scanDown (fun x => ltB dk[a]! x) dk i2 j' = Sort.scanDown (fun x => ltB dk[a]! x) dk i2 j)) (fun vj _ => (intOf vj).toNat)
          case atStart => exact ⟨j, rfl, Nat.le_refl _, HE.out, rfl⟩
          case round =>
            clear HE
            obtain ⟨j2, rfl, hj2, hy⟩ := hrel
            obtain ⟨c0, c1⟩ := hy.out.1.1
            have HE : Hid _ := hy.out.1
            have HD : Hid _ := hy.out.2
            clear hy
            by_cases hc : i2 ≤ j2
            · have q1 : (i2 : Int) ≤ (j2 : Int) := by omega
              have q2 : ¬ (j2 : Int) < (i2 : Int) := by omega
              obtain ⟨lb, hlb⟩ : ∃ lb, ltB dk[a]! dk[j2]! = lb := ⟨_, rfl⟩
              have HL : Hid _ := hlb
              cases lb
              · have HX : Hid (Sort.partEqLoop ltB a (i2 + 1) (j2 - 1) (Sort.swp dk i2 j2) = R) := by
                  have e2 : Sort.scanDown (fun x => ltB dk[a]! x) dk i2 j = j2 := by rw [← HD.out, down_stop (.inr hlb)]
                  show _ = _
                  rw [← HZ.out, peq_go HS.out e2 (by omega) (by omega) (by omega) (by omega)]
                clear HD hlb HS HZ
                go_wp2_with (go_at_call 86; refine (less_at HE.out (a) (j2) (by omega) (by omega) _ HL.out (by omega) (by omega)).mono ?_; rintro e w4 ⟨rfl, he4⟩; have k1 := he4.1.1; have k2 := he4.1.2; have HE : Hid _ := he4; clear he4)
                refine swap_upon HE.out i2 j2 (by omega) (by omega) (by omega) (by omega) ?_
                intro w5 he5
                rw [Oper.upon_value]
                have HE5 : Hid _ := he5
                clear he5
                go_wp2
                go_roundw
                case rel => exact ⟨i2 + 1, j2 - 1, _, by go_num, by congr 1; omega, by omega, by omega, by omega, HE5.out, HX.out⟩
                case measure => simp [intOf]; omega
              · have HD2 : Hid _ := (down_go (p := fun x => ltB dk[a]! x) (by omega) hc hlb).symm.trans HD.out
                clear HD hlb
                go_wp2_with (go_at_call 86; refine (less_at HE.out (a) (j2) (by omega) (by omega) _ HL.out (by omega) (by omega)).mono ?_; rintro e w4 ⟨rfl, he4⟩; have k1 := he4.1.1; have k2 := he4.1.2; have HE : Hid _ := he4; clear he4)
                go_roundw
                case rel => exact ⟨j2 - 1, by congr 1; omega, by omega, HE.out, HD2.out⟩
                case measure => simp [intOf]; omega
            · have q1 : ¬ (i2 : Int) ≤ (j2 : Int) := by omega
              have q2 : (j2 : Int) < (i2 : Int) := by omega
              have HX : Hid ((i2, dk) = R) := by
                have e2 : Sort.scanDown (fun x => ltB dk[a]! x) dk i2 j = j2 := by rw [← HD.out, down_stop (.inl hc)]
                show _ = _
                rw [← HZ.out, peq_end HS.out e2 (by omega)]
              clear HD
              go_wp2
              go_ret
              rw [← HX.out]
              exact ⟨rfl, HE.out.2.2.1, HE.out.2.2.2⟩
      · have q1 : ¬ (i2 : Int) ≤ (j : Int) := by omega
        have HS : Hid (Sort.scanUp (fun x => !ltB dk[a]! x) dk j i = i2) := by
          show _ = _
          rw [← HU.out, up_stop (.inl hc)]
        clear HU
        go_wp2
        go_loopw [10] (fun vj wr => ∃ (j' : Nat), vj = .int .i64 j' ∧ j' ≤ j ∧ Hid (SE s w.heap.size w dk wr ∧ Sort.scanDown (fun x => ltB dk[a]! x) dk i2 j' = Sort.scanDown (fun x => ltB dk[a]! x) dk i2 j)) (fun vj _ => (intOf vj).toNat)
        case atStart => exact ⟨j, rfl, Nat.le_refl _, HE.out, rfl⟩
        case round =>
          clear HE
          obtain ⟨j2, rfl, hj2, hy⟩ := hrel
          obtain ⟨c0, c1⟩ := hy.out.1.1
          have HE : Hid _ := hy.out.1
          have HD : Hid _ := hy.out.2
          clear hy
          by_cases hc : i2 ≤ j2
          · exact absurd hc (by omega)
          · have q1 : ¬ (i2 : Int) ≤ (j2 : Int) := by omega
            have q2 : (j2 : Int) < (i2 : Int) := by omega
            have HX : Hid ((i2, dk) = R) := by
              have e2 : Sort.scanDown (fun x => ltB dk[a]! x) dk i2 j = j2 := by rw [← HD.out, down_stop (.inl hc)]
              show _ = _
              rw [← HZ.out, peq_end HS.out e2 (by omega)]
            clear HD
            go_wp2
            go_ret
            rw [← HX.out]
            exact ⟨rfl, HE.out.2.2.1, HE.out.2.2.2⟩
end Go.Proofs.YtabcficlnhajeaaGreatDoor
namespace Go.Proofs.YtabcficlnhajeaaGreatDoor
open Go.RowKit

theorem part_end {lt : Pl → Pl → Bool} {a i j i2 j2 : Nat} {d : Array Pl} (h1 : Sort.scanUp (fun x => lt x d[a]!) d j i = i2) (h2 : Sort.scanDown (fun x => !lt x d[a]!) d i2 j = j2) (h : i2 > j2) : Sort.partLoop lt a i j d = (j2, d) := by
  rw [Sort.partLoop]
  simp only [h1, h2]
  rw [if_pos h]
theorem part_go {lt : Pl → Pl → Bool} {a i j i2 j2 : Nat} {d : Array Pl} (h1 : Sort.scanUp (fun x => lt x d[a]!) d j i = i2) (h2 : Sort.scanDown (fun x => !lt x d[a]!) d i2 j = j2) (h : ¬ i2 > j2) (hi : i ≤ i2) (hj : j2 ≤ j) (h0 : 1 ≤ i2) : Sort.partLoop lt a i j d = Sort.partLoop lt a (i2 + 1) (j2 - 1) (Sort.swp d i2 j2) := by
  rw [Sort.partLoop]
  simp only [h1, h2]
  rw [if_neg h, dif_pos (by omega)]
/-- the first round, of d with its pivot ahead -/
def partOf (lt : Pl → Pl → Bool) (a i j : Nat) (d : Array Pl) : Nat × Bool × Array Pl :=
  let i2 := Sort.scanUp (fun x => lt x d[a]!) d j i
  let j2 := Sort.scanDown (fun x => !lt x d[a]!) d i2 j
  if i2 > j2 then (j2, true, Sort.swp d j2 a) else
    let r := Sort.partLoop lt a (i2 + 1) (j2 - 1) (Sort.swp d i2 j2)
    (r.1, false, Sort.swp r.2 r.1 a)
theorem part_one {lt : Pl → Pl → Bool} {a i j i2 j2 : Nat} {d : Array Pl} (h1 : Sort.scanUp (fun x => lt x d[a]!) d j i = i2) (h2 : Sort.scanDown (fun x => !lt x d[a]!) d i2 j = j2) (h : i2 > j2) : partOf lt a i j d = (j2, true, Sort.swp d j2 a) := by
  simp only [partOf, h1, h2]
  rw [if_pos h]
theorem part_two {lt : Pl → Pl → Bool} {a i j i2 j2 : Nat} {d : Array Pl} (h1 : Sort.scanUp (fun x => lt x d[a]!) d j i = i2) (h2 : Sort.scanDown (fun x => !lt x d[a]!) d i2 j = j2) (h : ¬ i2 > j2) :
    partOf lt a i j d = ((Sort.partLoop lt a (i2 + 1) (j2 - 1) (Sort.swp d i2 j2)).1, false, Sort.swp (Sort.partLoop lt a (i2 + 1) (j2 - 1) (Sort.swp d i2 j2)).2 (Sort.partLoop lt a (i2 + 1) (j2 - 1) (Sort.swp d i2 j2)).1 a) := by
  simp only [partOf, h1, h2]
  rw [if_neg h]

set_option maxRecDepth 100000 in
set_option maxHeartbeats 8000000 in
set_option maxRecDepth 100000 in
theorem partition_ss (s : Sl) (d : Array Pl) (w : World) (h : SS s d w) (a b pv : Nat) (hab : a < b) (hb : b ≤ s.n) (hp : pv < s.n) :
    Calls Tryz.prog 169 #[.agg #[(Value.func (.func 86) #[] #[.pointer (some ⟨s.Bs, 0, none⟩)]), (Value.func (.func s.sf) #[] s.sb)], .int .i64 a, .int .i64 b, .int .i64 pv] w fun e w' =>
      e = .returned (.tuple #[.int .i64 (Sort.partition ltB d a b pv).1, .bool (Sort.partition ltB d a b pv).2.1]) ∧ SS s (Sort.partition ltB d a b pv).2.2 w' ∧ w.grownBy w' (some s.blk) := by
  have hn := h.2.2.2.1.2.2.2
  have HE : Hid (SE s w.heap.size w d (w.alloc (.cells #[(Value.func (.func 86) #[] #[.pointer (some ⟨s.Bs, 0, none⟩)]), (Value.func (.func s.sf) #[] s.sb)] 202))) := SE.box h
  clear h
  obtain ⟨R, hR⟩ : ∃ R, Sort.partition ltB d a b pv = R := ⟨_, rfl⟩
  have HR : Hid (partOf ltB a (a + 1) (b - 1) (Sort.swp d a pv) = R) := hR
  rw [hR]
  clear hR
  go_enter Tryz.func169, Tryz.ntmps169
  go_wp2_with (fail)
  refine swap_upon HE.out a pv (by omega) (by omega) (by omega) (by omega) ?_
  intro w1 he1
  rw [Oper.upon_value]
  have HE1 : Hid _ := he1
  clear he1 HE
  go_wp2
  obtain ⟨i, hi0⟩ : ∃ i, i = a + 1 := ⟨_, rfl⟩
  obtain ⟨j, hj0⟩ : ∃ j, j = b - 1 := ⟨_, rfl⟩
  have hij : i ≤ j + 2 := by omega
  have hai : a + 1 ≤ i := by omega
  have hjb : j < b := by omega
  rw [← hi0, ← hj0] at HR
  rw [show ((b : Int) - 1) = (j : Int) by omega, show ((a : Int) + 1) = (i : Int) by omega]
  clear hi0 hj0
  generalize Sort.swp d a pv = dk at *
  have HE : Hid _ := HE1.out
  clear HE1
  go_loopw [10] (fun vi wr => ∃ (i' : Nat), vi = .int .i64 i' ∧ i ≤ i' ∧ i' ≤ j + 2 ∧ Hid (SE s w.heap.size w dk wr ∧ Sort.scanUp (fun x => ltB x dk[a]!) dk j i' = Sort.scanUp (fun x => ltB x dk[a]!) dk j i)) (fun vi _ => j + 1 - (intOf vi).toNat)
  case atStart => exact ⟨i, rfl, Nat.le_refl _, by omega, HE.out, rfl⟩
  case round =>
    clear HE
    obtain ⟨i2, rfl, hi2, hi3, hy⟩ := hrel
    obtain ⟨c0, c1⟩ := hy.out.1.1
    have HE : Hid _ := hy.out.1
    have HU : Hid _ := hy.out.2
    clear hy
    by_cases hc : i2 ≤ j
    · have q1 : (i2 : Int) ≤ (j : Int) := by omega
      obtain ⟨lb, hlb⟩ : ∃ lb, ltB dk[i2]! dk[a]! = lb := ⟨_, rfl⟩
      have HL : Hid _ := hlb
      cases lb
      · have HS : Hid (Sort.scanUp (fun x => ltB x dk[a]!) dk j i = i2) := by
          show _ = _
          rw [← HU.out, up_stop (.inr (by simp [hlb]))]
        clear HU hlb
        go_wp2_with (go_at_call 86; refine (less_at HE.out (i2) (a) (by omega) (by omega) _ HL.out (by omega) (by omega)).mono ?_; rintro e w4 ⟨rfl, he4⟩; have k1 := he4.1.1; have k2 := he4.1.2; have HE : Hid _ := he4; clear he4)
        clear HL
        go_loopw [11] (fun vj wr => ∃ (j' : Nat), vj = .int .i64 j' ∧ j' ≤ j ∧ Hid (SE s w.heap.size w dk wr ∧ Sort.scanDown (fun x => !ltB x dk[a]!) dk i2 j' = Sort.scanDown (fun x => !ltB x dk[a]!) dk i2 j)) (fun vj _ => (intOf vj).toNat)
        case atStart => exact ⟨j, rfl, Nat.le_refl _, HE.out, rfl⟩
        case round =>
          clear HE
          obtain ⟨j2, rfl, hj2, hy⟩ := hrel
          obtain ⟨c0, c1⟩ := hy.out.1.1
          have HE : Hid _ := hy.out.1
          have HD : Hid _ := hy.out.2
          clear hy
          by_cases hc : i2 ≤ j2
          · have q1 : (i2 : Int) ≤ (j2 : Int) := by omega
            have q2 : ¬ (j2 : Int) < (i2 : Int) := by omega
            obtain ⟨lb, hlb⟩ : ∃ lb, ltB dk[j2]! dk[a]! = lb := ⟨_, rfl⟩
            have HL : Hid _ := hlb
            cases lb
            · have HD2 : Hid _ := (down_go (p := (fun x => !ltB x dk[a]!)) (by omega) hc (by simp [hlb])).symm.trans HD.out
              clear HD hlb
              go_wp2_with (go_at_call 86; refine (less_at HE.out (j2) (a) (by omega) (by omega) _ HL.out (by omega) (by omega)).mono ?_; rintro e w4 ⟨rfl, he4⟩; have k1 := he4.1.1; have k2 := he4.1.2; have HE : Hid _ := he4; clear he4)
              go_roundw
              case rel => exact ⟨j2 - 1, by congr 1; omega, by omega, HE.out, HD2.out⟩
              case measure => simp [intOf]; omega
            · have HT : Hid (Sort.scanDown (fun x => !ltB x dk[a]!) dk i2 j = j2) := by
                show _ = _
                rw [← HD.out, down_stop (.inr (by simp [hlb]))]
              clear HD hlb
              go_wp2_with (go_at_call 86; refine (less_at HE.out (j2) (a) (by omega) (by omega) _ HL.out (by omega) (by omega)).mono ?_; rintro e w4 ⟨rfl, he4⟩; have k1 := he4.1.1; have k2 := he4.1.2; have HE : Hid _ := he4; clear he4)
              clear HL
              obtain ⟨Q, hQ⟩ : ∃ Q, Sort.partLoop ltB a (i2 + 1) (j2 - 1) (Sort.swp dk i2 j2) = Q := ⟨_, rfl⟩
              have HW : Hid _ := hQ
              have HQ : Hid ((Q.1, false, Sort.swp Q.2 Q.1 a) = R) := by
                show _ = _
                rw [← HR.out, part_two HS.out HT.out (by omega), hQ]
              clear hQ HS HT HR
              refine swap_upon HE.out i2 j2 (by omega) (by omega) (by omega) (by omega) ?_
              intro w5 he5
              rw [Oper.upon_value]
              have HE5 : Hid _ := he5
              clear he5
              go_wp2
              go_loopw [10, 11] (fun vi vj wr => ∃ (i j : Nat) (dk : Array Pl), vi = .int .i64 i ∧ vj = .int .i64 j ∧ a + 1 ≤ i ∧ j < b ∧ i ≤ j + 2 ∧ Hid (SE s w.heap.size w dk wr ∧ Sort.partLoop ltB a i j dk = Q)) (fun _ vj _ => (intOf vj).toNat)
              case atStart => exact ⟨i2 + 1, j2 - 1, _, by go_num, by congr 1; omega, by omega, by omega, by omega, HE5.out, HW.out⟩
              case round =>
                clear HE5 HW hi2 hi3 hj2 hij hc q1 q2
                clear HE
                obtain ⟨i, j, dk, rfl, rfl, hai, hjb, hij, hz⟩ := hrel
                have HE : Hid _ := hz.out.1
                have HZ : Hid _ := hz.out.2
                clear hz
                go_wp2
                go_loopw [10] (fun vi wr => ∃ (i' : Nat), vi = .int .i64 i' ∧ i ≤ i' ∧ i' ≤ j + 2 ∧ Hid (SE s w.heap.size w dk wr ∧ Sort.scanUp (fun x => ltB x dk[a]!) dk j i' = Sort.scanUp (fun x => ltB x dk[a]!) dk j i)) (fun vi _ => j + 1 - (intOf vi).toNat)
                case atStart => exact ⟨i, rfl, Nat.le_refl _, by omega, HE.out, rfl⟩
                case round =>
                  clear HE
                  obtain ⟨i2, rfl, hi2, hi3, hy⟩ := hrel
                  obtain ⟨c0, c1⟩ := hy.out.1.1
                  have HE : Hid _ := hy.out.1
                  have HU : Hid _ := hy.out.2
                  clear hy
                  by_cases hc : i2 ≤ j
                  · have q1 : (i2 : Int) ≤ (j : Int) := by omega
                    obtain ⟨lb, hlb⟩ : ∃ lb, ltB dk[i2]! dk[a]! = lb := ⟨_, rfl⟩
                    have HL : Hid _ := hlb
                    cases lb
                    · have HS : Hid (Sort.scanUp (fun x => ltB x dk[a]!) dk j i = i2) := by
                        show _ = _
                        rw [← HU.out, up_stop (.inr (by simp [hlb]))]
                      clear HU hlb
                      go_wp2_with (go_at_call 86; refine (less_at HE.out (i2) (a) (by omega) (by omega) _ HL.out (by omega) (by omega)).mono ?_; rintro e w4 ⟨rfl, he4⟩; have k1 := he4.1.1; have k2 := he4.1.2; have HE : Hid _ := he4; clear he4)
                      clear HL
                      go_loopw [11] (fun vj wr => ∃ (j' : Nat), vj = .int .i64 j' ∧ j' ≤ j ∧ Hid (SE s w.heap.size w dk wr ∧ Sort.scanDown (fun x => !ltB x dk[a]!) dk i2 j' = Sort.scanDown (fun x => !ltB x dk[a]!) dk i2 j)) (fun vj _ => (intOf vj).toNat)
                      case atStart => exact ⟨j, rfl, Nat.le_refl _, HE.out, rfl⟩
                      case round =>
                        clear HE
                        obtain ⟨j2, rfl, hj2, hy⟩ := hrel
                        obtain ⟨c0, c1⟩ := hy.out.1.1
                        have HE : Hid _ := hy.out.1
                        have HD : Hid _ := hy.out.2
                        clear hy
                        by_cases hc : i2 ≤ j2
                        · have q1 : (i2 : Int) ≤ (j2 : Int) := by omega
                          have q2 : ¬ (j2 : Int) < (i2 : Int) := by omega
                          obtain ⟨lb, hlb⟩ : ∃ lb, ltB dk[j2]! dk[a]! = lb := ⟨_, rfl⟩
                          have HL : Hid _ := hlb
                          cases lb
                          · have HD2 : Hid _ := (down_go (p := (fun x => !ltB x dk[a]!)) (by omega) hc (by simp [hlb])).symm.trans HD.out
                            clear HD hlb
                            go_wp2_with (go_at_call 86; refine (less_at HE.out (j2) (a) (by omega) (by omega) _ HL.out (by omega) (by omega)).mono ?_; rintro e w4 ⟨rfl, he4⟩; have k1 := he4.1.1; have k2 := he4.1.2; have HE : Hid _ := he4; clear he4)
                            go_roundw
                            case rel => exact ⟨j2 - 1, by congr 1; omega, by omega, HE.out, HD2.out⟩
                            case measure => simp [intOf]; omega
                          · have HT : Hid (Sort.scanDown (fun x => !ltB x dk[a]!) dk i2 j = j2) := by
                              show _ = _
                              rw [← HD.out, down_stop (.inr (by simp [hlb]))]
                            clear HD hlb
                            go_wp2_with (go_at_call 86; refine (less_at HE.out (j2) (a) (by omega) (by omega) _ HL.out (by omega) (by omega)).mono ?_; rintro e w4 ⟨rfl, he4⟩; have k1 := he4.1.1; have k2 := he4.1.2; have HE : Hid _ := he4; clear he4)
                            clear HL
                            have HX : Hid (Sort.partLoop ltB a (i2 + 1) (j2 - 1) (Sort.swp dk i2 j2) = Q) := by
                              show _ = _
                              rw [← HZ.out, part_go HS.out HT.out (by omega) (by omega) (by omega) (by omega)]
                            clear HS HT HZ
                            refine swap_upon HE.out i2 j2 (by omega) (by omega) (by omega) (by omega) ?_
                            intro w5 he5
                            rw [Oper.upon_value]
                            have HE5 : Hid _ := he5
                            clear he5
                            go_wp2
                            go_roundw
                            case rel => exact ⟨i2 + 1, j2 - 1, _, by go_num, by congr 1; omega, by omega, by omega, by omega, HE5.out, HX.out⟩
                            case measure => simp [intOf]; omega
                        · have q1 : ¬ (i2 : Int) ≤ (j2 : Int) := by omega
                          have q2 : (j2 : Int) < (i2 : Int) := by omega
                          have HT : Hid (Sort.scanDown (fun x => !ltB x dk[a]!) dk i2 j = j2) := by
                            show _ = _
                            rw [← HD.out, down_stop (.inl hc)]
                          clear HD
                          go_wp2_with fail
                          have HX : Hid ((j2, false, Sort.swp dk j2 a) = R) := by
                            show _ = _
                            rw [← HQ.out, ← HZ.out, part_end HS.out HT.out (by omega)]
                          clear HS HT HZ
                          refine swap_upon HE.out j2 a (by omega) (by omega) (by omega) (by omega) ?_
                          intro w5 he5
                          rw [Oper.upon_value]
                          have HE5 : Hid _ := he5
                          clear he5
                          go_wp2
                          go_ret2
                          rw [← HX.out]
                          exact ⟨rfl, HE5.out.2.2.1, HE5.out.2.2.2⟩
                    · have HU2 : Hid _ := (up_go (p := (fun x => ltB x dk[a]!)) hc (by simp [hlb])).symm.trans HU.out
                      clear HU hlb
                      go_wp2_with (go_at_call 86; refine (less_at HE.out (i2) (a) (by omega) (by omega) _ HL.out (by omega) (by omega)).mono ?_; rintro e w4 ⟨rfl, he4⟩; have k1 := he4.1.1; have k2 := he4.1.2; have HE : Hid _ := he4; clear he4)
                      go_roundw
                      case rel => exact ⟨i2 + 1, by go_num, by omega, by omega, HE.out, HU2.out⟩
                      case measure => simp [intOf]; omega
                  · have q1 : ¬ (i2 : Int) ≤ (j : Int) := by omega
                    have HS : Hid (Sort.scanUp (fun x => ltB x dk[a]!) dk j i = i2) := by
                      show _ = _
                      rw [← HU.out, up_stop (.inl hc)]
                    clear HU
                    go_wp2
                    go_loopw [11] (fun vj wr => ∃ (j' : Nat), vj = .int .i64 j' ∧ j' ≤ j ∧ Hid (SE s w.heap.size w dk wr ∧ Sort.scanDown (fun x => !ltB x dk[a]!) dk i2 j' = Sort.scanDown (fun x => !ltB x dk[a]!) dk i2 j)) (fun vj _ => (intOf vj).toNat)
                    case atStart => exact ⟨j, rfl, Nat.le_refl _, HE.out, rfl⟩
                    case round =>
                      clear HE
                      obtain ⟨j2, rfl, hj2, hy⟩ := hrel
                      obtain ⟨c0, c1⟩ := hy.out.1.1
                      have HE : Hid _ := hy.out.1
                      have HD : Hid _ := hy.out.2
                      clear hy
                      by_cases hc : i2 ≤ j2
                      · exact absurd hc (by omega)
                      · have q1 : ¬ (i2 : Int) ≤ (j2 : Int) := by omega
                        have q2 : (j2 : Int) < (i2 : Int) := by omega
                        have HT : Hid (Sort.scanDown (fun x => !ltB x dk[a]!) dk i2 j = j2) := by
                          show _ = _
                          rw [← HD.out, down_stop (.inl hc)]
                        clear HD
                        go_wp2_with fail
                        have HX : Hid ((j2, false, Sort.swp dk j2 a) = R) := by
                          show _ = _
                          rw [← HQ.out, ← HZ.out, part_end HS.out HT.out (by omega)]
                        clear HS HT HZ
                        refine swap_upon HE.out j2 a (by omega) (by omega) (by omega) (by omega) ?_
                        intro w5 he5
                        rw [Oper.upon_value]
                        have HE5 : Hid _ := he5
                        clear he5
                        go_wp2
                        go_ret2
                        rw [← HX.out]
                        exact ⟨rfl, HE5.out.2.2.1, HE5.out.2.2.2⟩
          · have q1 : ¬ (i2 : Int) ≤ (j2 : Int) := by omega
            have q2 : (j2 : Int) < (i2 : Int) := by omega
            have HT : Hid (Sort.scanDown (fun x => !ltB x dk[a]!) dk i2 j = j2) := by
              show _ = _
              rw [← HD.out, down_stop (.inl hc)]
            clear HD
            go_wp2_with fail
            have HX : Hid ((j2, true, Sort.swp dk j2 a) = R) := by
              show _ = _
              rw [← HR.out, part_one HS.out HT.out (by omega)]
            clear HS HT HR
            refine swap_upon HE.out j2 a (by omega) (by omega) (by omega) (by omega) ?_
            intro w5 he5
            rw [Oper.upon_value]
            have HE5 : Hid _ := he5
            clear he5
            go_wp2
            go_ret2
            rw [← HX.out]
            exact ⟨rfl, HE5.out.2.2.1, HE5.out.2.2.2⟩
      · have HU2 : Hid _ := (up_go (p := (fun x => ltB x dk[a]!)) hc (by simp [hlb])).symm.trans HU.out
        clear HU hlb
        go_wp2_with (go_at_call 86; refine (less_at HE.out (i2) (a) (by omega) (by omega) _ HL.out (by omega) (by omega)).mono ?_; rintro e w4 ⟨rfl, he4⟩; have k1 := he4.1.1; have k2 := he4.1.2; have HE : Hid _ := he4; clear he4)
        go_roundw
        case rel => exact ⟨i2 + 1, by go_num, by omega, by omega, HE.out, HU2.out⟩
        case measure => simp [intOf]; omega
    · have q1 : ¬ (i2 : Int) ≤ (j : Int) := by omega
      have HS : Hid (Sort.scanUp (fun x => ltB x dk[a]!) dk j i = i2) := by
        show _ = _
        rw [← HU.out, up_stop (.inl hc)]
      clear HU
      go_wp2
      go_loopw [11] (fun vj wr => ∃ (j' : Nat), vj = .int .i64 j' ∧ j' ≤ j ∧ Hid (SE s w.heap.size w dk wr ∧ Sort.scanDown (fun x => !ltB x dk[a]!) dk i2 j' = Sort.scanDown (fun x => !ltB x dk[a]!) dk i2 j)) (fun vj _ => (intOf vj).toNat)
      case atStart => exact ⟨j, rfl, Nat.le_refl _, HE.out, rfl⟩
      case round =>
        clear HE
        obtain ⟨j2, rfl, hj2, hy⟩ := hrel
        obtain ⟨c0, c1⟩ := hy.out.1.1
        have HE : Hid _ := hy.out.1
        have HD : Hid _ := hy.out.2
        clear hy
        by_cases hc : i2 ≤ j2
        · exact absurd hc (by omega)
        · have q1 : ¬ (i2 : Int) ≤ (j2 : Int) := by omega
          have q2 : (j2 : Int) < (i2 : Int) := by omega
          have HT : Hid (Sort.scanDown (fun x => !ltB x dk[a]!) dk i2 j = j2) := by
            show _ = _
            rw [← HD.out, down_stop (.inl hc)]
          clear HD
          go_wp2_with fail
          have HX : Hid ((j2, true, Sort.swp dk j2 a) = R) := by
            show _ = _
            rw [← HR.out, part_one HS.out HT.out (by omega)]
          clear HS HT HR
          refine swap_upon HE.out j2 a (by omega) (by omega) (by omega) (by omega) ?_
          intro w5 he5
          rw [Oper.upon_value]
          have HE5 : Hid _ := he5
          clear he5
          go_wp2
          go_ret2
          rw [← HX.out]
          exact ⟨rfl, HE5.out.2.2.1, HE5.out.2.2.2⟩
end Go.Proofs.YtabcficlnhajeaaGreatDoor
