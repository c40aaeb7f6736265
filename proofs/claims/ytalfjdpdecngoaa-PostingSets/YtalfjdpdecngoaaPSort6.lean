/- The choice of a pivot. -/
import Derived.Test.YtalfjdpdecngoaaPSort5
namespace Go.Proofs.Ytalfjdpdecngoaa
open Go.RowKit

theorem hint_code (n : Nat) : Sort.hintCode (Sort.hintOf n) = if n = 0 then 1 else if n = 12 then 2 else 0 := by
  unfold Sort.hintOf
  by_cases h : n = 0
  · rw [if_pos h, if_pos h]; rfl
  · rw [if_neg h, if_neg h]
    by_cases h2 : n = 12
    · rw [if_pos h2, if_pos h2]; rfl
    · rw [if_neg h2, if_neg h2]; rfl

set_option maxHeartbeats 4000000 in
set_option maxRecDepth 100000 in
theorem pivot_ss (s : Sl) (d : Array Pl) (w : World) (h : SS s d w) (a b : Nat) (hab : a + 12 < b) (hb : b ≤ s.n) :
    Calls Try.prog 62 #[.agg #[(Value.func (.func 38) #[] #[.pointer (some ⟨s.Bs, 0, none⟩)]), (Value.func (.func s.sf) #[] s.sb)], .int .i64 a, .int .i64 b] w fun e w' =>
      e = .returned (.tuple #[.int .i64 (Sort.choosePivot ltB d a b).1, .int .i64 (Sort.hintCode (Sort.choosePivot ltB d a b).2)]) ∧ SS s d w' ∧ Below w.heap.size w w' := by
  have hN := h.2.2.2.1.2.2.2
  rw [Sort.choosePivot_eq]
  obtain ⟨m, hm⟩ : ∃ m, m = (b - a) / 4 := ⟨_, rfl⟩
  have hraw : Sort.rawPivot ltB d a b = if b - a ≥ 50 then
      Sort.median ltB d (Sort.medianAdjacent ltB d (a + m) 0).1 (Sort.medianAdjacent ltB d (a + m * 2) (Sort.medianAdjacent ltB d (a + m) 0).2).1 (Sort.medianAdjacent ltB d (a + m * 3) (Sort.medianAdjacent ltB d (a + m * 2) (Sort.medianAdjacent ltB d (a + m) 0).2).2).1 (Sort.medianAdjacent ltB d (a + m * 3) (Sort.medianAdjacent ltB d (a + m * 2) (Sort.medianAdjacent ltB d (a + m) 0).2).2).2
    else Sort.median ltB d (a + m) (a + m * 2) (a + m * 3) 0 := by
    rw [Sort.rawPivot, if_pos (by omega), ← hm, Nat.mul_one]
  obtain ⟨⟨pv, sw⟩, hr⟩ : ∃ r, Sort.rawPivot ltB d a b = r := ⟨_, rfl⟩
  rw [hr] at hraw
  rw [hr]
  simp only [hint_code]
  clear hr
  obtain ⟨w1, hw1⟩ : ∃ w1, w1 = w.alloc (.cells #[(Value.func (.func 38) #[] #[.pointer (some ⟨s.Bs, 0, none⟩)]), (Value.func (.func s.sf) #[] s.sb)] 76) := ⟨_, rfl⟩
  have hb1 : Below w.heap.size w w1 := by rw [hw1]; exact (Below.refl _ _).alloc (Nat.le_refl _) _
  have hb2 : Below w.heap.size w (w1.alloc (.cells #[.int .i64 0] 3)) := hb1.alloc hb1.size _
  have hs1 : w1.heap.size = w.heap.size + 1 := by rw [hw1]; simp
  have HP : Hid (MP s w.heap.size (w.heap.size + 1) w 0 d (w1.alloc (.cells #[.int .i64 0] 3))) := by
    have hn := heap_alloc_new w1 (.cells #[.int .i64 0] 3)
    have hn1 : w1.heap[w.heap.size]? = some (.cells #[(Value.func (.func 38) #[] #[.pointer (some ⟨s.Bs, 0, none⟩)]), (Value.func (.func s.sf) #[] s.sb)] 76) := by rw [hw1]; exact heap_alloc_new w _
    have hn2 : (w1.alloc (.cells #[.int .i64 0] 3)).heap[w.heap.size]? = some (.cells #[(Value.func (.func 38) #[] #[.pointer (some ⟨s.Bs, 0, none⟩)]), (Value.func (.func s.sf) #[] s.sb)] 76) := by
      rw [Below.heap_alloc _ _ _ (by omega)]; exact hn1
    rw [hs1] at hn
    have hq := h.2.2.2.1
    refine ⟨⟨by simp [World.cell?, hn2], by simp [World.cell?, hn2]⟩, ⟨by simp [hs1] <;> omega, by omega⟩, ⟨h.below hb2, by simp [World.cell?, hn], by simp [World.frozen?, hn], by simp [hs1] <;> omega, by omega, by omega⟩, ?_⟩
    exact grown_of_belowP hb2 _
  have FIN : Hid (∀ wx, w.grownBy wx (some (w.heap.size + 1)) → Below w.heap.size w wx) := fun wx hg => (Below.refl _ _).grown hg (Nat.le_refl _) (fun k hk => by cases hk; omega)
  have m1 : (m : Int) = ((b : Int) - a) / 4 := by omega
  have m2 : ((b : Int) - a).tdiv 4 = m := by rw [Int.tdiv_eq_ediv_of_nonneg (by omega)]; omega
  have m3 : 3 ≤ m := by omega
  have m4 : m * 4 ≤ b - a := by omega
  have MM : Hid (m = (b - a) / 4) := hm
  clear hb1 hb2 hm m1 h
  by_cases h50 : b - a ≥ 50
  · rw [if_pos h50] at hraw
    obtain ⟨⟨p1, n1⟩, h1⟩ : ∃ r, Sort.medianAdjacent ltB d (a + m) 0 = r := ⟨_, rfl⟩
    obtain ⟨⟨p2, n2⟩, h2⟩ : ∃ r, Sort.medianAdjacent ltB d (a + m * 2) n1 = r := ⟨_, rfl⟩
    obtain ⟨⟨p3, n3⟩, h3⟩ : ∃ r, Sort.medianAdjacent ltB d (a + m * 3) n2 = r := ⟨_, rfl⟩
    rw [h1] at hraw
    simp only at hraw
    rw [h2] at hraw
    simp only at hraw
    rw [h3] at hraw
    simp only at hraw
    obtain ⟨x1, x2⟩ := median_lt (lt := ltB) (d := d) (a := a + m - 1) (b := a + m) (c := a + m + 1) (n := 0) (N := s.n) (by omega) (by omega) (by omega)
    rw [show Sort.median ltB d (a + m - 1) (a + m) (a + m + 1) 0 = (p1, n1) from h1] at x1 x2
    obtain ⟨y1, y2⟩ := median_lt (lt := ltB) (d := d) (a := a + m * 2 - 1) (b := a + m * 2) (c := a + m * 2 + 1) (n := n1) (N := s.n) (by omega) (by omega) (by omega)
    rw [show Sort.median ltB d (a + m * 2 - 1) (a + m * 2) (a + m * 2 + 1) n1 = (p2, n2) from h2] at y1 y2
    obtain ⟨z1, z2⟩ := median_lt (lt := ltB) (d := d) (a := a + m * 3 - 1) (b := a + m * 3) (c := a + m * 3 + 1) (n := n2) (N := s.n) (by omega) (by omega) (by omega)
    rw [show Sort.median ltB d (a + m * 3 - 1) (a + m * 3) (a + m * 3 + 1) n2 = (p3, n3) from h3] at z1 z2
    simp only at x1 x2 y1 y2 z1 z2
    have i50 : (50 : Int) ≤ (b : Int) - a := by omega
    have i8 : (8 : Int) ≤ (b : Int) - a := by omega
    have H1 : Hid _ := h1
    have H2 : Hid _ := h2
    have H3 : Hid _ := h3
    have HW : Hid _ := hraw.symm
    clear h1 h2 h3 hraw
    subst hw1
    go_enter Try.func62, Try.ntmps62
    go_wp2_with fail
    refine (adjacent_at HP.out (a + m) (by omega) (by omega) (by omega) _ H1.out (by omega)).mono ?_
    rintro e v1 ⟨rfl, he1⟩
    have HP1 : Hid _ := he1
    obtain ⟨k1, k2⟩ := he1.1
    clear he1
    go_wp2_with fail
    refine (adjacent_at HP1.out (a + m * 2) (by omega) (by omega) (by omega) _ H2.out (by omega)).mono ?_
    rintro e v2 ⟨rfl, he2⟩
    have HP2 : Hid _ := he2
    obtain ⟨k1, k2⟩ := he2.1
    clear he2
    go_wp2_with fail
    refine (adjacent_at HP2.out (a + m * 3) (by omega) (by omega) (by omega) _ H3.out (by omega)).mono ?_
    rintro e v3 ⟨rfl, he3⟩
    have HP3 : Hid _ := he3
    obtain ⟨k1, k2⟩ := he3.1
    clear he3
    go_wp2_with fail
    refine (median_at HP3.out p1 p2 p3 x1 y1 z1 (by omega) _ HW.out (by omega) (by omega) (by omega)).mono ?_
    rintro e v4 ⟨rfl, he4⟩
    have HF : Hid _ := he4
    have k3 := he4.2.2.1.2.1
    clear he4
    by_cases z0 : sw = 0
    · subst z0
      go_wp2
      go_ret2
      exact ⟨rfl, HF.out.2.2.1.1, FIN.out _ HF.out.2.2.2⟩
    · have z1 : ¬ (sw : Int) = 0 := by omega
      have z1' : ((sw : Int) == 0) = false := by simpa using z1
      by_cases z2 : sw = 12
      · subst z2
        go_wp2
        go_ret2
        exact ⟨rfl, HF.out.2.2.1.1, FIN.out _ HF.out.2.2.2⟩
      · have z3 : ¬ (sw : Int) = 12 := by omega
        have z3' : ((sw : Int) == 12) = false := by simpa using z3
        have HI : Hid ((if sw = 0 then (1 : Int) else if sw = 12 then 2 else 0) = 0) := by show _ = _; rw [if_neg z0, if_neg z2]
        go_wp2
        go_ret2
        exact ⟨by first | rfl | (rw [HI.out]; rfl) | (rw [if_neg z0, if_neg z2]; rfl), HF.out.2.2.1.1, FIN.out _ HF.out.2.2.2⟩
  · rw [if_neg h50] at hraw
    have i50 : ¬ (50 : Int) ≤ (b : Int) - a := by omega
    have i8 : (8 : Int) ≤ (b : Int) - a := by omega
    have HW : Hid _ := hraw.symm
    clear hraw
    subst hw1
    go_enter Try.func62, Try.ntmps62
    go_wp2_with fail
    refine (median_at HP.out (a + m) (a + m * 2) (a + m * 3) (by omega) (by omega) (by omega) (by omega) _ HW.out (by omega) (by omega) (by omega)).mono ?_
    rintro e v4 ⟨rfl, he4⟩
    have HF : Hid _ := he4
    have k3 := he4.2.2.1.2.1
    clear he4
    by_cases z0 : sw = 0
    · subst z0
      go_wp2
      go_ret2
      exact ⟨rfl, HF.out.2.2.1.1, FIN.out _ HF.out.2.2.2⟩
    · have z1 : ¬ (sw : Int) = 0 := by omega
      have z1' : ((sw : Int) == 0) = false := by simpa using z1
      by_cases z2 : sw = 12
      · subst z2
        go_wp2
        go_ret2
        exact ⟨rfl, HF.out.2.2.1.1, FIN.out _ HF.out.2.2.2⟩
      · have z3 : ¬ (sw : Int) = 12 := by omega
        have z3' : ((sw : Int) == 12) = false := by simpa using z3
        have HI : Hid ((if sw = 0 then (1 : Int) else if sw = 12 then 2 else 0) = 0) := by show _ = _; rw [if_neg z0, if_neg z2]
        go_wp2
        go_ret2
        exact ⟨by first | rfl | (rw [HI.out]; rfl) | (rw [if_neg z0, if_neg z2]; rfl), HF.out.2.2.1.1, FIN.out _ HF.out.2.2.2⟩
end Go.Proofs.Ytalfjdpdecngoaa
